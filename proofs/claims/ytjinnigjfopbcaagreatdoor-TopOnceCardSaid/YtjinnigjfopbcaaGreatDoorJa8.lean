/- aMk aPe aPf aPg aHn aGe aGk aVe aLd. -/
import Derived.DeepKeys5
import Derived.Test.YtjinnigjfopbcaaGreatDoorJa7
import Derived.Maps.OwnIn
import Derived.Test.YtjinnigjfopbcaaGreatDoorJs
set_option maxHeartbeats 16000000
namespace Go.Proofs.YtjinnigjfopbcaaGreatDoor
set_option linter.unusedVariables false
set_option linter.unusedSimpArgs false
open Go.RowKit Go.Maps Go.WideMaps
set_option maxRecDepth 20000
theorem xvN:laidOutB Tryz.prog=true:=by kernel_rfl
theorem xwY:Keyed Tryz.prog 347:=Keyed.of_law (deep_law_gate xvN (of_decide_eq_true (by kernel_rfl)) (of_decide_eq_true (by kernel_rfl)) (by kernel_rfl) (by kernel_rfl))
def klN (q:Int × Int):Lit:=.string (keyBytes [.int .u64 q.1,.int .u32 q.2])
def xo6 (q:Int × Int):Prop:=(0≤q.1∧q.1≤18446744073709551615)∧(0≤q.2∧q.2≤4294967295)
theorem xp8 (n:Nat) (x:Int) (h0:0≤x) (h1:x≤18446744073709551615):Tryz.prog.keyLits (n+1) 26 [.int .u64 x]=some [.int .u64 x]:=by
 have hw:(Lit.int .u64 x).wf=true:=WalkArith.wf_u64 ⟨h0,h1⟩
 simp[Program.keyLits,Tryz.underlying26,hw]
theorem xqs (n:Nat) (x:Int) (h0:0≤x) (h1:x≤4294967295):Tryz.prog.keyLits (n+1) 72 [.int .u32 x]=some [.int .u32 x]:=by
 have hw:(Lit.int .u32 x).wf=true:=WalkArith.wf_u32 ⟨h0,h1⟩
 simp[Program.keyLits,Tryz.underlying72,hw]
theorem xlO (n:Nat) (q:Int × Int) (h:xo6 q):Tryz.prog.keyLits (n+2) 347 [.int .u64 q.1,.int .u32 q.2]=some [.int .u64 q.1,.int .u32 q.2]:=by
 have hc:Tryz.prog.cellsOf 347=2:=by kernel_rfl
 have hc1:Tryz.prog.cellsOf 26=1:=by kernel_rfl
 have hc2:Tryz.prog.cellsOf 72=1:=by kernel_rfl
 have h1:=xp8 n q.1 h.1.1 h.1.2
 have h2:=xqs n q.2 h.2.1 h.2.2
 unfold Program.keyLits
 rw[Tryz.underlying347]
 simp[hc,hc1,hc2,h1,h2]
theorem xio (q:Int × Int):(Value.agg #[.int .u64 q.1,.int .u32 q.2]).formed Tryz.prog 347=true:=by
 have hc:Tryz.prog.cellsOf 347=2:=by kernel_rfl
 unfold Value.formed
 rw[Tryz.underlying347]
 simp[hc]
theorem xoM (q:Int × Int) (h:xo6 q):keyOf Tryz.prog 347 (.agg #[.int .u64 q.1,.int .u32 q.2])=some (klN q):=by
 have hk:Tryz.prog.keyType 347=true:=by kernel_rfl
 have h3:=xlO (Tryz.prog.types.size - 1) q h
 have hs:Tryz.prog.types.size - 1+2=Tryz.prog.types.size+1:=by kernel_rfl
 rw[hs] at h3
 unfold keyOf
 rw[Tryz.underlying347]
 simp only[hk,xio q,Bool.and_self,if_true]
 show Option.map _ (Tryz.prog.keyLits (Tryz.prog.types.size+1) 347 [.int .u64 q.1,.int .u32 q.2])=_
 rw[h3]
 rfl
theorem xvC {p q:Int × Int} (hp:xo6 p) (hq:xo6 q) (h:klN p=klN q):p=q:=by
 have h1:=xoM p hp
 have h2:=xoM q hq
 rw[h] at h1
 have h3:=xwY.inj h1 h2
 simp only[Value.agg.injEq,Array.mk.injEq,List.cons.injEq,Value.int.injEq,true_and,and_true] at h3
 exact Prod.ext h3.1 h3.2
theorem xm0 {p q:Int × Int} (hp:xo6 p) (hq:xo6 q):(klN p).sameKey (klN q)=decide (p=q):=by
 by_cases h:p=q
 ·subst h;simp[klN,Lit.sameKey]
 ·rw[decide_eq_false h]
  show (keyBytes _ == keyBytes _)=false
  rw[beq_eq_false_iff_ne]
  exact fun e=>h (xvC hp hq (by unfold klN;rw[e]))
theorem xvS (q:Int × Int):WideAt.IsKeyLit (klN q):=trivial
theorem xte (l:List (Int × Int)) (h:∀ q ∈ l,xo6 q):∃ d:List (Int × Int),(l.map klN).foldl addKey []=d.map klN∧d.length=unl l∧∀ q,q ∈ d↔q ∈ l:=by
 have key:∀ (n:Nat),n≤l.length→∃ d:List (Int × Int),((l.take n).map klN).foldl addKey []=d.map klN∧d.length=unl (l.take n)∧∀ q,q ∈ d↔q ∈ l.take n:=by
  intro n
  induction n with
  | zero=>intro _;exact⟨[],rfl,rfl,by simp⟩
  | succ n ih =>
   intro hn
   obtain⟨d,h1,h2,h3⟩:=ih (by omega)
   obtain⟨p,hp⟩:∃ p,l[n]?=some p:=⟨_,List.getElem?_eq_getElem (by omega)⟩
   have hpl:p ∈ l:=List.mem_of_getElem? hp
   have ht:l.take (n+1)=l.take n++[p]:=by rw[List.take_add_one,hp];rfl
   have hany:(d.map klN).any (fun y=>y.sameKey (klN p))=decide (p ∈ l.take n):=by
    rw[List.any_map]
    by_cases hm:p ∈ l.take n
    ·rw[decide_eq_true hm,List.any_eq_true]
     exact⟨p,(h3 p).2 hm,by simp[Function.comp,xm0 (h p hpl) (h p hpl)]⟩
    ·rw[decide_eq_false hm,List.any_eq_false]
     intro q hq
     have hql:q ∈ l:=List.mem_of_mem_take ((h3 q).1 hq)
     simp only[Function.comp,xm0 (h q hql) (h p hpl),decide_eq_true_eq]
     exact fun e=>hm (e ▸ (h3 q).1 hq)
   rw[ht,List.map_append,List.foldl_append,h1,xpd]
   simp only[List.map_cons,List.map_nil,List.foldl_cons,List.foldl_nil,addKey,hany]
   by_cases hm:p ∈ l.take n
   ·rw[if_pos hm,if_pos (decide_eq_true hm)]
    exact⟨d,rfl,h2,fun q=>by rw[List.mem_append,List.mem_singleton,h3];exact⟨.inl,fun e=>e.elim id (fun e=>e ▸ hm)⟩⟩
   ·rw[if_neg hm,if_neg (by simpa using hm)]
    exact⟨d++[p],by simp,by rw[List.length_append,h2];rfl,fun q=>by rw[List.mem_append,List.mem_append,h3]⟩
 have:=key l.length (Nat.le_refl _)
 rwa[List.take_length] at this
theorem xqZ (H:Type) (u:DataW H) (l:List (Int × Int)) (h:∀ q ∈ l,xo6 q):Maps.size (setOf u (l.map klN))=unl l:=by
 obtain⟨d,h1,h2,_⟩:=xte l h
 rw[size_setOf u _ (fun x hx=>by obtain⟨q,_,rfl⟩:=List.mem_map.1 hx;exact xvS q),h1,List.length_map,h2]
end Go.Proofs.YtjinnigjfopbcaaGreatDoor
namespace Go.Proofs.YtjinnigjfopbcaaGreatDoor
set_option linter.unusedVariables false
set_option linter.unusedSimpArgs false
open Go.RowKit Go.Shelf
set_option maxRecDepth 20000
attribute [local go_sem] Oper.semAt_some
abbrev Ok:={ e:En // xaO e∧ckN e=0 }
open Classical in
noncomputable def tk (l:List En):List Ok:=l.filterMap fun e=>if h:xaO e∧ckN e=0 then some ⟨e,h⟩ else none
theorem xwQ:tk []=[]:=rfl
theorem xrN (l:List En) (e:En) (h:xaO e∧ckN e=0):tk (l++[e])=tk l++[⟨e,h⟩]:=by simp[tk,h]
theorem xwm (l:List En) (e:En) (h:¬ ckN e=0):tk (l++[e])=tk l:=by simp[tk,h]
theorem xvg (l:List En):(tk l).length≤l.length:=List.length_filterMap_le _ _
theorem xrT (l:List En) (k:Nat):tk (l.take k) <+: tk l:=by
 refine⟨tk (l.drop k),?_⟩
 unfold tk
 rw[← List.filterMap_append,List.take_append_drop]
theorem xwq (l:List En) (k:Nat) (e:En) (he:l[k]?=some e) (h:xaO e∧ckN e=0):(tk (l.take k)).length<(tk l).length:=by
 obtain⟨r,hr⟩:=xrT l (k+1)
 rw[xdc l k e he,xrN _ e h] at hr
 rw[← hr]
 simp
theorem xrL {β:Type} {J:β→World→Prop} {B:Nat} (hJ:AbidesFrom B J) {s:β} {W W':World} (h:J s W) (hb:Below W.heap.size W W'):J s W' :=
 hJ s W W' none h ⟨hb.os,hb.tape,hb.output,hb.size,fun k hk _=>hb.block k hk⟩ (fun r e=>by cases e)
theorem xnE (n:Nat) (a:Option Addr) (len cap:Nat) (w:World) :
  CallsIn Fence.wide n Tryz.prog 227 #[.slice a len cap] w fun e w'=>e=.returned (.func (.func 278) #[] #[.pointer (some ⟨w.heap.size,0,none⟩)])∧w'=w.alloc (.cells #[.slice a len cap] 27):=by
 refine callsIn_of_wp Tryz.func227 rfl trivial ?_ rfl
 simp only[Tryz.ntmps227,List.size_toArray,List.length_cons,List.length_nil,Nat.reduceAdd,Nat.reduceSub,Array.replicate_succ,Array.replicate_zero,List.push_toArray,List.append_toArray,List.nil_append,List.cons_append]
 gi_wp2
 go_ret
 exact⟨rfl,rfl⟩
set_option maxRecDepth 100000 in
theorem xl4 (n:Nat) (hn:1≤n) (lp Bs:Nat) (w₀:World) (v:Value) (zs:List En) (hm:xay zs) (hv:xak w₀ v zs) (J Jx:List Ok→World→Prop)
  (W:World) (hW:Below w₀.heap.size w₀ W) (hJ:AbidesFrom W.heap.size J)
  (hY:∀ pre x W1,J pre W1→pre.length<(tk zs).length→YieldAt Fence.wide (n - 1) Tryz.prog lp #[.agg (eC x.1)] W1 fun e W' =>
   (e=.returned (.bool true)∧J (pre++[x]) W'∧Below w₀.heap.size W1 W')∨(e=.returned (.bool false)∧Jx (pre++[x]) W'))
  (hBs:W.cell? ⟨Bs,0,none⟩=some v) (h0:J [] W) :
  CallsIn Fence.wide n Tryz.prog 278 #[.func (.yield lp) #[] #[],.pointer (some ⟨Bs,0,none⟩)] W fun e W'=>(∃ v,e=.returned v) ∧
   ((∃ ys,ys=tk zs∧J ys W')∨(∃ pre,pre <+: tk zs∧Jx pre W')):=by
 obtain⟨al,cap,rfl,hcap,hmx,hc⟩:=hv
 have HC:=lH hc
 have HM:=lH hm
 have HJ:=lH hJ
 have HY:=lH hY
 have hml:zs.length≤9223372036854775807:=by unfold maxLen at hmx;omega
 clear hc hm hJ hY
 refine callsIn_of_wp Tryz.func278 rfl trivial ?_ rfl
 simp only[Tryz.ntmps278,List.size_toArray,List.length_cons,List.length_nil,Nat.reduceAdd,Nat.reduceSub,Array.replicate_succ,Array.replicate_zero,List.push_toArray,List.append_toArray,List.nil_append,List.cons_append]
 gi_wp2
 gi_loopw [7] (fun i wr=>∃ k:Nat,k≤zs.length∧i=.int .i64 k∧Hid (J (tk (zs.take k)) wr)∧Below w₀.heap.size w₀ wr) (fun i _=>zs.length - (intOf i).toNat)
 case atStart=>exact⟨0,Nat.zero_le _,rfl,lH h0,hW⟩
 case round =>
  obtain⟨k,hk,rfl,HJs,hnx⟩:=hrel
  by_cases hlt:k<zs.length
  ·obtain⟨e,he⟩:∃ t,zs[k]?=some t:=⟨_,List.getElem?_eq_getElem hlt⟩
   obtain⟨g,off,rfl,hg,l0,l1,l2,l3⟩:=HC.out k e he
   have hme:=HM.out e (List.mem_of_getElem? he)
   have HK:=lH (fun W=>xc8 e W hme)
   have hi2:(k:Int)<(zs.length:Int):=by omega
   have c0:=(hnx.cell (p:=⟨g,off+k*4,none⟩) hg).trans l0
   have c1:=(hnx.cell (p:=⟨g,off+k*4+1,none⟩) hg).trans l1
   have c2:=(hnx.cell (p:=⟨g,off+k*4+2,none⟩) hg).trans l2
   have c3:=(hnx.cell (p:=⟨g,off+k*4+3,none⟩) hg).trans l3
   have HX:=lH (EAt.made wr e 74)
   have HBX:=lH ((Below.refl wr.heap.size wr).alloc (Nat.le_refl _) (.cells (eC e) 74))
   have HN:=lH hnx
   clear l0 l1 l2 l3 hnx
   unfold eC at HK HX HBX
   by_cases hck:ckN e=0
   ·rw[hck] at HK
    have HT:=lH (xwq zs k e he ⟨hme,hck⟩)
    have HE:=lH (And.intro he (And.intro hme hck))
    clear he hme hck
    gi_wp2
    refine⟨trivial,(callsIn_wide.2 (HK.out _)).mono ?_⟩
    rintro x w1 ⟨rfl,hb⟩
    obtain⟨k0,k1,k2,k3⟩:=EAt.later HX.out hb
    have hb1:=HBX.out.trans (hb.mono HBX.out.size)
    have HN1:=lH (HN.out.trans (hb1.mono HN.out.size))
    have hJ1:=xrL HJ.out HJs.out hb1
    obtain⟨fn,tmps,assign,body,hy,hR⟩:=HY.out _ ⟨e,HE.out.2⟩ w1 hJ1 HT.out
    dsimp only[eC] at hy
    have HR:=lH hR
    have HK1:=lH (xrN (zs.take k) e HE.out.2)
    have HP1:=lH (xrT zs (k+1))
    rw[xdc zs k e HE.out.1] at HP1
    have HT1:=lH (xdc zs k e HE.out.1)
    clear hb hb1 hJ1 hR HX HBX HN HJs HT c0 c1 c2 c3
    gi_wp2
    refine HR.out.mono ?_
    rintro x W3 (⟨rfl,hJ3,hk3⟩|⟨rfl,hJx3⟩)
    ·have HJ3:=lH hJ3
     have HN3:=lH (HN1.out.trans hk3)
     clear hJ3 hk3
     gi_wp2
     go_roundw
     case rel=>exact⟨k+1,by omega,by go_num,lH (by rw[HT1.out,HK1.out];exact HJ3.out),HN3.out⟩
     case measure=>simp[intOf];omega
    ·have HJ3:=lH hJx3
     clear hJx3
     gi_wp2
     refine bodyPost_ret (results_none rfl _ _ _) rfl ?_
     exact⟨⟨_,rfl⟩,.inr ⟨_,by rw[← HK1.out];exact HP1.out,HJ3.out⟩⟩
   ·obtain⟨r,hr⟩:∃ r,ckN e=r:=⟨_,rfl⟩
    have HK1:=lH (xwm (zs.take k) e hck)
    have HT1:=lH (xdc zs k e he)
    rw[hr] at HK hck
    have hne:(r == 0)=false:=by simpa using hck
    clear he hme hck hr
    gi_wp2
    refine⟨trivial,(callsIn_wide.2 (HK.out _)).mono ?_⟩
    rintro x w1 ⟨rfl,hb⟩
    have hb1:=HBX.out.trans (hb.mono HBX.out.size)
    have HN1:=lH (HN.out.trans (hb1.mono HN.out.size))
    have HJ1:=lH (xrL HJ.out HJs.out hb1)
    clear hb hb1 HX HBX HN HJs c0 c1 c2 c3
    gi_wp2
    refine⟨fun _ h=>(by cases h),?_⟩
    gi_wp2
    go_roundw
    case rel=>exact⟨k+1,by omega,by go_num,lH (by rw[HT1.out,HK1.out];exact HJ1.out),HN1.out⟩
    case measure=>simp[intOf];omega
  ·obtain rfl:k=zs.length:=by omega
   have hJ0:=HJs.out
   rw[List.take_length] at hJ0
   have HJ0:=lH hJ0
   clear hJ0 HJs
   gi_wp2
   go_end0
   exact⟨⟨_,rfl⟩,.inl ⟨_,rfl,HJ0.out⟩⟩
theorem xhv (n:Nat) (hn:1≤n) (Bs:Nat) (w₀ w:World) (v:Value) (zs:List En) (hm:xay zs) (hv:xak w₀ v zs) (hw:Below w₀.heap.size w₀ w) (hBs:w.cell? ⟨Bs,0,none⟩=some v) :
  SeqStopsK Fence.wide n Tryz.prog 278 #[.pointer (some ⟨Bs,0,none⟩)] (fun x:Ok=>#[.agg (eC x.1)]) (Below w₀.heap.size) (fun ys=>ys=tk zs) (fun pre=>pre <+: tk zs) (tk zs).length w:=fun l J Jx W hW hJ _ hY h0 =>
 xl4 n hn l Bs w₀ v zs hm hv J Jx W (hw.trans (hW.mono hw.size)) hJ hY ((hW.cell (p:=⟨Bs,0,none⟩) (xba hBs)).trans hBs) h0
end Go.Proofs.YtjinnigjfopbcaaGreatDoor
namespace Go.Proofs.YtjinnigjfopbcaaGreatDoor
set_option linter.unusedVariables false
set_option linter.unusedSimpArgs false
open Go.RowKit Go.Shelf
set_option maxRecDepth 20000
attribute [local go_sem] Oper.semAt_some
theorem xsg (l:List En) (e:En) (h:xaO e∧ckN e=0):tk (e :: l)=⟨e,h⟩ :: tk l:=by simp[tk,h]
theorem xvc (l:List En) (e:En) (h:¬ ckN e=0):tk (e :: l)=tk l:=by simp[tk,h]
theorem xtl {B:Nat} (b:Nat) (e:En):OwnFrom B (fun(_:Unit) W=>EAt W b e):=fun _ X Y row hs hg hr =>
 ⟨cell_kept hs.1 hg (fun r h=>(hr r h).2),cell_kept hs.2.1 hg (fun r h=>(hr r h).2),cell_kept hs.2.2.1 hg (fun r h=>(hr r h).2),cell_kept hs.2.2.2 hg (fun r h=>(hr r h).2)⟩
end Go.Proofs.YtjinnigjfopbcaaGreatDoor
namespace Go.Proofs.YtjinnigjfopbcaaGreatDoor
set_option linter.unusedVariables false
set_option linter.unusedSimpArgs false
open Go.RowKit Go.Shelf Go.Maps Go.WideMaps
set_option maxRecDepth 20000
attribute [local go_sem] Oper.semAt_some
def prN (l:List Ok):List (Int × Int):=(l.filter fun x=>decide (0<x.1.rn)).map fun x=>(x.1.off,x.1.ln)
theorem xkD (l:List Ok) (x:Ok):prN (l++[x])=prN l++(if 0<x.1.rn then [(x.1.off,x.1.ln)] else []):=by
 unfold prN
 rw[List.filter_append,List.map_append]
 by_cases h:0<x.1.rn <;> simp[h]
theorem xvt (l:List En) (hm:xay l):prN (tk l)=xfR l:=by
 induction l with
 | nil=>rfl
 | cons e l ih =>
  have h1:=ih (fun x hx=>hm x (List.mem_cons_of_mem _ hx))
  have hme:=hm e (List.mem_cons_self ..)
  by_cases h:ckN e=0
  ·rw[xsg l e ⟨hme,h⟩]
   by_cases h2:0<e.rn
   ·simp only[prN,xfR,List.filter_cons,h,h2,decide_true,Bool.and_self,if_true,List.map_cons] at h1 ⊢
    rw[h1]
   ·simp only[prN,xfR,List.filter_cons,h,h2,decide_true,decide_false,Bool.and_false,Bool.true_and,Bool.false_eq_true,if_false] at h1 ⊢
    exact h1
  ·rw[xvc l e h,h1]
   simp[xfR,List.filter_cons,h]
theorem xoy (l:List En) (hm:xay l):∀ q ∈ xfR l,xo6 q:=fun q hq=>by
 obtain⟨e,he,_,_,h1,h2⟩:=(xna l q).1 hq
 have:=hm e he
 unfold xaO at this
 unfold xo6
 rw[← h1,← h2]
 exact⟨this.2.1,this.2.2.1⟩
theorem xd2 {H:Type} {P:Program} {k:TypeId} {R:Value→Option (DataW H × List MemPlace)} {w w':World} {b n B:Nat} {D:DataW H} (h:w.ownsMap P k R b n D) (hb:Below B w w') (hB:b<B):w'.ownsMap P k R b n D:=by
 obtain⟨es,clock,h1,h2⟩:=h
 exact⟨es,clock,(hb.block b hB).trans h1,h2⟩
theorem xfz {B:Nat} {W W':World} (hb:Below W.heap.size W W'):KeepsFrom B W W':=⟨hb.size,fun k o _ hk _=>(hb.block k (Array.getElem?_eq_some_iff.1 hk).1).trans hk⟩
theorem xdm {W W':World} {b:Nat} {t:TypeId} {v:Value} (h:Boxed W b t v) (hb:Below W.heap.size W W'):Boxed W' b t v:=(hb.block b h.lt).trans h
def xqA (l:List Ok):DataW Unit:=setOf (.lit (.bool true)) ((prN l).map klN)
theorem xpF (l:List Ok) (x:Ok) (h:0<x.1.rn):xqA (l++[x])=(xqA l).put (klN (x.1.off,x.1.ln)) (.lit (.bool true)):=by
 unfold xqA
 rw[xkD,if_pos h,List.map_append]
 exact setOf_snoc _ _ _
theorem xtb (l:List Ok) (x:Ok) (h:¬ 0<x.1.rn):xqA (l++[x])=xqA l:=by
 unfold xqA
 rw[xkD,if_neg h,List.append_nil]
set_option maxRecDepth 100000 in
theorem xoU (v:Value) (l:List En) (w:World) (hv:xak w v l) (hm:xay l) (hl:l.length≤100000):Calls Tryz.prog 149 #[v] w fun x w'=>x=.returned (.int .i64 (conN l:Nat))∧Below w.heap.size w w':=by
 have HS:=lH (fun n hn Bs W hW hc=>xhv n hn Bs w W v l hm hv hW hc)
 have hlen:=Nat.le_trans (xvg l) hl
 have HSz:Hid (Maps.size (xqA (tk l))=conN l):=lH (by unfold xqA;rw[xvt l hm];exact xqZ Unit (.lit (.bool true)) (xfR l) (xoy l hm))
 have hmm:=@run_makeMap Tryz.prog
 obtain⟨al,cap,rfl,-,-,-⟩:=hv
 refine(callsIn_wide (n:=3)).1 ?_
 refine callsIn_of_wp_marks Tryz.func149 rfl trivial ?_ rfl
 simp only[Tryz.ntmps149,List.size_toArray,List.length_cons,List.length_nil,Nat.reduceAdd,Nat.reduceSub,Array.replicate_succ,Array.replicate_zero,List.push_toArray,List.append_toArray,List.nil_append,List.cons_append]
 gi_wp2
 refine⟨trivial,(xnE _ _ _ _ _).mono ?_⟩
 rintro x w1 ⟨rfl,rfl⟩
 gi_wp2
 have hm0:=World.ownsMap_made w Tryz.prog 347 (plainElem (H:=Unit) Tryz.prog 4)
 have hm1:=(hm0.alloc (.cells #[.map (some w.heap.size)] 342)).alloc (.cells #[.slice al l.length cap] 27)
 have bP:=(Boxed.new (w.alloc (.map #[] 0)) 342 (.map (some w.heap.size))).alloc (.cells #[.slice al l.length cap] 27)
 have bA:=Boxed.new ((w.alloc (.map #[] 0)).alloc (.cells #[.map (some w.heap.size)] 342)) 27 (.slice al l.length cap)
 simp only[World.size_alloc] at bA bP
 have hB0:Below w.heap.size w (((w.alloc (.map #[] 0)).alloc (.cells #[.map (some w.heap.size)] 342)).alloc (.cells #[.slice al l.length cap] 27)):=(((Below.refl _ w).alloc (Nat.le_refl _) _).alloc (by simp) _).alloc (by simp;omega) _
 have hsz:(((w.alloc (.map #[] 0)).alloc (.cells #[.map (some w.heap.size)] 342)).alloc (.cells #[.slice al l.length cap] 27)).heap.size=w.heap.size+3:=by simp
 obtain⟨W0,hW0⟩:∃ W0,((w.alloc (.map #[] 0)).alloc (.cells #[.map (some w.heap.size)] 342)).alloc (.cells #[.slice al l.length cap] 27)=W0:=⟨_,rfl⟩
 rw[hW0] at bP bA hB0 hsz hm1 ⊢
 clear hW0 hm0
 refine wpIn_rangeFunc_ownH rfl (by omega) (gf:=278) (lb:=#[.pointer (some ⟨w.heap.size+1+1,0,none⟩)]) rfl trivial (enters_of Tryz.func278 (by kernel_rfl) rfl)
  (HS.out (3 - 1) (by omega) (w.heap.size+1+1) W0 hB0 bA.cell) belowK_t (belowK_b (by omega)) (Below.refl _ _) (fun _=>rfl)
  (fun pre W=>(Boxed W (w.heap.size+1) 342 (.map (some w.heap.size))∧W.ownsMap Tryz.prog 347 (plainElem (H:=Unit) Tryz.prog 4) w.heap.size pre.length (xqA pre))∧Below w.heap.size w W)
  (fun _ _ _=>False)
  (OwnFrom.and (OwnFrom.and (Own.from (boxed_own _ _ _) _) (fun s A B row hs hg hr=>hs.kept hg (fun e=>by have:=(hr _ e.symm).1;omega))) (ownFrom_below (Nat.le_refl _) (by omega)))
  (fun _ _ _ _ _ hs _ _=>hs)
  ⟨⟨bP,hm1⟩,hB0⟩
  (fun x a' W=>∃ Bx,w.heap.size+1<Bx∧EAt W Bx x.1∧a'={ tmps:=#[.slice al l.length cap,undef,.int .i64 0,.pointer (some ⟨w.heap.size+1,0,none⟩),.pointer (some ⟨Bx,0,none⟩),.map (some w.heap.size),.slice al l.length cap,.func (.func 278) #[] #[.pointer (some ⟨w.heap.size+1+1,0,none⟩)],.agg (eC x.1),undef,undef,undef,undef,undef,undef,undef,undef,undef,undef,undef],defers:=[] })
  (fun x a' _ X Y row hs hg hr=>by obtain⟨Bx,h1,h2,h3⟩:=hs;exact⟨Bx,h1,xtl Bx x.1 () X Y row h2 hg hr,h3⟩)
  ?assign ?body ?done ?stop
 case assign =>
  rintro lp pre x W K ⟨⟨bP1,hm2⟩,hB1⟩ hK
  have HX:=EAt.made W x.1 74
  have HK:=lH (hK _ (W.alloc (.cells (eC x.1) 74)) ((KeepsOthers.alloc _ _).from _) ((Below.refl _ W).alloc hB1.size _) ⟨⟨bP1.alloc _,hm2.alloc _⟩,hB1.alloc hB1.size _⟩ ⟨W.heap.size,bP1.lt,HX,rfl⟩)
  clear hK HX
  unfold eC at HK ⊢
  gi_wp2
  exact HK.out
 case body =>
  rintro lp pre x a' W hlp ⟨r,hr⟩ ⟨⟨bP1,hm2⟩,hB1⟩ ⟨Bx,hBx,bX,rfl⟩ hlt
  have hmx:=x.2.1
  unfold xaO at hmx
  have HKey:=lH (xoM (x.1.off,x.1.ln) ⟨hmx.2.1,hmx.2.2.1⟩)
  have HP:=lH (fun W=>xgV x.1 W)
  have HO:=lH hm2
  have HBP:=lH bP1
  have HB1:=lH hB1
  have HX:=lH bX
  have hln:pre.length<maxLen:=by unfold maxLen;omega
  clear hr hm2 bP1
  unfold eC at HP ⊢
  obtain⟨k0,k1,k2,k3⟩:=bX
  by_cases h0:x.1.rn=0
  ·have hd:decide (x.1.rn=0)=true:=by simpa using h0
   rw[hd] at HP
   have HT:=lH (xtb pre x (by omega))
   clear h0 hd hmx
   gi_wp2
   refine⟨trivial,(CallsIn.inRound lp (callsIn_wide.2 (HP.out _))).mono ?_⟩
   rintro y w1 ⟨rfl,hb⟩
   have HK1:=lH hb
   clear hb k0 k1 k2 k3
   gi_wp2
   refine⟨xfz HK1.out,HK1.out.mono hB1.size,⟨xdm HBP.out HK1.out,?_⟩,HB1.out.trans (HK1.out.mono hB1.size)⟩
   rw[HT.out]
   exact((xd2 HO.out HK1.out (by have:=hB1.size;have:=HBP.out.lt;omega)).mono (by simp))
  ·have hd:decide (x.1.rn=0)=false:=by simpa using h0
   rw[hd] at HP
   have HT:=lH (xpF pre x (by omega))
   clear h0 hd hmx
   gi_wp2
   refine⟨trivial,(CallsIn.inRound lp (callsIn_wide.2 (HP.out _))).mono ?_⟩
   rintro y w1 ⟨rfl,hb⟩
   obtain⟨c0,c1,c2,c3⟩:=EAt.later HX.out hb
   have cP:=(xdm HBP.out hb).cell
   have hown:=xd2 HO.out hb (by have:=hB1.size;have:=HBP.out.lt;omega)
   have HK1:=lH hb
   clear hb k0 k1 k2 k3
   gi_wp2_with (gi_at_mapUpdate;refine wpListIn_mapUpdate_own _ rfl _ _ _ 342 rfl 347 4 xwY Tryz.underlying342 (plainElem (H:=Unit) Tryz.prog 4) w.heap.size pre.length _ rfl hown hln _ _ _ rfl rfl HKey.out _ [] (plainElem_bool Tryz.underlying4 true) ?_;intro w2 hown2 hgrow2)
   have hKF:KeepsFrom W0.heap.size w1 w2:=KeepsFrom.of_grownBy hgrow2 (fun j e=>by cases e;omega)
   have hBW:Below w.heap.size W w2:=(HK1.out.mono hB1.size).trans ((Below.refl _ w1).grown hgrow2 (Nat.le_trans hB1.size HK1.out.size) (fun k e=>by cases e;exact Nat.le_refl _))
   refine⟨(xfz HK1.out).trans hKF,hBW,⟨?_,?_⟩,HB1.out.trans hBW⟩
   ·exact(xdm HBP.out HK1.out).kept hgrow2 (fun e=>by have:=Option.some.inj e;omega)
   ·rw[HT.out,List.length_append]
    exact hown2
 case done =>
  rintro D zs W hD rfl ⟨⟨bP1,hown⟩,hB1⟩ hK
  have cP:=bP1.cell
  have HB1:=lH hB1
  clear hB1
  gi_wp2_with (gi_at_len;refine wpListIn_len_own _ rfl _ 342 rfl 347 4 Tryz.underlying342 _ w.heap.size _ _ rfl hown ?_)
  refine⟨by simp,.inl ⟨_,_,rfl,run_takeDeferred hK,?_⟩⟩
  refine⟨_,results_tmp rfl _ _ _,?_,HB1.out.trans (belowK_b (w:=w) (Nat.le_refl _) W D _ _ (by omega) hK rfl rfl)⟩
  exact xuB (by rw[HSz.out])
 case stop =>
  rintro D c pre W _ _ h _
  exact h.elim
end Go.Proofs.YtjinnigjfopbcaaGreatDoor
namespace Go.Proofs.YtjinnigjfopbcaaGreatDoor
set_option linter.unusedVariables false
set_option linter.unusedSimpArgs false
open Go.RowKit Go.Shelf
set_option maxRecDepth 20000
attribute [local go_sem] Oper.semAt_some
def idC (l:List It) (k:Nat):Int:=((l.getD k (0,{ data:=#[] })).1:Int)
def txC (l:List It) (k:Nat):ByteArray:=(l.getD k (0,{ data:=#[] })).2
def VC (B0:Nat) (v:Value) (l:List It) (b:Nat):Prop:=b=B0∨(l≠[]∧∃ a n c,v=.slice (some a) n c∧b=a.block)
theorem KeepsS.its {S S':Nat→Prop} {W W':World} {v:Value} {l:List It} (h:KeepsS S S' W W') (hoff:∀ a n c,l≠[]→v=.slice (some a) n c→¬ S a.block) (hv:ItsAt W v l):ItsAt W' v l:=by
 obtain⟨a,cap,rfl,h1,h2,hc⟩:=hv
 refine⟨a,cap,rfl,h1,h2,fun k t ht=>?_⟩
 obtain⟨g,off,rfl,hg,c0,c1⟩:=hc k t ht
 have hn:=hoff ⟨g,off,none⟩ _ _ (by rintro rfl;simp at ht) rfl
 exact⟨g,off,rfl,Nat.lt_of_lt_of_le hg h.size,h.cell (p:=⟨g,off+k*2,none⟩) hn c0,h.cell (p:=⟨g,off+k*2+1,none⟩) hn c1⟩
set_option maxRecDepth 100000 in
theorem xk7 (v:Value) (l:List It) (B0:Nat) (w:World) (hv:ItsAt w v l) (h1:w.cell? ⟨B0,0,none⟩=some v) :
  xrx Tryz.prog 205 #[.pointer (some ⟨B0,0,none⟩)] (fun k=>#[.int .u64 (idC l k),.string (txC l k)]) l.length (fun _=>False) (VC B0 v l) (fun _ _=>True) (fun _=>True) w:=by
 intro n lp J Jx S0 W hW hJ hJx hG hS0 hY h0
 have hoff:∀ a n c,l≠[]→v=.slice (some a) n c→¬ S0 a.block:=fun a n c hl hv hs=>(hS0 _ hs).2 (.inr ⟨hl,a,n,c,hv,rfl⟩)
 have hvW:=hv.below hW
 have hn1:¬ S0 B0:=fun h=>(hS0 _ h).2 (.inl rfl)
 have g1:=xal hW h1
 obtain⟨al,cap,rfl,hcap,hmx,_⟩:=hv
 have hml:l.length≤9223372036854775807:=by unfold maxLen at hmx;omega
 have HJ:=lH hJ
 have HG:=lH hG
 have HY:=lH hY
 have HO:=lH hoff
 have HVW:=lH hvW
 have HN:=lH hn1
 clear hJ hY hS0 hJx hoff hvW h1 hn1 hcap hmx hG
 refine callsIn_of_wp Tryz.func205 rfl trivial ?_ rfl
 simp only[Tryz.ntmps205,List.size_toArray,List.length_cons,List.length_nil,Nat.reduceAdd,Nat.reduceSub,Array.replicate_succ,Array.replicate_zero,List.push_toArray,List.append_toArray,List.nil_append,List.cons_append]
 gi_wp2
 gi_loopw [8] (fun i wr=>∃ k:Nat,k≤l.length∧i=.int .i64 k∧∃ S,Hid (J k S wr)∧Hid (KeepsS S0 S W wr)) (fun i _=>l.length - (intOf i).toNat)
 case atStart=>exact⟨0,Nat.zero_le _,rfl,S0,lH h0,lH (.refl _ _)⟩
 case round =>
  obtain⟨k,hk,rfl,S,HJs,HK⟩:=hrel
  by_cases hlt:k<l.length
  ·obtain⟨⟨x,t⟩,he⟩:∃ t,l[k]?=some t:=⟨_,List.getElem?_eq_getElem hlt⟩
   have hi2:(k:Int)<(l.length:Int):=by omega
   have hV:=HK.out.its HO.out HVW.out
   obtain⟨al',cap',hav,_,_,hc⟩:=hV
   obtain⟨g,off,rfl,hg,l0,l1⟩:=hc k _ he
   have hid:idC l k=(x:Int):=by unfold idC;rw[List.getD_eq_getElem?_getD,he];rfl
   have htx:txC l k=t:=by unfold txC;rw[List.getD_eq_getElem?_getD,he];rfl
   have HKX:=lH (KeepsS.alloc S wr (.cells #[.int .u64 x,.string t] 67))
   have HJX:=lH (HJ.out.alloc (s:=(k,S)) HJs.out (.cells #[.int .u64 x,.string t] 67))
   cases hav
   obtain⟨fn,tmps,assign,body,hy,hR⟩:=HY.out k S _ HJX.out hlt
   rw[hid,htx] at hy
   have HR:=lH hR
   clear hR he hc g1 hid htx HJs
   gi_wp2
   refine⟨xbn,HR.out.mono ?_⟩
   rintro x W3 (⟨rfl,S3,hJ3,hk3⟩|⟨rfl,hJx3,_⟩)
   ·have HJ3:=lH hJ3
    have HK3:=lH ((HK.out.trans HKX.out).trans hk3)
    clear hJ3 hk3 hy HR l0 l1
    gi_wp2
    go_roundw
    case rel=>exact⟨k+1,by omega,by go_num,S3,HJ3,HK3⟩
    case measure=>simp[intOf];omega
   ·have HJ3:=lH hJx3
    clear hJx3 hy HR l0 l1
    gi_wp2
    refine bodyPost_ret (results_none rfl _ _ _) rfl ?_
    exact⟨⟨_,rfl⟩,.inr ⟨k+1,by omega,HJ3.out⟩⟩
  ·obtain rfl:k=l.length:=by omega
   clear g1
   gi_wp2
   go_end0
   exact⟨⟨_,rfl⟩,.inl ⟨S,HJs.out,trivial⟩⟩
theorem xkZ (s:Value) (l:List It) (w:World) (h:ChS w s l) :
  Calls Tryz.prog 129 #[.agg #[s]] w fun e w'=>e=.returned (.func (.func 205) #[] #[.pointer (some ⟨w.heap.size,0,none⟩)])∧w'.cell? ⟨w.heap.size,0,none⟩=some s∧Below w.heap.size w w':=by
 obtain⟨a,n,c,rfl⟩:=h.form
 clear h
 go_enter Tryz.func129,Tryz.ntmps129
 go_wp2_with fail
 go_ret
 exact⟨rfl,by simp[go_sem],by go_grown⟩
end Go.Proofs.YtjinnigjfopbcaaGreatDoor
namespace Go.Proofs.YtjinnigjfopbcaaGreatDoor
set_option linter.unusedVariables false
set_option linter.unusedSimpArgs false
open Go.RowKit
set_option maxRecDepth 20000
def xo7 (s:ByteArray) (t:Kt):Bool:=decide (t.2=s)
def xxh (s:ByteArray) (l:List Kt) (w:World) (e:Ending) (w':World):Prop:=∃ r:Int,e=.returned (.int .i64 r)∧((r=-1∧∀ t ∈ l,xo7 s t=false)∨∃ i:Nat,r=i∧i<l.length∧(∀ t ∈ l.take i,xo7 s t=false)∧∃ t,l[i]?=some t∧xo7 s t=true)∧Below w.heap.size w w'
theorem xsu (v:Value) (l:List Kt) (s:ByteArray) (w:World) (hv:xoj w v l) (hl:l.length≤100000):Calls Tryz.prog 272 #[v,.func (.func 271) #[.string s] #[]] w (xxh s l w):=by
 obtain⟨a,cap,rfl,h1,h2,hc⟩:=hv
 have HC:=lH hc
 clear hc
 go_enter Tryz.func272,Tryz.ntmps272
 go_wp2_with fail
 go_loopw [8] (fun x wr=>∃ i:Nat,i≤l.length∧x=.int .i64 i∧Hid (∀ t ∈ l.take i,xo7 s t=false)∧Below w.heap.size w wr) (fun x _=>l.length - (intOf x).toNat)
 case atStart=>exact⟨0,Nat.zero_le _,rfl,lH (fun t ht=>by simp at ht),Below.refl _ _⟩
 case round =>
  obtain⟨i,hi,rfl,HM,hbw⟩:=hrel
  by_cases hlt:i<l.length
  ·obtain⟨t,ht⟩:∃ t,l[i]?=some t:=⟨_,List.getElem?_eq_getElem hlt⟩
   obtain⟨g,off,rfl,hg,l0,l1,l2⟩:=HC.out i t ht
   replace l0:=(hbw.cell (p:=⟨g,off+i*3,none⟩) hg).trans l0
   replace l1:=(hbw.cell (p:=⟨g,off+i*3+1,none⟩) hg).trans l1
   replace l2:=(hbw.cell (p:=⟨g,off+i*3+2,none⟩) hg).trans l2
   have hi2:(i:Int)<(l.length:Int):=by omega
   have HT:=lH ht
   have HE:=lH (xu5 s t wr)
   have HTK:Hid (l.take (i+1)=l.take i++[t]):=lH (by rw[List.take_add_one,ht];rfl)
   clear ht
   by_cases hp:xo7 s t=true
   ·have HP:=lH hp
    rw[show decide (t.2=s)=true from hp] at HE
    clear hp
    go_wp2_with fail
    refine HE.out.mono ?_
    rintro e w1 ⟨rfl,hb⟩
    have hbw1:=hbw.trans (hb.mono hbw.size)
    clear hb hbw l0 l1 l2 HE
    go_wp2_with fail
    go_ret
    exact⟨i,rfl,.inr ⟨i,rfl,hlt,HM.out,_,HT.out,HP.out⟩,hbw1⟩
   ·replace hp:xo7 s t=false:=by simpa using hp
    have HP:=lH hp
    rw[show decide (t.2=s)=false from hp] at HE
    clear hp
    go_wp2_with fail
    refine HE.out.mono ?_
    rintro e w1 ⟨rfl,hb⟩
    have hbw1:=hbw.trans (hb.mono hbw.size)
    clear hb hbw l0 l1 l2 HE
    go_wp2_with fail
    go_roundw
    case rel =>
     refine⟨i+1,by omega,by go_num,lH (fun t ht=>?_),hbw1⟩
     rw[HTK.out] at ht
     rcases List.mem_append.1 ht with ht|ht
     ·exact HM.out t ht
     ·rw[List.mem_singleton] at ht;rw[ht];exact HP.out
    case measure=>simp[intOf];omega
  ·obtain rfl:i=l.length:=by omega
   rw[List.take_length] at HM
   go_wp2_with fail
   go_ret
   exact⟨-1,rfl,.inl ⟨rfl,HM.out⟩,hbw⟩
theorem xoB {s:ByteArray} {l:List ByteArray} (h:∀ t ∈ grp (bkt s) (plc l 0),xo7 s t=false):xaN s l 0=none:=by
 rw[← xj4]
 have:=xuv (fun t=>decide (t.2=s)) _ h
 rw[this];rfl
theorem xn7 {s:ByteArray} {l:List ByteArray} {i:Nat} {t:Kt} (hi:(grp (bkt s) (plc l 0))[i]?=some t) (hp:xo7 s t=true) (hn:∀ x ∈ (grp (bkt s) (plc l 0)).take i,xo7 s x=false):xaN s l 0=some t.1∧t.2=s:=by
 refine⟨?_,by simpa[xo7] using hp⟩
 rw[← xj4]
 have:=xkV (fun t=>decide (t.2=s)) _ i t hi hp hn
 rw[this];rfl
def xiQ (l:List ByteArray) (s:ByteArray):Value:=.tuple #[.agg #[.int .u64 (xwL (xaN s l 0):Nat),.int .u32 (xxg (xaN s l 0) s:Nat)],.bool (xaN s l 0).isSome]
set_option maxRecDepth 20000 in
theorem xqg (w:World) (pb:Nat) (va vm:Value) (G:Int→Value) (l:List ByteArray) (h:PoolAt w pb va vm G l) (s:ByteArray):Calls Tryz.prog 207 #[.pointer (some ⟨pb,0,none⟩),.int .i64 (bkt s),.string s] w fun e w'=>e=.returned (xiQ l s)∧Below w.heap.size w w':=by
 have hr:=xhl s
 have hw:(Lit.int .i64 (bkt s)).wf=true:=wf_i64 (by omega) (by omega)
 have hf:=h.good.few
 have hlg:(grp (bkt s) (plc l 0)).length≤100000:=by have:=xne (bkt s) (plc l 0);rw[xcO] at this;omega
 have hb1:Below w.heap.size w (w.alloc (.cells #[.int .u64 0,.int .u32 0] 227)):=(Below.refl _ _).alloc (Nat.le_refl _) _
 have h1:=h.below hb1
 have hk0:=(h.grps (bkt s)).ktsAt
 have hk1:=hk0.below hb1
 have hlook:=h1.look (bkt s) hw
 have HI:=lH (xsu _ _ s _ hk1 hlg)
 have HK:=lH hk0
 have HB:=lH hb1
 obtain⟨c0,c1,_,_⟩:=h1.two
 have ht2:=xem w (.int .u64 0) (.int .u32 0) 227
 clear h h1 hk0 hk1 hb1 hlg hw hr hf
 generalize hG:G (bkt s)=gv at *
 clear hG
 go_enter Tryz.func207,Tryz.ntmps207
 go_wp2_with fail
 generalize w.alloc (.cells #[.int .u64 0,.int .u32 0] 227)=W at *
 refine HI.out.mono ?_
 rintro e w1 ⟨r,rfl,hr,hb⟩
 have hbb:=Below.trans HB.out (hb.mono HB.out.size)
 have h2:=ht2.below hb
 have H2:=lH h2
 have HBB:=lH hbb
 obtain⟨k0,k1,k2,k3⟩:=h2
 have hwn:w.heap.size<w1.heap.size:=xa3 k0
 rcases hr with ⟨rfl,hno⟩|⟨i,rfl,hi,hno,t,ht,hp⟩
 ·have HN:=lH (xoB hno)
  clear hno HK HI hlook hb hbb
  go_wp2_with fail
  refine bodyPost_ret (xgc rfl _ _ w.heap.size _ _ _ _ rfl rfl (H2.out.set _ _).1 (H2.out.set _ _).2.1 Tryz.underlying227 rfl xb3) rfl ⟨?_,?_⟩
  ·unfold xiQ
   rw[HN.out]
   rfl
  ·exact(HBB.out.setCell (p:=⟨w.heap.size,0,none⟩) (Nat.le_refl _) _).setCell (p:=⟨w.heap.size,1,none⟩) (Nat.le_refl _) _
 ·have HS:=lH (xn7 ht hp hno)
  obtain⟨al,cap,rfl,hcap,hmx,hc⟩:=HK.out
  obtain⟨g,off,rfl,hg,d0,d1,d2⟩:=hc i t ht
  have hne:g≠w.heap.size:=by omega
  replace d0:=(hbb.cell (p:=⟨g,off+i*3,none⟩) hg).trans d0
  replace d1:=(hbb.cell (p:=⟨g,off+i*3+1,none⟩) hg).trans d1
  have hi2:(i:Int)<((grp (bkt s) (plc l 0)).length:Int):=by omega
  clear hc hno HK HI hlook hb hbb ht hp d2
  go_wp2_with fail
  refine bodyPost_ret (xgc rfl _ _ w.heap.size _ _ _ _ rfl rfl (H2.out.set _ _).1 (H2.out.set _ _).2.1 Tryz.underlying227 rfl xb3) rfl ⟨?_,?_⟩
  ·unfold xiQ
   rw[HS.out.1,HS.out.2]
   rfl
  ·exact(HBB.out.setCell (p:=⟨w.heap.size,0,none⟩) (Nat.le_refl _) _).setCell (p:=⟨w.heap.size,1,none⟩) (Nat.le_refl _) _
theorem xcq.belowG {w w':World} {v:Value} {l:List ByteArray} {S:Nat→Prop} (h:xcq w v l S) (hb:Below w.heap.size w w'):xcq w' v l S:=h.keep hb.size (fun b hS=>hb.block b (h.lt b hS))
theorem xmz {s:ByteArray} (h:s.size=0):s.toList.isEmpty=true:=by
 have hse:s={ data:=#[] }:=ByteArray.ext (Array.eq_empty_of_size_eq_zero h)
 rw[ByteArray.toList_eq,hse];rfl
theorem xrz {s:ByteArray} (h:¬ s.size=0):s.toList.isEmpty=false:=by
 rw[ByteArray.toList_eq,List.isEmpty_eq_false_iff]
 intro e
 apply h
 show s.data.size=0
 rw[← Array.length_toList,e];rfl
theorem xg5 {l:List ByteArray} {s:ByteArray} {e:Nat} (h:eV l s=e) (h0:e≠0):xcb l s=false∧xbK l s=l∧offA l s=0∧lenA l s=0:=by
 have h1:xcb l s=false:=by unfold xcb;rw[h,decide_eq_false h0];rfl
 refine⟨h1,by unfold xbK;rw[h1];rfl,?_,?_⟩
 ·unfold offA;rw[h1,h,if_neg h0];rfl
 ·unfold lenA;rw[h,if_neg h0]
theorem xsA {l:List ByteArray} {s:ByteArray} {k:Nat} (h:eV l s=0) (hf:xaN s l 0=some k):xcb l s=false∧xbK l s=l∧offA l s=k∧lenA l s=s.size:=by
 have h1:xcb l s=false:=by unfold xcb;rw[hf];simp
 refine⟨h1,by unfold xbK;rw[h1];rfl,?_,?_⟩
 ·unfold offA;rw[h1,h,hf];rfl
 ·unfold lenA;rw[h,if_pos rfl]
theorem xuE {l:List ByteArray} {s:ByteArray} (h:eV l s=0) (hf:xaN s l 0=none):xcb l s=true∧xbK l s=l++[s]∧offA l s=totF l∧lenA l s=s.size:=by
 have h1:xcb l s=true:=by unfold xcb;rw[h,hf];rfl
 refine⟨h1,by unfold xbK;rw[h1];rfl,?_,?_⟩
 ·unfold offA;rw[h1];rfl
 ·unfold lenA;rw[h,if_pos rfl]
def xuq (l:List ByteArray) (s:ByteArray):Value:=.tuple #[.agg #[.int .u64 (offA l s:Nat),.int .u32 (lenA l s:Nat)],.bool (xcb l s),.int .i64 (eV l s:Nat)]
theorem xg4 {l:List ByteArray} {s:ByteArray} {e:Nat} (h:eV l s=e) (h0:e≠0):xuq l s=.tuple #[.agg #[.int .u64 0,.int .u32 0],.bool false,.int .i64 e]:=by
 obtain⟨h1,_,h3,h4⟩:=xg5 h h0
 unfold xuq;rw[h1,h3,h4,h];rfl
set_option maxRecDepth 20000 in
theorem xrk (v:Value) (l:List ByteArray) (S:Nat→Prop) (s:ByteArray) (w:World) (h:xcq w v l S) (hs:s.size≤maxLen) :
  Calls Tryz.prog 130 #[v,.string s] w fun e w'=>e=.returned (xuq l s)∧∃ S',xcq w' v (xbK l s) S'∧Kept S S' w w':=by
 have hgood:=h.good
 have hb0:=xa8 w (.cells #[.int .u64 0,.int .u32 0] 227)
 have ht2:=xem w (.int .u64 0) (.int .u32 0) 227
 have HS:=lH h
 have HT:=lH (And.intro ht2 hb0)
 have hsm:=hs
 unfold maxLen at hsm
 by_cases h0:s.size=0
 ·have he:eV l s=2:=by unfold eV;rw[if_pos h0]
  have hd:=xmz h0
  have HR:=lH (xg4 he (by omega))
  have HN:=lH (xg5 he (by omega)).2.1
  obtain⟨pb,va,vm,G,rfl,hP,hSS⟩:=h
  clear hP hSS he ht2 hb0 hgood
  go_enter Tryz.func130,Tryz.ntmps130
  go_wp2_with fail
  generalize w.alloc (.cells #[.int .u64 0,.int .u32 0] 227)=W at *
  refine bodyPost_ret (xbL rfl _ _ w.heap.size _ _ _ _ _ rfl rfl rfl HT.out.1.1 HT.out.1.2.1 Tryz.underlying227 rfl xb3) rfl ⟨by rw[HR.out];rfl,S,?_,?_⟩
  ·rw[HN.out]
   exact HS.out.belowG HT.out.2
  ·exact Kept.below _ HT.out.2
 ·have hd:=xrz h0
  by_cases h6:65536<s.size
  ·have he:eV l s=5:=by unfold eV;rw[if_neg h0,if_pos h6]
   have h6':(65536:Int)<(s.size:Int):=by omega
   have HR:=lH (xg4 he (by omega))
   have HN:=lH (xg5 he (by omega)).2.1
   obtain⟨pb,va,vm,G,rfl,hP,hSS⟩:=h
   clear hP hSS he ht2 hb0 hgood
   go_enter Tryz.func130,Tryz.ntmps130
   go_wp2_with fail
   generalize w.alloc (.cells #[.int .u64 0,.int .u32 0] 227)=W at *
   refine bodyPost_ret (xbL rfl _ _ w.heap.size _ _ _ _ _ rfl rfl rfl HT.out.1.1 HT.out.1.2.1 Tryz.underlying227 rfl xb3) rfl ⟨by rw[HR.out];rfl,S,?_,?_⟩
   ·rw[HN.out]
    exact HS.out.belowG HT.out.2
   ·exact Kept.below _ HT.out.2
  ·have h6':¬ (65536:Int)<(s.size:Int):=by omega
   have heq:eV l s=if (xaN s l 0).isSome then 0 else if 2048≤l.length then 7 else 0:=by unfold eV;rw[if_neg h0,if_neg h6]
   obtain⟨pb,va,vm,G,rfl,hP,hSS⟩:=h
   obtain⟨al,cap,hva⟩:∃ al cap,va=.slice al l.length cap:=by
    obtain⟨al,cap,hva,_⟩:=hP.all.ktsAt
    rw[xcO] at hva
    exact⟨al,cap,hva⟩
   subst hva
   have HB:=lH (fun W=>xiy s hs W)
   have HL:=lH (fun X (hX:Below (w.alloc (.cells #[.int .u64 0,.int .u32 0] 227)).heap.size (w.alloc (.cells #[.int .u64 0,.int .u32 0] 227)) X)=>xqg X pb _ vm G l ((hP.below hb0).below hX) s)
   have HP:=lH (And.intro hP hSS)
   have hlen:=hgood.few
   clear hP hSS ht2 hb0
   cases hfd:xaN s l 0 with
   | some k =>
    rw[hfd] at heq
    have he:eV l s=0:=heq
    have HA:=lH (xsA he hfd)
    have HE:=lH he
    have HLR:Hid (xiQ l s=.tuple #[.agg #[.int .u64 (k:Nat),.int .u32 s.size],.bool true]):=lH (by unfold xiQ;rw[hfd];rfl)
    rw[HLR.out] at HL
    clear heq he hfd
    go_enter Tryz.func130,Tryz.ntmps130
    go_wp2_with fail
    generalize w.alloc (.cells #[.int .u64 0,.int .u32 0] 227)=W at *
    refine(HB.out _).mono ?_
    rintro e w1 ⟨rfl,hb1⟩
    have HB1:=lH hb1
    clear hb1
    go_wp2_with fail
    refine(HL.out _ HB1.out).mono ?_
    rintro e w2 ⟨rfl,hb2⟩
    have hbb:=HB1.out.trans (hb2.mono HB1.out.size)
    have h2:=HT.out.1.below hbb
    have H2:=lH h2
    have HBB:=lH (HT.out.2.trans (hbb.mono HT.out.2.size))
    obtain⟨k0,k1,k2,k3⟩:=h2
    have hwl:w.heap.size<w2.heap.size:=xa3 k0
    have hwn:w.heap.size≠w2.heap.size:=by omega
    clear hb2 hbb
    go_wp2_with fail
    refine bodyPost_ret (xbL rfl _ _ w.heap.size _ _ _ _ _ rfl rfl rfl ((H2.out.set _ _).alloc _).1 ((H2.out.set _ _).alloc _).2.1 Tryz.underlying227 rfl xb3) rfl ⟨?_,S,?_,?_⟩
    ·unfold xuq
     rw[HA.out.1,HA.out.2.2.1,HA.out.2.2.2,HE.out];rfl
    ·rw[HA.out.2.1]
     exact HS.out.belowG (((HBB.out.setCell (p:=⟨w.heap.size,0,none⟩) (Nat.le_refl _) _).setCell (p:=⟨w.heap.size,1,none⟩) (Nat.le_refl _) _).alloc (by simpa using HBB.out.size) _)
    ·exact Kept.below _ (((HBB.out.setCell (p:=⟨w.heap.size,0,none⟩) (Nat.le_refl _) _).setCell (p:=⟨w.heap.size,1,none⟩) (Nat.le_refl _) _).alloc (by simpa using HBB.out.size) _)
   | none =>
    rw[hfd] at heq
    have HLR:Hid (xiQ l s=.tuple #[.agg #[.int .u64 0,.int .u32 0],.bool false]):=lH (by unfold xiQ;rw[hfd];rfl)
    rw[HLR.out] at HL
    by_cases hfull:2048≤l.length
    ·have he:eV l s=7:=by rw[heq,if_pos hfull];rfl
     have HR:=lH (xg4 he (by omega))
     have HN:=lH (xg5 he (by omega)).2.1
     have hf':(2048:Int)≤(l.length:Int):=by omega
     clear heq he hfd
     go_enter Tryz.func130,Tryz.ntmps130
     go_wp2_with fail
     generalize w.alloc (.cells #[.int .u64 0,.int .u32 0] 227)=W at *
     refine(HB.out _).mono ?_
     rintro e w1 ⟨rfl,hb1⟩
     have HB1:=lH hb1
     clear hb1
     go_wp2_with fail
     refine(HL.out _ HB1.out).mono ?_
     rintro e w2 ⟨rfl,hb2⟩
     have hbb:=HB1.out.trans (hb2.mono HB1.out.size)
     have H2:=lH (HT.out.1.below hbb)
     have hbw:=HT.out.2.trans (hbb.mono HT.out.2.size)
     have HBB:=lH hbw
     obtain⟨c0,c1,c2,c3⟩:=(HP.out.1.below hbw).two
     obtain⟨k0,k1,k2,k3⟩:=H2.out
     have hwl:w.heap.size<w2.heap.size:=xa3 k0
     have hwn:w.heap.size≠w2.heap.size:=by omega
     have hpn:pb<w.heap.size:=HP.out.1.two.lt
     have hpn2:pb≠w2.heap.size:=by omega
     have dA:∀ O,(w2.alloc O).cell? ⟨pb,0,none⟩=some (.slice al l.length cap):=fun O=>xal (xa8 w2 O) c0
     clear hb2 hbb hbw
     go_wp2_with fail
     refine bodyPost_ret (xbL rfl _ _ w.heap.size _ _ _ _ _ rfl rfl rfl ((H2.out.set _ _).alloc _).1 ((H2.out.set _ _).alloc _).2.1 Tryz.underlying227 rfl xb3) rfl ⟨?_,S,?_,?_⟩
     ·rw[HR.out];rfl
     ·rw[HN.out]
      exact HS.out.belowG (((HBB.out.setCell (p:=⟨w.heap.size,0,none⟩) (Nat.le_refl _) _).setCell (p:=⟨w.heap.size,1,none⟩) (Nat.le_refl _) _).alloc (by simpa using HBB.out.size) _)
     ·exact Kept.below _ (((HBB.out.setCell (p:=⟨w.heap.size,0,none⟩) (Nat.le_refl _) _).setCell (p:=⟨w.heap.size,1,none⟩) (Nat.le_refl _) _).alloc (by simpa using HBB.out.size) _)
    ·have he:eV l s=0:=by rw[heq,if_neg hfull];rfl
     have HA:=lH (xuE he hfd)
     have HE:=lH he
     have hf':¬ (2048:Int)≤(l.length:Int):=by omega
     have hnl:=(xc4 s l 0).1 hfd
     have hg2:GoodP (l++[s]):=by
      refine⟨fun t ht=>?_,fun t ht=>?_,?_,by simp;omega⟩
      ·rcases List.mem_append.1 ht with h|h
       ·exact hgood.pos t h
       ·rw[List.mem_singleton] at h;rw[h];omega
      ·rcases List.mem_append.1 ht with h|h
       ·exact hgood.short t h
       ·rw[List.mem_singleton] at h;rw[h];omega
      ·rw[List.nodup_append]
       exact⟨hgood.once,by simp,fun a ha b hb=>by rw[List.mem_singleton] at hb;rw[hb];intro e;exact hnl (e ▸ ha)⟩
     have HG:=lH hg2
     clear heq he hfd hnl hg2
     go_enter Tryz.func130,Tryz.ntmps130
     go_wp2_with fail
     generalize w.alloc (.cells #[.int .u64 0,.int .u32 0] 227)=W at *
     refine(HB.out _).mono ?_
     rintro e w1 ⟨rfl,hb1⟩
     have HB1:=lH hb1
     clear hb1
     go_wp2_with fail
     refine(HL.out _ HB1.out).mono ?_
     rintro e w2 ⟨rfl,hb2⟩
     have hbb:=HB1.out.trans (hb2.mono HB1.out.size)
     have h2:=HT.out.1.below hbb
     have hbw:=HT.out.2.trans (hbb.mono HT.out.2.size)
     have hp2:=HP.out.1.below hbw
     obtain⟨c0,c1,c2,c3⟩:=hp2.two
     have hwl:w.heap.size<w2.heap.size:=h2.lt
     have hpn:pb<w.heap.size:=HP.out.1.two.lt
     have hpn2:pb≠w2.heap.size:=by omega
     have dA:∀ O,(w2.alloc O).cell? ⟨pb,0,none⟩=some (.slice al l.length cap):=fun O=>xal (xa8 w2 O) c0
     have HX:=lH (fun O=>And.intro (hp2.below (xa8 w2 O)) (And.intro (h2.alloc O) (hbw.alloc hbw.size O)))
     have HLA:=lH (fun O=>xsv (w2.alloc O) pb _ vm G l (hp2.below (xa8 w2 O)) s HG.out)
     clear hb2 hbb hbw h2 hp2
     go_wp2_with fail
     refine(HLA.out _).mono ?_
     rintro e w3 ⟨rfl,va',vm',G',hp3,hk3⟩
     obtain⟨hx1,hx2,hx3⟩:=HX.out (.cells #[.int .u64 0,.int .u32 0] 227)
     have hnS:¬ xeN pb (.slice al l.length cap) vm G w.heap.size:=fun hb=>by have:=HP.out.1.lt _ hb;omega
     have h3:=hx2.keep (hk3.same _ hx2.lt hnS)
     have hnS3:¬ xeN pb va' vm' G' w.heap.size:=fun hb=>by
      rcases hk3.own _ hb with h|h
      ·exact hnS h
      ·have:(w2.alloc (.cells #[.int .u64 0,.int .u32 0] 227)).heap.size=w2.heap.size+1:=by simp
       omega
     have H3:=lH h3
     have HP3:=lH (hp3.set2 w.heap.size hnS3)
     have HK3:=lH (((Kept.below (xeN pb (.slice al l.length cap) vm G) hx3).trans hk3).set2 w.heap.size (Nat.le_refl _))
     obtain⟨k0,k1,k2,k3⟩:=h3
     clear hp3 hk3 hx1 hx2 hx3 HX HLA
     go_wp2_with fail
     refine bodyPost_ret (xbL rfl _ _ w.heap.size _ _ _ _ _ rfl rfl rfl (H3.out.set _ _).1 (H3.out.set _ _).2.1 Tryz.underlying227 rfl xb3) rfl ⟨?_,xeN pb va' vm' G',?_,?_⟩
     ·unfold xuq
      rw[HA.out.1,HA.out.2.2.1,HA.out.2.2.2,HE.out];rfl
     ·rw[HA.out.2.1]
      exact⟨pb,va',vm',G',rfl,HP3.out _ _,fun b=>Iff.rfl⟩
     ·have hk:=HK3.out (.int .u64 (totF l:Nat)) (.int .u32 s.size)
      exact⟨hk.os,hk.tape,hk.output,hk.size,fun b hb hn=>hk.same b hb (fun h=>hn ((HP.out.2 b).2 h)),fun b hb=>by
       rcases hk.own b hb with h|h
       ·exact .inl ((HP.out.2 b).2 h)
       ·exact .inr h⟩
end Go.Proofs.YtjinnigjfopbcaaGreatDoor
namespace Go.Proofs.YtjinnigjfopbcaaGreatDoor
set_option linter.unusedVariables false
set_option linter.unusedSimpArgs false
open Go.RowKit Go.Shelf
set_option maxRecDepth 20000
theorem xpi {F:Fence} {n:Nat} {P:Program} (w:World) {ops:Array Oper} {rest:List Oper} {o:Oper} {a:Act} {Q:Exit→Act→World→Prop} (hg:o.guard=none) (s x:Operand) (t:TypeId)
  (hop:o.op=Op.call { callee:=Callee.builtin Builtin.append,args:=#[s,x],argTypes:=#[t,t] }) (v:Value) (ad:Addr) (m c:Nat) (hs:a.eval s=v) (hx:a.eval x=.slice (some ad) m c) (v':Value) (w':World)
  (hrun:(Builtin.append_ #[t,t] o.type #[v,.slice (some ad) m c]).run P w=.ok v' w') (hK:wpListIn F n P ops Q rest (a.put o.dst v') w'):wpListIn F n P ops Q (o :: rest) a w:=by
 refine wpListIn_plain hg fun K hK'=>⟨?_,?_⟩
 ·simp[Oper.about,hop,resolve,Target.leads,Sem.run_pure]
 ·rw[Oper.semAt_plain F _ _ (by rw[hop];intro c hc';cases hc')]
  simp[execOp,hop,resolve,invoke,builtin,hs,hx,hrun,Result.andThen]
  exact hK' _ _ hK
attribute [local go_sem] Oper.semAt_some
def xc1 (Q:Exit→Act→World→Prop):Exit→Act→World→Prop
 | .normal,a,w=>Q .normal a w
 | _,_,_=>False
theorem xfy {Q:Exit→Act→World→Prop}:∀ (e:Exit) (a:Act) (w:World),xc1 Q e a w→Q e a w
 | .normal,_,_,h=>h
theorem xfn {P:Program} {ops:Array Oper} {Q:Exit→Act→World→Prop} {S:World→Prop} {id:Nat} {a:Act} {w:World} (hm:P.follows .mixedOrders=true) (hS:S w.drew)
  (h:S w.drew→wpAnyH P .any ops (xc1 Q) S ops.size (Array.replicate ops.size false) a w.drew):(Code.region id ops true).wp P (xc1 Q) a w:=wp_region_held_drew hm hS h
set_option maxRecDepth 100000 in
theorem xlF (s:Value) (L:List It) (w:World) (h:ChS w s L) :
  Calls Tryz.prog 67 #[.agg #[s]] w fun e w'=>∃ v',e=.returned (.tuple #[v',.string (xbU (xad L).2)])∧xak w' v' (xad L).1∧Below w.heap.size w w':=by
 have HG:=lH h.good
 have HCH:=lH h
 have HVC:Hid (∀ b a n c,L≠[]→s=.slice (some a) n c→b=a.block→b<w.heap.size):=lH (fun b a n c hl e hb=>by
  obtain⟨a',cap,e',_,_,hc⟩:=h.its
  rw[e] at e'
  cases e'
  obtain⟨t0,ht0⟩:∃ t,L[0]?=some t:=⟨_,List.getElem?_eq_getElem (by cases L with|nil=>exact absurd rfl hl|cons _ _=>simp)⟩
  obtain⟨g,off,ha,hg,_⟩:=hc 0 t0 ht0
  cases ha
  rw[hb]
  exact hg)
 obtain⟨a7,n7,p7,rfl⟩:=h.form
 clear h
 refine(callsIn_wide (n:=10)).1 ?_
 refine callsIn_of_wp_marks Tryz.func67 rfl trivial ?_ rfl
 simp only[Tryz.ntmps67,List.size_toArray,List.length_cons,List.length_nil,Nat.reduceAdd,Nat.reduceSub,Array.replicate_succ,Array.replicate_zero,List.push_toArray,List.append_toArray,List.nil_append,List.cons_append]
 have HB0:Hid (Below w.heap.size w (w.alloc (.cells #[.slice a7 n7 p7] 36))):=lH (xae _ _)
 have HC0:=lH (xaP w (.slice a7 n7 p7) 36)
 have HNW:=lH (xtM (w.alloc (.cells #[.slice a7 n7 p7] 36)))
 gi_wp2
 generalize hW0:w.alloc (.cells #[.slice a7 n7 p7] 36)=W0 at *
 refine⟨trivial,(callsIn_wide.2 HNW.out).mono ?_⟩
 rintro y w1 ⟨pv,Sp,rfl,hpool,hbas,hb1⟩
 obtain⟨pa,rfl⟩:=hpool.ptr
 have HBW1:=lH (HB0.out.trans (hb1.mono HB0.out.size))
 have HC1:=lH (HC0.out.below hb1)
 have HP1:=lH hpool
 have HPL:=lH (fun b (hb:Sp b)=>hpool.lt b hb)
 have HBS:=lH (fun b (hb:Sp b)=>Nat.le_trans HB0.out.size (hbas b hb))
 have HEA:=lH (fun X (hX:Below w.heap.size w X)=>xkZ (.slice a7 n7 p7) L X (HCH.out.below hX))
 have cc:=HC1.out.cell
 have hlc:w.heap.size<w1.heap.size:=HC1.out.lt
 clear hpool hbas hb1 hW0 HB0 HC0 HNW
 gi_wp2
 obtain⟨W2,hW2⟩:∃ W2,(w1.alloc (.cells #[.pointer (some pa)] 221)).alloc (.cells #[.slice none 0 0] 27)=W2:=⟨_,rfl⟩
 have hz2:w1.heap.size+2≤W2.heap.size:=by rw[← hW2];simp
 have hb12:Below w1.heap.size w1 W2:=by rw[← hW2];go_grown
 have HBp:One W2 w1.heap.size (.pointer (some pa)):=by rw[← hW2];exact(xaP w1 _ _).alloc _
 have HBl:One W2 (w1.heap.size+1) (.slice none 0 0):=by
  have h:=xaP (w1.alloc (.cells #[.pointer (some pa)] 221)) (.slice none 0 0) 27
  rw[World.size_alloc] at h
  rw[← hW2]
  exact h
 try rw[hW2]
 have hbw2:Below w.heap.size w W2:=HBW1.out.trans (hb12.mono HBW1.out.size)
 have HR2:Hid (RwP w w.heap.size w1.heap.size (w1.heap.size+1) (.pointer (some pa)) [] [] (.slice none 0 0) Sp W2):=lH
  ⟨HBp,HBl,xbG _ _ _,HP1.out.belowG hb12,fun h=>by have:=HP1.out.lt _ h;omega,fun h=>by have:=HP1.out.lt _ h;omega,(fun b h=>by cases h),by omega,HBS.out,by omega,hbw2⟩
 refine⟨trivial,(callsIn_wide.2 (HEA.out _ hbw2)).mono ?_⟩
 rintro y w3 ⟨rfl,hcell,hb3⟩
 have hR3:=HR2.out.later hb3
 have HITS:=lH ((HCH.out.below (hbw2.trans (hb3.mono hbw2.size))).its)
 have hz3:=hb3.size
 have hVV:∀ b,VC W2.heap.size (.slice a7 n7 p7) L b→b<w3.heap.size∧(b=W2.heap.size∨b<w.heap.size):=fun b hb=>by
  rcases hb with rfl|⟨hl,a,n,c,e,hb⟩
  ·exact⟨xa3 hcell,.inl rfl⟩
  ·have:=HVC.out b a n c hl e hb
   exact⟨by omega,.inr this⟩
 have HCE:=lH hcell
 have HR3:=lH hR3
 have HVV:=lH hVV
 clear hcell hR3 hVV hW2 HBp HBl hb12 HR2 HP1 HC1 HEA cc
 gi_wp2
 refine xkh (n:=10) (val:=fun k=>.int .u64 (idC L k)) (va2:=fun k=>.string (txC L k)) (r:=6) (s:=7) rfl (enters_of Tryz.func205 (by kernel_rfl) rfl) (xk7 (.slice a7 n7 p7) L W2.heap.size w3 HITS.out HCE.out).toY (Below.refl _ _) (fun _ h=>h.elim) (fun b hb=>(HVV.out b hb).1)
  (RwI w w.heap.size w1.heap.size (w1.heap.size+1) (.pointer (some pa)) L) (fun _ _ _=>False) ?hI (fun _ _ _ _ _ h _ _=>h) (fun k S W h=>⟨trivial,h.lt⟩) (xhb (w1.heap.size+1) (.slice none 0 0) Sp) ?hS0 ?h0 (fun _ _ _ _ _ _ _ _=>trivial) (fun _ _ _ _ _ _ _ _ _=>trivial) ?assign ?body ?done (fun _ _ _ _ _ _ h _=>h.elim)
 case hI=>exact xob w w.heap.size w1.heap.size (w1.heap.size+1) (.pointer (some pa)) L w3.heap.size HR3.out.size
 case hS0 =>
  intro b hb
  refine⟨HR3.out.lt b hb,fun hv=>?_⟩
  have h1:=HR3.out.low b hb
  rcases(HVV.out b hv).2 with rfl|h2
  ·rcases hb with hb|hb|hb
   ·omega
   ·cases hb
   ·have:=HPL.out _ hb;omega
  ·omega
 case h0=>exact⟨_,_,HR3.out,fun b=>Iff.rfl⟩
 case assign =>
  intro lq k W' K hK
  simp only[List.setIfInBounds_toArray,List.set_cons_zero,List.set_cons_succ] at hK ⊢
  gi_wp2
  exact hK
 case body =>
  rintro lq k S W hlq ⟨vo,Sq,hR,hS⟩ - hk
  obtain⟨⟨x,t⟩,htk⟩:∃ t,L[k]?=some t:=⟨_,List.getElem?_eq_getElem hk⟩
  have hidk:idC L k=(x:Int):=by unfold idC;rw[List.getD_eq_getElem?_getD,htk];rfl
  have htxk:txC L k=t:=by unfold txC;rw[List.getD_eq_getElem?_getD,htk];rfl
  have hm:=List.mem_of_getElem? htk
  have hri:=xcW HG.out k (Nat.le_of_lt hk)
  have hNX:(xad (L.take (k+1))).1=xrP (xad (L.take k)).1 ⟨x,offA (xad (L.take k)).2 t,lenA (xad (L.take k)).2 t,1⟩:=by rw[xda L k _ htk];rfl
  have hNT:(xad (L.take (k+1))).2=xbK (xad (L.take k)).2 t:=by rw[xda L k _ htk];rfl
  have hlen:=hri.len
  have hgad:=hri.good.add t
  have hok:=hri.ok
  have hfw:=hri.few
  have hex:=congrArg List.length hri.exp
  have hfew:=HG.out.few
  have hS':S=xhb (w1.heap.size+1) vo Sq:=funext fun b=>propext (hS b)
  subst hS'
  clear hS
  generalize hrows:(xad (L.take k)).1=rows at *
  generalize hts:(xad (L.take k)).2=ts at *
  rw[List.length_take] at hlen hfw
  have hpl:=xhV (ts:=ts) (s:=t) (HG.out.pos _ hm) (HG.out.short _ hm) (by omega)
  have hfl:=xe4 _ _ _ _ hpl.2
  have htt:totF (xbK ts t)≤134217728:=hgad.tot
  have hts2:t.size≤65536:=HG.out.short _ hm
  have hxl:=HG.out.low _ hm
  have hrn:∀ e ∈ rows,e.rn≤2048:=fun e he=>by have:=xvv (d:=xbU ts) he;rw[List.length_take] at hex;omega
  have hmr:xay rows:=fun e he=>(hok e he).may
  dsimp only at hxl
  rw[hpl.1] at hNX
  obtain⟨e1,he1⟩:∃ e1:En,e1=⟨x,offA ts t,t.size,1⟩:=⟨_,rfl⟩
  rw[← he1] at hNX
  have HNX:=lH hNX
  have HNT:=lH hNT
  clear hNX hNT
  have hme1:xaO e1:=by rw[he1];unfold xaO;simp only;omega
  have HAD:=lH (xrk (.pointer (some pa)) ts Sq t W hR.pool (by unfold maxLen;omega))
  have hAR:xuq ts t=.tuple #[.agg #[.int .u64 (offA ts t:Nat),.int .u32 (t.size:Nat)],.bool (xcb ts t),.int .i64 (eV ts t:Nat)]:=by unfold xuq;rw[hpl.1]
  rw[hAR] at HAD
  obtain⟨lo,hlo⟩:∃ lo,xdq rows e1=lo:=⟨_,rfl⟩
  have hAH:=fun X (h:xak X vo rows)=>xof vo rows e1 X h hmr hme1
  rw[hlo] at hAH
  rw[he1] at hAH
  unfold eC at hAH
  have HAH:=lH hAH
  have HE1:=lH he1
  have HLO:=lH hlo
  have HME:=lH hmr
  clear hAH hlo
  obtain⟨av,cv,hvo⟩:∃ a c,vo=.slice a rows.length c:=by
   obtain⟨a,c,h,_⟩:=hR.out.ensAt
   exact⟨a,c,h⟩
  subst hvo
  have HR:=lH hR
  have HOK:=lH hok
  have HRN:=lH hrn
  have c1:=hR.bxp.cell
  have hlb:=hR.bxl.lt
  have hlp:=hR.bxp.lt
  rw[hidk,htxk]
  clear hidk htxk hR hok hrn hm hri hlen hgad hex hrows hts hfl htt he1 hAR htk hmr hpl
  generalize offA ts t=oA at *
  generalize xcb ts t=bN at *
  generalize eV ts t=eN at *
  simp only[List.setIfInBounds_toArray,List.set_cons_zero,List.set_cons_succ]
  gi_wp2
  refine⟨trivial,(CallsIn.inRound lq (callsIn_wide.2 HAD.out)).mono ?_⟩
  rintro y w4 ⟨rfl,Sr,hp4,hk4⟩
  have hr4:=HR.out.add hp4 hk4
  have HR4:=lH hr4.1
  have HK4:=lH hr4.2
  have c4:=hr4.1.bxl.cell
  have c4a:∀ O,(w4.alloc O).cell? ⟨w1.heap.size+1,0,none⟩=_:=fun O=>(hr4.1.bxl.alloc O).cell
  have c4b:∀ O O',((w4.alloc O).alloc O').cell? ⟨w1.heap.size+1,0,none⟩=_:=fun O O'=>((hr4.1.bxl.alloc O).alloc O').cell
  clear hp4 hk4 hr4 c1 hlb hlp HAD HR
  gi_wp2
  have HE5:=lH (EAt.made (w4.alloc (.cells #[.int .u64 (oA:Nat),.int .u32 (t.size:Nat)] 227)) e1 74)
  have hb45:Below w4.heap.size w4 ((w4.alloc (.cells #[.int .u64 (oA:Nat),.int .u32 (t.size:Nat)] 227)).alloc (.cells #[.int .u64 (x:Nat),.int .u64 (oA:Nat),.int .u32 (t.size:Nat),.int .u32 1] 74)):=by go_grown
  rw[HE1.out] at HE5
  unfold eC at HE5
  dsimp only at HE5
  rw[World.size_alloc] at HE5
  have HB45:=lH hb45
  clear c4 c4a c4b hb45
  generalize hW5:(w4.alloc (.cells #[.int .u64 (oA:Nat),.int .u32 (t.size:Nat)] 227)).alloc (.cells #[.int .u64 (x:Nat),.int .u64 (oA:Nat),.int .u32 (t.size:Nat),.int .u32 1] 74)=W5 at *
  refine⟨trivial,(CallsIn.inRound lq (callsIn_wide.2 (HAH.out _ (HR4.out.later HB45.out).out.ensAt))).mono ?_⟩
  rintro y w6 ⟨rfl,hb6⟩
  have hb46:=HB45.out.trans (hb6.mono HB45.out.size)
  have HR6:=lH (HR4.out.later hb46)
  have HK6:=lH (HK4.out.trans (KeepsS.below _ hb46))
  have he6:=HE5.out.later hb6
  obtain⟨k0,k1,k2,k3⟩:=he6
  dsimp only at k0 k1 k2 k3
  clear hb6 hb46 hW5 HR4 HK4 HB45 HAH HE5
  cases lo with
  | true =>
   obtain⟨r,a,rfl,hadd⟩:=xpr HLO.out
   have hlt:(r++[a]).length=r.length+1:=by simp
   rw[hlt] at hfw HR6 HK6 ⊢
   have hra:=HRN.out a (by simp)
   have hma:=(HOK.out a (by simp)).may
   unfold xaO at hma
   obtain⟨go,hu,hcn,hfz⟩:∃ go,av=some ⟨go,0,none⟩∧w6.cell? ⟨go,r.length*4+3,none⟩=some (.int .u32 a.rn)∧w6.frozen? ⟨go,r.length*4+3,none⟩=false:=by
    rcases HR6.out.out.form with ⟨_,h⟩|⟨go,c,h,_,_,_,_,_,hf⟩
    ·simp at h
    ·have hav:av=some ⟨go,0,none⟩:=by injection h
     refine⟨go,hav,?_,hf _⟩
     obtain⟨a',c',e,_,_,hcc⟩:=HR6.out.out.ensAt
     have ha':a'=some ⟨go,0,none⟩:=by
      injection e with e' _ _
      rw[← e',hav]
     obtain⟨g',o',e2,_,hq⟩:=hcc r.length a (by simp)
     rw[ha'] at e2
     cases e2
     simpa using hq.2.2.2
   subst hu
   have hrun:=HR6.out.run (a.rn+1)
   have HN:Hid (RwI w w.heap.size w1.heap.size (w1.heap.size+1) (.pointer (some pa)) L (k+1) (xhb (w1.heap.size+1) (.slice (some ⟨go,0,none⟩) (r.length+1) cv) Sr) (w6.setCell ⟨go,r.length*4+3,none⟩ (.int .u32 (a.rn+1)))∧KeepsS (xhb (w1.heap.size+1) (.slice (some ⟨go,0,none⟩) (r.length+1) cv) Sq) (xhb (w1.heap.size+1) (.slice (some ⟨go,0,none⟩) (r.length+1) cv) Sr) W (w6.setCell ⟨go,r.length*4+3,none⟩ (.int .u32 (a.rn+1)))):=lH
    ⟨⟨_,_,by rw[HNX.out,HNT.out,hadd];exact hrun.1,fun b=>Iff.rfl⟩,HK6.out.trans hrun.2⟩
   have c6:=HR6.out.bxl.cell
   have hrl:r.length≤2048:=by omega
   have hi1:IntKind.i64.wrap ((r.length:Int)+1 - 1)=(r.length:Int):=by rw[IntKind.wrap_i64];omega
   have hi2:IntKind.i64.wrap (r.length:Int)=(r.length:Int):=by rw[IntKind.wrap_i64];omega
   have hi3:(r.length:Int)<(r.length:Int)+1:=by omega
   have hi4:IntKind.u32.wrap (a.rn+1)=a.rn+1:=by rw[IntKind.wrap_u32];omega
   clear hrun hadd hlt HR6 HK6 hma hra HRN HOK HLO HNX HNT HME
   generalize r.length=rl at *
   gi_wp2
   exact⟨_,HN.out⟩
  | false =>
   have hadd:=xtQ HLO.out
   have hba:Below w6.heap.size w6 (w6.alloc (.cells (eC e1) 74)):=xae _ _
   have hr7:=HR6.out.later hba
   have hea:=EAt.made w6 e1 74
   obtain⟨v8,w8,hr8,ho8,hg8,hl8⟩:=xey (w6.alloc (.cells (eC e1) 74)) 27 w.heap.size (.slice av rows.length cv) rows e1 w6.heap.size 1 hr7.out hea (by omega) hr7.size
   have hb8:One w8 (w1.heap.size+1) (.slice av rows.length cv):=hr7.bxl.keep (hg8.block _ hr7.bxl.lt (fun e=>xc9 hr7.out hr7.bxl e.symm))
   have happ:=hr7.app ho8 hg8 hl8
   have HN:Hid (RwI w w.heap.size w1.heap.size (w1.heap.size+1) (.pointer (some pa)) L (k+1) (xhb (w1.heap.size+1) v8 Sr) (w8.setCell ⟨w1.heap.size+1,0,none⟩ v8)∧KeepsS (xhb (w1.heap.size+1) (.slice av rows.length cv) Sq) (xhb (w1.heap.size+1) v8 Sr) W (w8.setCell ⟨w1.heap.size+1,0,none⟩ v8)):=lH
    ⟨⟨_,_,by rw[HNX.out,HNT.out,hadd];exact happ.1,fun b=>Iff.rfl⟩,(HK6.out.trans (KeepsS.below _ hba)).trans happ.2⟩
   obtain⟨a8,n8,p8,rfl⟩:∃ a n c,v8=.slice a n c:=by
    obtain⟨a,c,h,_⟩:=ho8.ensAt
    exact⟨a,_,c,h⟩
   have c6:=HR6.out.bxl.cell
   have c8:=hb8.cell
   have f8:=hb8.frz
   rw[HE1.out] at hr8
   unfold eC at hr8
   dsimp only at hr8
   clear happ hb8 ho8 hg8 hl8 hea hr7 hba hadd HR6 HK6 HRN HOK HLO HNX HNT HME
   gi_wp2_with (first|(gi_at_builtin;refine xpi _ rfl _ _ _ rfl _ _ _ _ rfl rfl _ _ hr8 ?_)|fail)
   exact⟨_,HN.out⟩
 case done =>
  rintro D S W hD hSD ⟨vo,Sq,hR,hS⟩ - hDW
  rw[List.take_length] at hR
  obtain⟨av,cv,hvo⟩:∃ a c,vo=.slice a (xad L).1.length c:=by
   obtain⟨a,c,h,_⟩:=hR.out.ensAt
   exact⟨a,c,h⟩
  subst hvo
  have HR:=lH hR
  have HTX:=lH (fun X (hX:Below W.heap.size W X)=>xp3 (.pointer (some pa)) (xad L).2 Sq X (hR.pool.belowG hX))
  have HCC:Hid (∀ w',Below W.heap.size W w'→(w'.cell? ⟨w1.heap.size+1,0,none⟩=some (.slice av (xad L).1.length cv)∧w'.cell? ⟨w1.heap.size,0,none⟩=some (.pointer (some pa)))∧Below W.heap.size W w'):=lH (fun X hX=>⟨⟨(hR.bxl.below hX).cell,(hR.bxp.below hX).cell⟩,hX⟩)
  have HD:=lH hDW
  have HDL:=lH hD
  clear hR hDW hS hD
  gi_wp2
  refine wpIn_wide.2 (wp_mono (xfn (S:=fun w'=>(w'.cell? ⟨w1.heap.size+1,0,none⟩=some (.slice av (xad L).1.length cv)∧w'.cell? ⟨w1.heap.size,0,none⟩=some (.pointer (some pa)))∧Below W.heap.size W w') (by kernel_rfl) (HCC.out _ (Below.drew (Below.refl _ _))) (fun hH0=>?_)) xfy)
  refine tK 0 47 hH0 ?_
  refine tK 1 48 hH0 ?_
  refine wpAnyH_ready (rs:=[2]) (by kernel_rfl) (by simp) ?_
  refine AllReadyH.cons rfl (fun K hK=>?_) AllReadyH.nil
  go_simp
  refine(HTX.out _ hH0.2).mono ?_
  rintro e w' ⟨rfl,hb⟩
  go_wp2_with fail
  refine hK.out _ _ (HCC.out _ (hH0.2.trans (hb.mono hH0.2.size))) (fun hH1=>?_)
  clear hK K hb hH0
  try simp only[Act.put,zsA,zsB,zsC]
  refine tK 3 2 hH1 ?_
  refine tK 4 3 hH1 ?_
  refine wpAnyH_done (by kernel_rfl) ?_ _
  dsimp only[xc1]
  gi_wp2
  have hK9:=(hH1.2.block D (xaD HD.out)).trans HD.out
  have hR9:=(HR.out.later hH1.2).grown (grownBy_putObj' _ D (.deferred none)) (fun r e=>by cases e;exact⟨Nat.le_trans HR3.out.size HDL.out,_,hK9,rfl⟩)
  refine⟨by simp,.inl ⟨_,_,rfl,run_takeDeferred hK9,?_⟩⟩
  refine⟨_,results_tmp2 rfl _ _ _,?_⟩
  exact⟨_,rfl,hR9.out.ensAt,hR9.bel⟩
end Go.Proofs.YtjinnigjfopbcaaGreatDoor
namespace Go.Proofs.YtjinnigjfopbcaaGreatDoor
set_option linter.unusedVariables false
set_option linter.unusedSimpArgs false
open Go.RowKit
set_option maxRecDepth 20000
theorem xoY (a b:List It) (k:Nat) (s t:It) (ha:a[k]?=some s) (hb:b[k]?=some t) (h:a.take k=b.take k) (he:s=t):a.take (k+1)=b.take (k+1):=by
 rw[xbY a k s ha,xbY b k t hb,h,he]
theorem xj1 (a b:List It) (k:Nat) (s t:It) (ha:a[k]?=some s) (hb:b[k]?=some t) (he:s≠t):a≠b:=by
 intro h
 rw[h,hb] at ha
 injection ha with ha
 exact he ha.symm
end Go.Proofs.YtjinnigjfopbcaaGreatDoor
