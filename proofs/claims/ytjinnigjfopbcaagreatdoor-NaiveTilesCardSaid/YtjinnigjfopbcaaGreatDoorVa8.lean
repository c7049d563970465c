/- aHn aLu aVe aLz aLg aHm aMk aPe aPf aPg aLd aHl aMf aLr13. -/
import Derived.Test.YtjinnigjfopbcaaGreatDoorVs
import Derived.DeepKeys5
import Derived.Test.YtjinnigjfopbcaaGreatDoorVa7
import Derived.Maps.OwnIn
import Derived.Lib.SmallJoins
import Derived.Deep.SlicePairs
set_option maxHeartbeats 16000000
namespace Go.Proofs.YtjinnigjfopbcaaGreatDoor
set_option linter.unusedVariables false
set_option linter.unusedSimpArgs false
open Go.RowKit Go.Shelf
set_option maxRecDepth 20000
attribute [local go_sem] Oper.semAt_some
def idC (l:List It) (k:Nat):Int:=((l.getD k (0,{ data:=#[] })).1:Int)
def txC (l:List It) (k:Nat):ByteArray:=(l.getD k (0,{ data:=#[] })).2
def VC (B0:Nat) (v:Value) (l:List It) (b:Nat):Prop:=b=B0∨(l≠[]∧∃ a n c,v=.slice (some a) n c∧b=a.block)
theorem KeepsS.its {S S':Nat→Prop} {W W':World} {v:Value} {l:List It} (h:KeepsS S S' W W') (hoff:∀ a n c,l≠[]→v=.slice (some a) n c→¬ S a.block) (hv:ItsAt W v l):ItsAt W' v l:=by
 obtain⟨a,cap,rfl,h1,h2,hc⟩:=hv
 refine⟨a,cap,rfl,h1,h2,fun k t ht=>?_⟩
 obtain⟨g,off,rfl,hg,c0,c1⟩:=hc k t ht
 have hn:=hoff ⟨g,off,none⟩ _ _ (by rintro rfl;simp at ht) rfl
 exact⟨g,off,rfl,Nat.lt_of_lt_of_le hg h.size,h.cell (p:=⟨g,off+k*2,none⟩) hn c0,h.cell (p:=⟨g,off+k*2+1,none⟩) hn c1⟩
set_option maxRecDepth 100000 in
theorem xnZ (v:Value) (l:List It) (B0:Nat) (w:World) (hv:ItsAt w v l) (h1:w.cell? ⟨B0,0,none⟩=some v) :
  xuC Tryz.prog 205 #[.pointer (some ⟨B0,0,none⟩)] (fun k=>#[.int .u64 (idC l k),.string (txC l k)]) l.length (fun _=>False) (VC B0 v l) (fun _ _=>True) (fun _=>True) w:=by
 intro n lp J Jx S0 W hW hJ hJx hG hS0 hY h0
 have hoff:∀ a n c,l≠[]→v=.slice (some a) n c→¬ S0 a.block:=fun a n c hl hv hs=>(hS0 _ hs).2 (.inr ⟨hl,a,n,c,hv,rfl⟩)
 have hvW:=hv.below hW
 have hn1:¬ S0 B0:=fun h=>(hS0 _ h).2 (.inl rfl)
 have g1:=xan hW h1
 obtain⟨al,cap,rfl,hcap,hmx,_⟩:=hv
 have hml:l.length≤9223372036854775807:=by unfold maxLen at hmx;omega
 have HJ:=lH hJ
 have HG:=lH hG
 have HY:=lH hY
 have HO:=lH hoff
 have HVW:=lH hvW
 have HN:=lH hn1
 clear hJ hY hS0 hJx hoff hvW h1 hn1 hcap hmx hG
 refine callsIn_of_wp Tryz.func205 rfl trivial ?_ rfl
 simp only[Tryz.ntmps205,List.size_toArray,List.length_cons,List.length_nil,Nat.reduceAdd,Nat.reduceSub,Array.replicate_succ,Array.replicate_zero,List.push_toArray,List.append_toArray,List.nil_append,List.cons_append]
 gi_wp2
 gi_loopw [8] (fun i wr=>∃ k:Nat,k≤l.length∧i=.int .i64 k∧∃ S,Hid (J k S wr)∧Hid (KeepsS S0 S W wr)) (fun i _=>l.length - (intOf i).toNat)
 case atStart=>exact⟨0,Nat.zero_le _,rfl,S0,lH h0,lH (.refl _ _)⟩
 case round =>
  obtain⟨k,hk,rfl,S,HJs,HK⟩:=hrel
  by_cases hlt:k<l.length
  ·obtain⟨⟨x,t⟩,he⟩:∃ t,l[k]?=some t:=⟨_,List.getElem?_eq_getElem hlt⟩
   have hi2:(k:Int)<(l.length:Int):=by omega
   have hV:=HK.out.its HO.out HVW.out
   obtain⟨al',cap',hav,_,_,hc⟩:=hV
   obtain⟨g,off,rfl,hg,l0,l1⟩:=hc k _ he
   have hid:idC l k=(x:Int):=by unfold idC;rw[List.getD_eq_getElem?_getD,he];rfl
   have htx:txC l k=t:=by unfold txC;rw[List.getD_eq_getElem?_getD,he];rfl
   have HKX:=lH (KeepsS.alloc S wr (.cells #[.int .u64 x,.string t] 67))
   have HJX:=lH (HJ.out.alloc (s:=(k,S)) HJs.out (.cells #[.int .u64 x,.string t] 67))
   cases hav
   obtain⟨fn,tmps,assign,body,hy,hR⟩:=HY.out k S _ HJX.out hlt
   rw[hid,htx] at hy
   have HR:=lH hR
   clear hR he hc g1 hid htx HJs
   gi_wp2
   refine⟨xbX,HR.out.mono ?_⟩
   rintro x W3 (⟨rfl,S3,hJ3,hk3⟩|⟨rfl,hJx3,_⟩)
   ·have HJ3:=lH hJ3
    have HK3:=lH ((HK.out.trans HKX.out).trans hk3)
    clear hJ3 hk3 hy HR l0 l1
    gi_wp2
    go_roundw
    case rel=>exact⟨k+1,by omega,by go_num,S3,HJ3,HK3⟩
    case measure=>simp[intOf];omega
   ·have HJ3:=lH hJx3
    clear hJx3 hy HR l0 l1
    gi_wp2
    refine bodyPost_ret (results_none rfl _ _ _) rfl ?_
    exact⟨⟨_,rfl⟩,.inr ⟨k+1,by omega,HJ3.out⟩⟩
  ·obtain rfl:k=l.length:=by omega
   clear g1
   gi_wp2
   go_end0
   exact⟨⟨_,rfl⟩,.inl ⟨S,HJs.out,trivial⟩⟩
end Go.Proofs.YtjinnigjfopbcaaGreatDoor
namespace Go.Proofs.YtjinnigjfopbcaaGreatDoor
set_option linter.unusedVariables false
set_option linter.unusedSimpArgs false
def kT:ByteArray:={ data:=#[116] }
def bl (n:Nat):List It:=(List.range n).map (fun i=>(3*i,kT))
end Go.Proofs.YtjinnigjfopbcaaGreatDoor
namespace Go.Proofs.YtjinnigjfopbcaaGreatDoor
set_option linter.unusedVariables false
set_option linter.unusedSimpArgs false
open Go.RowKit Go.Shelf
set_option maxRecDepth 20000
theorem xs0 {F:Fence} {n:Nat} {P:Program} (w:World) {ops:Array Oper} {rest:List Oper} {o:Oper} {a:Act} {Q:Exit→Act→World→Prop} (hg:o.guard=none) (s x:Operand) (t:TypeId)
  (hop:o.op=Op.call { callee:=Callee.builtin Builtin.append,args:=#[s,x],argTypes:=#[t,t] }) (v:Value) (ad:Addr) (m c:Nat) (hs:a.eval s=v) (hx:a.eval x=.slice (some ad) m c) (v':Value) (w':World)
  (hrun:(Builtin.append_ #[t,t] o.type #[v,.slice (some ad) m c]).run P w=.ok v' w') (hK:wpListIn F n P ops Q rest (a.put o.dst v') w'):wpListIn F n P ops Q (o :: rest) a w:=by
 refine wpListIn_plain hg fun K hK'=>⟨?_,?_⟩
 ·simp[Oper.about,hop,resolve,Target.leads,Sem.run_pure]
 ·rw[Oper.semAt_plain F _ _ (by rw[hop];intro c hc';cases hc')]
  simp[execOp,hop,resolve,invoke,builtin,hs,hx,hrun,Result.andThen]
  exact hK' _ _ hK
attribute [local go_sem] Oper.semAt_some
def xdp (Q:Exit→Act→World→Prop):Exit→Act→World→Prop
 | .normal,a,w=>Q .normal a w
 | _,_,_=>False
theorem xgn {Q:Exit→Act→World→Prop}:∀ (e:Exit) (a:Act) (w:World),xdp Q e a w→Q e a w
 | .normal,_,_,h=>h
theorem xfU {P:Program} {ops:Array Oper} {Q:Exit→Act→World→Prop} {S:World→Prop} {id:Nat} {a:Act} {w:World} (hm:P.follows .mixedOrders=true) (hS:S w.drew)
  (h:S w.drew→wpAnyH P .any ops (xdp Q) S ops.size (Array.replicate ops.size false) a w.drew):(Code.region id ops true).wp P (xdp Q) a w:=wp_region_held_drew hm hS h
end Go.Proofs.YtjinnigjfopbcaaGreatDoor
namespace Go.Proofs.YtjinnigjfopbcaaGreatDoor
set_option linter.unusedVariables false
set_option linter.unusedSimpArgs false
open Go.RowKit
set_option maxRecDepth 20000
theorem xtP (k:Nat):bas (k+1)=bas k+p4 k:=rfl
def xqN (d:Int):Int:=zof 27 d
theorem xuR (d:Int) (h0:0≤d) (h1:d<6004799503160661):∃ k:Nat,k≤26∧bas k≤d∧d<bas k+p4 k∧xqN d=k:=by
 obtain⟨k,a,b,c,e⟩:=xx6 27 d h0 (by rw[xpu];exact h1)
 exact⟨k,by omega,b,by rw[← xtP];exact c,e⟩
theorem xvp (d:Int) (h:¬ d<6004799503160661):xqN d=-1:=xyb 27 d (by rw[xpu];omega)
theorem xzA (k:Nat):((2 ^ (2*k):Nat):Int)=p4 k:=by
 induction k with
 | zero=>rfl
 | succ k ih=>rw[show 2*(k+1)=2*k+2 from by omega,Nat.pow_add,p4,← ih];omega
theorem xtN (X:Int) (n k:Nat) (h:Len n X) (h0:p4 k≤X) (h1:X<4*p4 k):n=2*k+1∨n=2*k+2:=by
 obtain⟨h64,h⟩:=h
 have hp:=xqw k
 have e:=xzA k
 have e2:=xzA (k+1)
 rw[p4] at e2
 rcases h with ⟨rfl,h⟩|⟨hn,ha,hb⟩
 ·omega
 have g1:2*k<n:=by
  rcases Nat.lt_or_ge (2*k) n with hc|hc
  ·exact hc
  ·have:=Nat.pow_le_pow_right (by omega:0<2) hc
   omega
 have g2:n - 1<2*(k+1):=by
  rcases Nat.lt_or_ge (n - 1) (2*(k+1)) with hc|hc
  ·exact hc
  ·have:=Nat.pow_le_pow_right (by omega:0<2) hc
   omega
 omega
theorem xl5 (d:Int) (d0:0≤d) (w:World):Calls Tryz.prog 226 #[.int .u64 d] w fun e w'=>e=.returned (.int .i64 (xqN d))∧w=w':=by
 by_cases h:d<6004799503160661
 ·obtain⟨k,hk,a,b,e⟩:=xuR d d0 h
  rw[e]
  have h3:=xoM k
  have hl:=fun n hn=>xtN (3*d+1) n k hn (by omega) (by omega)
  have HL:=lH hl
  clear hl h3 a b e
  go_enter Tryz.func226,Tryz.ntmps226
  go_wp2_with fail
  refine(xjZ _ _ (by omega) (by omega)).mono ?_
  rintro e w' ⟨⟨n,rfl,hn⟩,rfl⟩
  have hs:=HL.out n hn
  clear hn HL
  go_wp2
  go_ret
  refine⟨?_,rfl⟩
  have:n=2*k+1∨n=2*k+2:=hs
  rcases this with rfl|rfl
  ·show Ending.returned (.int .i64 _)=.returned (.int .i64 _)
   congr 2
   omega
  ·show Ending.returned (.int .i64 _)=.returned (.int .i64 _)
   congr 2
   omega
 ·rw[xvp d h]
  go_enter Tryz.func226,Tryz.ntmps226
  go_wp2_with fail
  go_ret
  exact⟨rfl,rfl⟩
def zlo:List It→Int
 | []=>0
 | t :: _=>xqN (t.1:Int)
def zhi (l:List It):Int:=match l.getLast? with|none=>0|some t=>xqN (t.1:Int)
theorem xpX (s:Value) (l:List It) (w:World) (h:ChS w s l) :
  Calls Tryz.prog 148 #[.agg #[s]] w fun e w'=>e=.returned (.tuple #[.int .i64 (zlo l),.int .i64 (zhi l),.bool (decide (0<l.length))])∧Below w.heap.size w w':=by
 obtain⟨al,cap,rfl,hcap,hmx,hc⟩:=h.its
 have hfew:=h.good.few
 clear h
 cases l with
 | nil =>
  go_enter Tryz.func148,Tryz.ntmps148
  go_wp2_with fail
  refine bodyPost_ret (results_tmp3 rfl _ _ _) rfl ⟨rfl,by go_grown⟩
 | cons t m =>
  obtain⟨n,hn⟩:∃ n,(t :: m).length=n+1:=⟨m.length,by simp⟩
  obtain⟨u,hu⟩:∃ u,(t :: m)[n]?=some u:=⟨_,List.getElem?_eq_getElem (by omega)⟩
  obtain⟨g,off,rfl,hg,c0,c1⟩:=hc 0 t rfl
  obtain⟨g',off',e,hg',d0,d1⟩:=hc n u hu
  injection e with e
  injection e with e1 e2
  subst e1 e2
  have hlast:zhi (t :: m)=xqN (u.1:Int):=by
   unfold zhi
   rw[List.getLast?_eq_getElem?,hn,Nat.add_sub_cancel,hu]
  have hpos:decide (0<(t :: m).length)=true:=decide_eq_true (by omega)
  rw[hlast,hpos,show zlo (t :: m)=xqN (t.1:Int) from rfl]
  rw[hn] at hcap hfew ⊢
  obtain⟨x,s⟩:=t
  obtain⟨y,s'⟩:=u
  simp only at c0 c1 d0 d1 ⊢
  have HZ1:Hid (∀ W,Calls Tryz.prog 226 #[.int .u64 x] W fun e w'=>e=.returned (.int .i64 (xqN x))∧w'=W):=lH (fun W=>(xl5 (x:Int) (by omega) W).mono (fun e w' h=>⟨h.1,h.2.symm⟩))
  have HZ2:Hid (∀ W,Calls Tryz.prog 226 #[.int .u64 y] W fun e w'=>e=.returned (.int .i64 (xqN y))∧w'=W):=lH (fun W=>(xl5 (y:Int) (by omega) W).mono (fun e w' h=>⟨h.1,h.2.symm⟩))
  generalize xqN (x:Int)=zx at *
  generalize xqN (y:Int)=zy at *
  simp only[Nat.zero_mul,Nat.add_zero] at c0 c1
  have hi1:IntKind.i64.wrap ((n:Int)+1 - 1)=(n:Int):=by rw[IntKind.wrap_i64];omega
  have hi2:(n:Int)<(n:Int)+1:=by omega
  have hi3:((n:Int)+1 == 0)=false:=by rw[beq_eq_false_iff_ne];omega
  have hi4:(0:Int)<(n:Int)+1:=by omega
  have hi5:IntKind.i64.wrap (n:Int)=(n:Int):=by rw[IntKind.wrap_i64];omega
  have c0a:∀ O,(w.alloc O).cell? ⟨g,off,none⟩=_:=fun O=>((xah w O).cell (p:=⟨g,off,none⟩) hg).trans c0
  have c0b:∀ O O',((w.alloc O).alloc O').cell? ⟨g,off,none⟩=_:=fun O O'=>((xah (w.alloc O) O').cell (p:=⟨g,off,none⟩) (by show g<_;rw[World.size_alloc];omega)).trans (c0a O)
  have c0c:∀ O O' O'',(((w.alloc O).alloc O').alloc O'').cell? ⟨g,off,none⟩=_:=fun O O' O''=>((xah ((w.alloc O).alloc O') O'').cell (p:=⟨g,off,none⟩) (by show g<_;rw[World.size_alloc,World.size_alloc];omega)).trans (c0b O O')
  have c1a:∀ O,(w.alloc O).cell? ⟨g,off+1,none⟩=_:=fun O=>((xah w O).cell (p:=⟨g,off+1,none⟩) hg).trans c1
  have c1b:∀ O O',((w.alloc O).alloc O').cell? ⟨g,off+1,none⟩=_:=fun O O'=>((xah (w.alloc O) O').cell (p:=⟨g,off+1,none⟩) (by show g<_;rw[World.size_alloc];omega)).trans (c1a O)
  have c1c:∀ O O' O'',(((w.alloc O).alloc O').alloc O'').cell? ⟨g,off+1,none⟩=_:=fun O O' O''=>((xah ((w.alloc O).alloc O') O'').cell (p:=⟨g,off+1,none⟩) (by show g<_;rw[World.size_alloc,World.size_alloc];omega)).trans (c1b O O')
  have d0a:∀ O,(w.alloc O).cell? ⟨g,off+n*2,none⟩=_:=fun O=>((xah w O).cell (p:=⟨g,off+n*2,none⟩) hg).trans d0
  have d0b:∀ O O',((w.alloc O).alloc O').cell? ⟨g,off+n*2,none⟩=_:=fun O O'=>((xah (w.alloc O) O').cell (p:=⟨g,off+n*2,none⟩) (by show g<_;rw[World.size_alloc];omega)).trans (d0a O)
  have d0c:∀ O O' O'',(((w.alloc O).alloc O').alloc O'').cell? ⟨g,off+n*2,none⟩=_:=fun O O' O''=>((xah ((w.alloc O).alloc O') O'').cell (p:=⟨g,off+n*2,none⟩) (by show g<_;rw[World.size_alloc,World.size_alloc];omega)).trans (d0b O O')
  have d1a:∀ O,(w.alloc O).cell? ⟨g,off+n*2+1,none⟩=_:=fun O=>((xah w O).cell (p:=⟨g,off+n*2+1,none⟩) hg).trans d1
  have d1b:∀ O O',((w.alloc O).alloc O').cell? ⟨g,off+n*2+1,none⟩=_:=fun O O'=>((xah (w.alloc O) O').cell (p:=⟨g,off+n*2+1,none⟩) (by show g<_;rw[World.size_alloc];omega)).trans (d1a O)
  have d1c:∀ O O' O'',(((w.alloc O).alloc O').alloc O'').cell? ⟨g,off+n*2+1,none⟩=_:=fun O O' O''=>((xah ((w.alloc O).alloc O') O'').cell (p:=⟨g,off+n*2+1,none⟩) (by show g<_;rw[World.size_alloc,World.size_alloc];omega)).trans (d1b O O')
  clear hc hu hlast hpos hg' hg c0 c1 d0 d1
  go_enter Tryz.func148,Tryz.ntmps148
  go_wp2_with fail
  go_region
  all_goals
   go_wp2_with fail
   go_region_with (first|(with_reducible refine(HZ1.out _).mono ?_;rintro e w1 ⟨rfl,rfl⟩)|(with_reducible refine(HZ2.out _).mono ?_;rintro e w1 ⟨rfl,rfl⟩))
   all_goals
    go_wp2_with fail
    refine bodyPost_ret (results_tmp3 rfl _ _ _) rfl ⟨rfl,by go_grown⟩
end Go.Proofs.YtjinnigjfopbcaaGreatDoor
namespace Go.Proofs.YtjinnigjfopbcaaGreatDoor
set_option linter.unusedVariables false
set_option linter.unusedSimpArgs false
open Go.RowKit Go.Maps Go.WideMaps
set_option maxRecDepth 20000
theorem xxA:laidOutB Tryz.prog=true:=by kernel_rfl
theorem xzD:Keyed Tryz.prog 347:=Keyed.of_law (deep_law_gate xxA (of_decide_eq_true (by kernel_rfl)) (of_decide_eq_true (by kernel_rfl)) (by kernel_rfl) (by kernel_rfl))
def klN (q:Int × Int):Lit:=.string (keyBytes [.int .u64 q.1,.int .u32 q.2])
def xrM (q:Int × Int):Prop:=(0≤q.1∧q.1≤18446744073709551615)∧(0≤q.2∧q.2≤4294967295)
theorem xsE (n:Nat) (x:Int) (h0:0≤x) (h1:x≤18446744073709551615):Tryz.prog.keyLits (n+1) 26 [.int .u64 x]=some [.int .u64 x]:=by
 have hw:(Lit.int .u64 x).wf=true:=WalkArith.wf_u64 ⟨h0,h1⟩
 simp[Program.keyLits,Tryz.underlying26,hw]
theorem xs1 (n:Nat) (x:Int) (h0:0≤x) (h1:x≤4294967295):Tryz.prog.keyLits (n+1) 72 [.int .u32 x]=some [.int .u32 x]:=by
 have hw:(Lit.int .u32 x).wf=true:=WalkArith.wf_u32 ⟨h0,h1⟩
 simp[Program.keyLits,Tryz.underlying72,hw]
theorem xmO (n:Nat) (q:Int × Int) (h:xrM q):Tryz.prog.keyLits (n+2) 347 [.int .u64 q.1,.int .u32 q.2]=some [.int .u64 q.1,.int .u32 q.2]:=by
 have hc:Tryz.prog.cellsOf 347=2:=by kernel_rfl
 have hc1:Tryz.prog.cellsOf 26=1:=by kernel_rfl
 have hc2:Tryz.prog.cellsOf 72=1:=by kernel_rfl
 have h1:=xsE n q.1 h.1.1 h.1.2
 have h2:=xs1 n q.2 h.2.1 h.2.2
 unfold Program.keyLits
 rw[Tryz.underlying347]
 simp[hc,hc1,hc2,h1,h2]
theorem xiZ (q:Int × Int):(Value.agg #[.int .u64 q.1,.int .u32 q.2]).formed Tryz.prog 347=true:=by
 have hc:Tryz.prog.cellsOf 347=2:=by kernel_rfl
 unfold Value.formed
 rw[Tryz.underlying347]
 simp[hc]
theorem xqm (q:Int × Int) (h:xrM q):keyOf Tryz.prog 347 (.agg #[.int .u64 q.1,.int .u32 q.2])=some (klN q):=by
 have hk:Tryz.prog.keyType 347=true:=by kernel_rfl
 have h3:=xmO (Tryz.prog.types.size - 1) q h
 have hs:Tryz.prog.types.size - 1+2=Tryz.prog.types.size+1:=by kernel_rfl
 rw[hs] at h3
 unfold keyOf
 rw[Tryz.underlying347]
 simp only[hk,xiZ q,Bool.and_self,if_true]
 show Option.map _ (Tryz.prog.keyLits (Tryz.prog.types.size+1) 347 [.int .u64 q.1,.int .u32 q.2])=_
 rw[h3]
 rfl
theorem xwK {p q:Int × Int} (hp:xrM p) (hq:xrM q) (h:klN p=klN q):p=q:=by
 have h1:=xqm p hp
 have h2:=xqm q hq
 rw[h] at h1
 have h3:=xzD.inj h1 h2
 simp only[Value.agg.injEq,Array.mk.injEq,List.cons.injEq,Value.int.injEq,true_and,and_true] at h3
 exact Prod.ext h3.1 h3.2
theorem xqf {p q:Int × Int} (hp:xrM p) (hq:xrM q):(klN p).sameKey (klN q)=decide (p=q):=by
 by_cases h:p=q
 ·subst h;simp[klN,Lit.sameKey]
 ·rw[decide_eq_false h]
  show (keyBytes _ == keyBytes _)=false
  rw[beq_eq_false_iff_ne]
  exact fun e=>h (xwK hp hq (by unfold klN;rw[e]))
theorem xxV (q:Int × Int):WideAt.IsKeyLit (klN q):=trivial
theorem xuU (l:List (Int × Int)) (h:∀ q ∈ l,xrM q):∃ d:List (Int × Int),(l.map klN).foldl addKey []=d.map klN∧d.length=unl l∧∀ q,q ∈ d↔q ∈ l:=by
 have key:∀ (n:Nat),n≤l.length→∃ d:List (Int × Int),((l.take n).map klN).foldl addKey []=d.map klN∧d.length=unl (l.take n)∧∀ q,q ∈ d↔q ∈ l.take n:=by
  intro n
  induction n with
  | zero=>intro _;exact⟨[],rfl,rfl,by simp⟩
  | succ n ih =>
   intro hn
   obtain⟨d,h1,h2,h3⟩:=ih (by omega)
   obtain⟨p,hp⟩:∃ p,l[n]?=some p:=⟨_,List.getElem?_eq_getElem (by omega)⟩
   have hpl:p ∈ l:=List.mem_of_getElem? hp
   have ht:l.take (n+1)=l.take n++[p]:=by rw[List.take_add_one,hp];rfl
   have hany:(d.map klN).any (fun y=>y.sameKey (klN p))=decide (p ∈ l.take n):=by
    rw[List.any_map]
    by_cases hm:p ∈ l.take n
    ·rw[decide_eq_true hm,List.any_eq_true]
     exact⟨p,(h3 p).2 hm,by simp[Function.comp,xqf (h p hpl) (h p hpl)]⟩
    ·rw[decide_eq_false hm,List.any_eq_false]
     intro q hq
     have hql:q ∈ l:=List.mem_of_mem_take ((h3 q).1 hq)
     simp only[Function.comp,xqf (h q hql) (h p hpl),decide_eq_true_eq]
     exact fun e=>hm (e ▸ (h3 q).1 hq)
   rw[ht,List.map_append,List.foldl_append,h1,xlS]
   simp only[List.map_cons,List.map_nil,List.foldl_cons,List.foldl_nil,addKey,hany]
   by_cases hm:p ∈ l.take n
   ·rw[if_pos hm,if_pos (decide_eq_true hm)]
    exact⟨d,rfl,h2,fun q=>by rw[List.mem_append,List.mem_singleton,h3];exact⟨.inl,fun e=>e.elim id (fun e=>e ▸ hm)⟩⟩
   ·rw[if_neg hm,if_neg (by simpa using hm)]
    exact⟨d++[p],by simp,by rw[List.length_append,h2];rfl,fun q=>by rw[List.mem_append,List.mem_append,h3]⟩
 have:=key l.length (Nat.le_refl _)
 rwa[List.take_length] at this
theorem xtG (H:Type) (u:DataW H) (l:List (Int × Int)) (h:∀ q ∈ l,xrM q):Maps.size (setOf u (l.map klN))=unl l:=by
 obtain⟨d,h1,h2,_⟩:=xuU l h
 rw[size_setOf u _ (fun x hx=>by obtain⟨q,_,rfl⟩:=List.mem_map.1 hx;exact xxV q),h1,List.length_map,h2]
end Go.Proofs.YtjinnigjfopbcaaGreatDoor
namespace Go.Proofs.YtjinnigjfopbcaaGreatDoor
set_option linter.unusedVariables false
set_option linter.unusedSimpArgs false
open Go.RowKit Go.Shelf
set_option maxRecDepth 20000
attribute [local go_sem] Oper.semAt_some
abbrev Ok:={ e:En // xaY e∧ckN e=0 }
open Classical in
noncomputable def tk (l:List En):List Ok:=l.filterMap fun e=>if h:xaY e∧ckN e=0 then some ⟨e,h⟩ else none
theorem xzF:tk []=[]:=rfl
theorem xuL (l:List En) (e:En) (h:xaY e∧ckN e=0):tk (l++[e])=tk l++[⟨e,h⟩]:=by simp[tk,h]
theorem xyK (l:List En) (e:En) (h:¬ ckN e=0):tk (l++[e])=tk l:=by simp[tk,h]
theorem xxB (l:List En):(tk l).length≤l.length:=List.length_filterMap_le _ _
theorem xuG (l:List En) (k:Nat):tk (l.take k) <+: tk l:=by
 refine⟨tk (l.drop k),?_⟩
 unfold tk
 rw[← List.filterMap_append,List.take_append_drop]
theorem xyO (l:List En) (k:Nat) (e:En) (he:l[k]?=some e) (h:xaY e∧ckN e=0):(tk (l.take k)).length<(tk l).length:=by
 obtain⟨r,hr⟩:=xuG l (k+1)
 rw[xbM l k e he,xuL _ e h] at hr
 rw[← hr]
 simp
theorem xuB {β:Type} {J:β→World→Prop} {B:Nat} (hJ:AbidesFrom B J) {s:β} {W W':World} (h:J s W) (hb:Below W.heap.size W W'):J s W' :=
 hJ s W W' none h ⟨hb.os,hb.tape,hb.output,hb.size,fun k hk _=>hb.block k hk⟩ (fun r e=>by cases e)
theorem xoX (n:Nat) (a:Option Addr) (len cap:Nat) (w:World) :
  CallsIn Fence.wide n Tryz.prog 227 #[.slice a len cap] w fun e w'=>e=.returned (.func (.func 278) #[] #[.pointer (some ⟨w.heap.size,0,none⟩)])∧w'=w.alloc (.cells #[.slice a len cap] 27):=by
 refine callsIn_of_wp Tryz.func227 rfl trivial ?_ rfl
 simp only[Tryz.ntmps227,List.size_toArray,List.length_cons,List.length_nil,Nat.reduceAdd,Nat.reduceSub,Array.replicate_succ,Array.replicate_zero,List.push_toArray,List.append_toArray,List.nil_append,List.cons_append]
 gi_wp2
 go_ret
 exact⟨rfl,rfl⟩
set_option maxRecDepth 100000 in
theorem xn7 (n:Nat) (hn:1≤n) (lp Bs:Nat) (w₀:World) (v:Value) (zs:List En) (hm:xas zs) (hv:xaj w₀ v zs) (J Jx:List Ok→World→Prop)
  (W:World) (hW:Below w₀.heap.size w₀ W) (hJ:AbidesFrom W.heap.size J)
  (hY:∀ pre x W1,J pre W1→pre.length<(tk zs).length→YieldAt Fence.wide (n - 1) Tryz.prog lp #[.agg (eC x.1)] W1 fun e W' =>
   (e=.returned (.bool true)∧J (pre++[x]) W'∧Below w₀.heap.size W1 W')∨(e=.returned (.bool false)∧Jx (pre++[x]) W'))
  (hBs:W.cell? ⟨Bs,0,none⟩=some v) (h0:J [] W) :
  CallsIn Fence.wide n Tryz.prog 278 #[.func (.yield lp) #[] #[],.pointer (some ⟨Bs,0,none⟩)] W fun e W'=>(∃ v,e=.returned v) ∧
   ((∃ ys,ys=tk zs∧J ys W')∨(∃ pre,pre <+: tk zs∧Jx pre W')):=by
 obtain⟨al,cap,rfl,hcap,hmx,hc⟩:=hv
 have HC:=lH hc
 have HM:=lH hm
 have HJ:=lH hJ
 have HY:=lH hY
 have hml:zs.length≤9223372036854775807:=by unfold maxLen at hmx;omega
 clear hc hm hJ hY
 refine callsIn_of_wp Tryz.func278 rfl trivial ?_ rfl
 simp only[Tryz.ntmps278,List.size_toArray,List.length_cons,List.length_nil,Nat.reduceAdd,Nat.reduceSub,Array.replicate_succ,Array.replicate_zero,List.push_toArray,List.append_toArray,List.nil_append,List.cons_append]
 gi_wp2
 gi_loopw [7] (fun i wr=>∃ k:Nat,k≤zs.length∧i=.int .i64 k∧Hid (J (tk (zs.take k)) wr)∧Below w₀.heap.size w₀ wr) (fun i _=>zs.length - (intOf i).toNat)
 case atStart=>exact⟨0,Nat.zero_le _,rfl,lH h0,hW⟩
 case round =>
  obtain⟨k,hk,rfl,HJs,hnx⟩:=hrel
  by_cases hlt:k<zs.length
  ·obtain⟨e,he⟩:∃ t,zs[k]?=some t:=⟨_,List.getElem?_eq_getElem hlt⟩
   obtain⟨g,off,rfl,hg,l0,l1,l2,l3⟩:=HC.out k e he
   have hme:=HM.out e (List.mem_of_getElem? he)
   have HK:=lH (fun W=>xdn e W hme)
   have hi2:(k:Int)<(zs.length:Int):=by omega
   have c0:=(hnx.cell (p:=⟨g,off+k*4,none⟩) hg).trans l0
   have c1:=(hnx.cell (p:=⟨g,off+k*4+1,none⟩) hg).trans l1
   have c2:=(hnx.cell (p:=⟨g,off+k*4+2,none⟩) hg).trans l2
   have c3:=(hnx.cell (p:=⟨g,off+k*4+3,none⟩) hg).trans l3
   have HX:=lH (EAt.made wr e 74)
   have HBX:=lH ((Below.refl wr.heap.size wr).alloc (Nat.le_refl _) (.cells (eC e) 74))
   have HN:=lH hnx
   clear l0 l1 l2 l3 hnx
   unfold eC at HK HX HBX
   by_cases hck:ckN e=0
   ·rw[hck] at HK
    have HT:=lH (xyO zs k e he ⟨hme,hck⟩)
    have HE:=lH (And.intro he (And.intro hme hck))
    clear he hme hck
    gi_wp2
    refine⟨trivial,(callsIn_wide.2 (HK.out _)).mono ?_⟩
    rintro x w1 ⟨rfl,hb⟩
    obtain⟨k0,k1,k2,k3⟩:=EAt.later HX.out hb
    have hb1:=HBX.out.trans (hb.mono HBX.out.size)
    have HN1:=lH (HN.out.trans (hb1.mono HN.out.size))
    have hJ1:=xuB HJ.out HJs.out hb1
    obtain⟨fn,tmps,assign,body,hy,hR⟩:=HY.out _ ⟨e,HE.out.2⟩ w1 hJ1 HT.out
    dsimp only[eC] at hy
    have HR:=lH hR
    have HK1:=lH (xuL (zs.take k) e HE.out.2)
    have HP1:=lH (xuG zs (k+1))
    rw[xbM zs k e HE.out.1] at HP1
    have HT1:=lH (xbM zs k e HE.out.1)
    clear hb hb1 hJ1 hR HX HBX HN HJs HT c0 c1 c2 c3
    gi_wp2
    refine HR.out.mono ?_
    rintro x W3 (⟨rfl,hJ3,hk3⟩|⟨rfl,hJx3⟩)
    ·have HJ3:=lH hJ3
     have HN3:=lH (HN1.out.trans hk3)
     clear hJ3 hk3
     gi_wp2
     go_roundw
     case rel=>exact⟨k+1,by omega,by go_num,lH (by rw[HT1.out,HK1.out];exact HJ3.out),HN3.out⟩
     case measure=>simp[intOf];omega
    ·have HJ3:=lH hJx3
     clear hJx3
     gi_wp2
     refine bodyPost_ret (results_none rfl _ _ _) rfl ?_
     exact⟨⟨_,rfl⟩,.inr ⟨_,by rw[← HK1.out];exact HP1.out,HJ3.out⟩⟩
   ·obtain⟨r,hr⟩:∃ r,ckN e=r:=⟨_,rfl⟩
    have HK1:=lH (xyK (zs.take k) e hck)
    have HT1:=lH (xbM zs k e he)
    rw[hr] at HK hck
    have hne:(r == 0)=false:=by simpa using hck
    clear he hme hck hr
    gi_wp2
    refine⟨trivial,(callsIn_wide.2 (HK.out _)).mono ?_⟩
    rintro x w1 ⟨rfl,hb⟩
    have hb1:=HBX.out.trans (hb.mono HBX.out.size)
    have HN1:=lH (HN.out.trans (hb1.mono HN.out.size))
    have HJ1:=lH (xuB HJ.out HJs.out hb1)
    clear hb hb1 HX HBX HN HJs c0 c1 c2 c3
    gi_wp2
    refine⟨fun _ h=>(by cases h),?_⟩
    gi_wp2
    go_roundw
    case rel=>exact⟨k+1,by omega,by go_num,lH (by rw[HT1.out,HK1.out];exact HJ1.out),HN1.out⟩
    case measure=>simp[intOf];omega
  ·obtain rfl:k=zs.length:=by omega
   have hJ0:=HJs.out
   rw[List.take_length] at hJ0
   have HJ0:=lH hJ0
   clear hJ0 HJs
   gi_wp2
   go_end0
   exact⟨⟨_,rfl⟩,.inl ⟨_,rfl,HJ0.out⟩⟩
theorem xiN (n:Nat) (hn:1≤n) (Bs:Nat) (w₀ w:World) (v:Value) (zs:List En) (hm:xas zs) (hv:xaj w₀ v zs) (hw:Below w₀.heap.size w₀ w) (hBs:w.cell? ⟨Bs,0,none⟩=some v) :
  SeqStopsK Fence.wide n Tryz.prog 278 #[.pointer (some ⟨Bs,0,none⟩)] (fun x:Ok=>#[.agg (eC x.1)]) (Below w₀.heap.size) (fun ys=>ys=tk zs) (fun pre=>pre <+: tk zs) (tk zs).length w:=fun l J Jx W hW hJ _ hY h0 =>
 xn7 n hn l Bs w₀ v zs hm hv J Jx W (hw.trans (hW.mono hw.size)) hJ hY ((hW.cell (p:=⟨Bs,0,none⟩) (xbz hBs)).trans hBs) h0
end Go.Proofs.YtjinnigjfopbcaaGreatDoor
namespace Go.Proofs.YtjinnigjfopbcaaGreatDoor
set_option linter.unusedVariables false
set_option linter.unusedSimpArgs false
open Go.RowKit Go.Shelf
set_option maxRecDepth 20000
attribute [local go_sem] Oper.semAt_some
theorem xwj (l:List En) (e:En) (h:xaY e∧ckN e=0):tk (e :: l)=⟨e,h⟩ :: tk l:=by simp[tk,h]
theorem xyh (l:List En) (e:En) (h:¬ ckN e=0):tk (e :: l)=tk l:=by simp[tk,h]
theorem xvV {B:Nat} (b:Nat) (e:En):OwnFrom B (fun(_:Unit) W=>EAt W b e):=fun _ X Y row hs hg hr =>
 ⟨cell_kept hs.1 hg (fun r h=>(hr r h).2),cell_kept hs.2.1 hg (fun r h=>(hr r h).2),cell_kept hs.2.2.1 hg (fun r h=>(hr r h).2),cell_kept hs.2.2.2 hg (fun r h=>(hr r h).2)⟩
end Go.Proofs.YtjinnigjfopbcaaGreatDoor
namespace Go.Proofs.YtjinnigjfopbcaaGreatDoor
set_option linter.unusedVariables false
set_option linter.unusedSimpArgs false
open Go.RowKit Go.Shelf Go.Maps Go.WideMaps
set_option maxRecDepth 20000
attribute [local go_sem] Oper.semAt_some
def prN (l:List Ok):List (Int × Int):=(l.filter fun x=>decide (0<x.1.rn)).map fun x=>(x.1.off,x.1.ln)
theorem xlN (l:List Ok) (x:Ok):prN (l++[x])=prN l++(if 0<x.1.rn then [(x.1.off,x.1.ln)] else []):=by
 unfold prN
 rw[List.filter_append,List.map_append]
 by_cases h:0<x.1.rn <;> simp[h]
theorem xxg (l:List En) (hm:xas l):prN (tk l)=xh7 l:=by
 induction l with
 | nil=>rfl
 | cons e l ih =>
  have h1:=ih (fun x hx=>hm x (List.mem_cons_of_mem _ hx))
  have hme:=hm e (List.mem_cons_self ..)
  by_cases h:ckN e=0
  ·rw[xwj l e ⟨hme,h⟩]
   by_cases h2:0<e.rn
   ·simp only[prN,xh7,List.filter_cons,h,h2,decide_true,Bool.and_self,if_true,List.map_cons] at h1 ⊢
    rw[h1]
   ·simp only[prN,xh7,List.filter_cons,h,h2,decide_true,decide_false,Bool.and_false,Bool.true_and,Bool.false_eq_true,if_false] at h1 ⊢
    exact h1
  ·rw[xyh l e h,h1]
   simp[xh7,List.filter_cons,h]
theorem xrK (l:List En) (hm:xas l):∀ q ∈ xh7 l,xrM q:=fun q hq=>by
 obtain⟨e,he,_,_,h1,h2⟩:=(xqj l q).1 hq
 have:=hm e he
 unfold xaY at this
 unfold xrM
 rw[← h1,← h2]
 exact⟨this.2.1,this.2.2.1⟩
theorem xd7 {H:Type} {P:Program} {k:TypeId} {R:Value→Option (DataW H × List MemPlace)} {w w':World} {b n B:Nat} {D:DataW H} (h:w.ownsMap P k R b n D) (hb:Below B w w') (hB:b<B):w'.ownsMap P k R b n D:=by
 obtain⟨es,clock,h1,h2⟩:=h
 exact⟨es,clock,(hb.block b hB).trans h1,h2⟩
theorem xfR {B:Nat} {W W':World} (hb:Below W.heap.size W W'):KeepsFrom B W W':=⟨hb.size,fun k o _ hk _=>(hb.block k (Array.getElem?_eq_some_iff.1 hk).1).trans hk⟩
theorem xdO {W W':World} {b:Nat} {t:TypeId} {v:Value} (h:Boxed W b t v) (hb:Below W.heap.size W W'):Boxed W' b t v:=(hb.block b h.lt).trans h
def xt7 (l:List Ok):DataW Unit:=setOf (.lit (.bool true)) ((prN l).map klN)
theorem xtO (l:List Ok) (x:Ok) (h:0<x.1.rn):xt7 (l++[x])=(xt7 l).put (klN (x.1.off,x.1.ln)) (.lit (.bool true)):=by
 unfold xt7
 rw[xlN,if_pos h,List.map_append]
 exact setOf_snoc _ _ _
theorem xwh (l:List Ok) (x:Ok) (h:¬ 0<x.1.rn):xt7 (l++[x])=xt7 l:=by
 unfold xt7
 rw[xlN,if_neg h,List.append_nil]
set_option maxRecDepth 100000 in
theorem xq5 (v:Value) (l:List En) (w:World) (hv:xaj w v l) (hm:xas l) (hl:l.length≤100000):Calls Tryz.prog 149 #[v] w fun x w'=>x=.returned (.int .i64 (conN l:Nat))∧Below w.heap.size w w':=by
 have HS:=lH (fun n hn Bs W hW hc=>xiN n hn Bs w W v l hm hv hW hc)
 have hlen:=Nat.le_trans (xxB l) hl
 have HSz:Hid (Maps.size (xt7 (tk l))=conN l):=lH (by unfold xt7;rw[xxg l hm];exact xtG Unit (.lit (.bool true)) (xh7 l) (xrK l hm))
 have hmm:=@run_makeMap Tryz.prog
 obtain⟨al,cap,rfl,-,-,-⟩:=hv
 refine(callsIn_wide (n:=3)).1 ?_
 refine callsIn_of_wp_marks Tryz.func149 rfl trivial ?_ rfl
 simp only[Tryz.ntmps149,List.size_toArray,List.length_cons,List.length_nil,Nat.reduceAdd,Nat.reduceSub,Array.replicate_succ,Array.replicate_zero,List.push_toArray,List.append_toArray,List.nil_append,List.cons_append]
 gi_wp2
 refine⟨trivial,(xoX _ _ _ _ _).mono ?_⟩
 rintro x w1 ⟨rfl,rfl⟩
 gi_wp2
 have hm0:=World.ownsMap_made w Tryz.prog 347 (plainElem (H:=Unit) Tryz.prog 4)
 have hm1:=(hm0.alloc (.cells #[.map (some w.heap.size)] 342)).alloc (.cells #[.slice al l.length cap] 27)
 have bP:=(Boxed.new (w.alloc (.map #[] 0)) 342 (.map (some w.heap.size))).alloc (.cells #[.slice al l.length cap] 27)
 have bA:=Boxed.new ((w.alloc (.map #[] 0)).alloc (.cells #[.map (some w.heap.size)] 342)) 27 (.slice al l.length cap)
 simp only[World.size_alloc] at bA bP
 have hB0:Below w.heap.size w (((w.alloc (.map #[] 0)).alloc (.cells #[.map (some w.heap.size)] 342)).alloc (.cells #[.slice al l.length cap] 27)):=(((Below.refl _ w).alloc (Nat.le_refl _) _).alloc (by simp) _).alloc (by simp;omega) _
 have hsz:(((w.alloc (.map #[] 0)).alloc (.cells #[.map (some w.heap.size)] 342)).alloc (.cells #[.slice al l.length cap] 27)).heap.size=w.heap.size+3:=by simp
 obtain⟨W0,hW0⟩:∃ W0,((w.alloc (.map #[] 0)).alloc (.cells #[.map (some w.heap.size)] 342)).alloc (.cells #[.slice al l.length cap] 27)=W0:=⟨_,rfl⟩
 rw[hW0] at bP bA hB0 hsz hm1 ⊢
 clear hW0 hm0
 refine wpIn_rangeFunc_ownH rfl (by omega) (gf:=278) (lb:=#[.pointer (some ⟨w.heap.size+1+1,0,none⟩)]) rfl trivial (enters_of Tryz.func278 (by kernel_rfl) rfl)
  (HS.out (3 - 1) (by omega) (w.heap.size+1+1) W0 hB0 bA.cell) belowK_t (belowK_b (by omega)) (Below.refl _ _) (fun _=>rfl)
  (fun pre W=>(Boxed W (w.heap.size+1) 342 (.map (some w.heap.size))∧W.ownsMap Tryz.prog 347 (plainElem (H:=Unit) Tryz.prog 4) w.heap.size pre.length (xt7 pre))∧Below w.heap.size w W)
  (fun _ _ _=>False)
  (OwnFrom.and (OwnFrom.and (Own.from (boxed_own _ _ _) _) (fun s A B row hs hg hr=>hs.kept hg (fun e=>by have:=(hr _ e.symm).1;omega))) (ownFrom_below (Nat.le_refl _) (by omega)))
  (fun _ _ _ _ _ hs _ _=>hs)
  ⟨⟨bP,hm1⟩,hB0⟩
  (fun x a' W=>∃ Bx,w.heap.size+1<Bx∧EAt W Bx x.1∧a'={ tmps:=#[.slice al l.length cap,undef,.int .i64 0,.pointer (some ⟨w.heap.size+1,0,none⟩),.pointer (some ⟨Bx,0,none⟩),.map (some w.heap.size),.slice al l.length cap,.func (.func 278) #[] #[.pointer (some ⟨w.heap.size+1+1,0,none⟩)],.agg (eC x.1),undef,undef,undef,undef,undef,undef,undef,undef,undef,undef,undef],defers:=[] })
  (fun x a' _ X Y row hs hg hr=>by obtain⟨Bx,h1,h2,h3⟩:=hs;exact⟨Bx,h1,xvV Bx x.1 () X Y row h2 hg hr,h3⟩)
  ?assign ?body ?done ?stop
 case assign =>
  rintro lp pre x W K ⟨⟨bP1,hm2⟩,hB1⟩ hK
  have HX:=EAt.made W x.1 74
  have HK:=lH (hK _ (W.alloc (.cells (eC x.1) 74)) ((KeepsOthers.alloc _ _).from _) ((Below.refl _ W).alloc hB1.size _) ⟨⟨bP1.alloc _,hm2.alloc _⟩,hB1.alloc hB1.size _⟩ ⟨W.heap.size,bP1.lt,HX,rfl⟩)
  clear hK HX
  unfold eC at HK ⊢
  gi_wp2
  exact HK.out
 case body =>
  rintro lp pre x a' W hlp ⟨r,hr⟩ ⟨⟨bP1,hm2⟩,hB1⟩ ⟨Bx,hBx,bX,rfl⟩ hlt
  have hmx:=x.2.1
  unfold xaY at hmx
  have HKey:=lH (xqm (x.1.off,x.1.ln) ⟨hmx.2.1,hmx.2.2.1⟩)
  have HP:=lH (fun W=>xhI x.1 W)
  have HO:=lH hm2
  have HBP:=lH bP1
  have HB1:=lH hB1
  have HX:=lH bX
  have hln:pre.length<maxLen:=by unfold maxLen;omega
  clear hr hm2 bP1
  unfold eC at HP ⊢
  obtain⟨k0,k1,k2,k3⟩:=bX
  by_cases h0:x.1.rn=0
  ·have hd:decide (x.1.rn=0)=true:=by simpa using h0
   rw[hd] at HP
   have HT:=lH (xwh pre x (by omega))
   clear h0 hd hmx
   gi_wp2
   refine⟨trivial,(CallsIn.inRound lp (callsIn_wide.2 (HP.out _))).mono ?_⟩
   rintro y w1 ⟨rfl,hb⟩
   have HK1:=lH hb
   clear hb k0 k1 k2 k3
   gi_wp2
   refine⟨xfR HK1.out,HK1.out.mono hB1.size,⟨xdO HBP.out HK1.out,?_⟩,HB1.out.trans (HK1.out.mono hB1.size)⟩
   rw[HT.out]
   exact((xd7 HO.out HK1.out (by have:=hB1.size;have:=HBP.out.lt;omega)).mono (by simp))
  ·have hd:decide (x.1.rn=0)=false:=by simpa using h0
   rw[hd] at HP
   have HT:=lH (xtO pre x (by omega))
   clear h0 hd hmx
   gi_wp2
   refine⟨trivial,(CallsIn.inRound lp (callsIn_wide.2 (HP.out _))).mono ?_⟩
   rintro y w1 ⟨rfl,hb⟩
   obtain⟨c0,c1,c2,c3⟩:=EAt.later HX.out hb
   have cP:=(xdO HBP.out hb).cell
   have hown:=xd7 HO.out hb (by have:=hB1.size;have:=HBP.out.lt;omega)
   have HK1:=lH hb
   clear hb k0 k1 k2 k3
   gi_wp2_with (gi_at_mapUpdate;refine wpListIn_mapUpdate_own _ rfl _ _ _ 342 rfl 347 4 xzD Tryz.underlying342 (plainElem (H:=Unit) Tryz.prog 4) w.heap.size pre.length _ rfl hown hln _ _ _ rfl rfl HKey.out _ [] (plainElem_bool Tryz.underlying4 true) ?_;intro w2 hown2 hgrow2)
   have hKF:KeepsFrom W0.heap.size w1 w2:=KeepsFrom.of_grownBy hgrow2 (fun j e=>by cases e;omega)
   have hBW:Below w.heap.size W w2:=(HK1.out.mono hB1.size).trans ((Below.refl _ w1).grown hgrow2 (Nat.le_trans hB1.size HK1.out.size) (fun k e=>by cases e;exact Nat.le_refl _))
   refine⟨(xfR HK1.out).trans hKF,hBW,⟨?_,?_⟩,HB1.out.trans hBW⟩
   ·exact(xdO HBP.out HK1.out).kept hgrow2 (fun e=>by have:=Option.some.inj e;omega)
   ·rw[HT.out,List.length_append]
    exact hown2
 case done =>
  rintro D zs W hD rfl ⟨⟨bP1,hown⟩,hB1⟩ hK
  have cP:=bP1.cell
  have HB1:=lH hB1
  clear hB1
  gi_wp2_with (gi_at_len;refine wpListIn_len_own _ rfl _ 342 rfl 347 4 Tryz.underlying342 _ w.heap.size _ _ rfl hown ?_)
  refine⟨by simp,.inl ⟨_,_,rfl,run_takeDeferred hK,?_⟩⟩
  refine⟨_,results_tmp rfl _ _ _,?_,HB1.out.trans (belowK_b (w:=w) (Nat.le_refl _) W D _ _ (by omega) hK rfl rfl)⟩
  exact xvi (by rw[HSz.out])
 case stop =>
  rintro D c pre W _ _ h _
  exact h.elim
end Go.Proofs.YtjinnigjfopbcaaGreatDoor
namespace Go.Proofs.YtjinnigjfopbcaaGreatDoor
set_option linter.unusedVariables false
set_option linter.unusedSimpArgs false
open Go.RowKit
set_option maxRecDepth 20000
theorem xjm (a b:List It) (k:Nat) (s t:It) (ha:a[k]?=some s) (hb:b[k]?=some t) (h:a.take k=b.take k) (he:s=t):a.take (k+1)=b.take (k+1):=by
 rw[xcL a k s ha,xcL b k t hb,h,he]
theorem xfw (a b:List It) (k:Nat) (s t:It) (ha:a[k]?=some s) (hb:b[k]?=some t) (he:s≠t):a≠b:=by
 intro h
 rw[h,hb] at ha
 injection ha with ha
 exact he ha.symm
theorem xrv (v u:Value) (a b:List It) (w:World) (hv:ItsAt w v a) (hu:ItsAt w u b) :
  Calls Tryz.prog 23 #[v,u] w fun e w'=>e=.returned (.bool (decide (a=b)))∧Below w.heap.size w w':=by
 obtain⟨al,cap,rfl,hcap,hmx,hc⟩:=hv
 obtain⟨bl,cbp,rfl,hcbp,hmy,hd⟩:=hu
 have HC:=lH hc
 have HD:=lH hd
 have hmx':a.length≤maxLen:=by omega
 have hmy':b.length≤maxLen:=by omega
 unfold maxLen at hmx' hmy'
 clear hc hd
 go_enter Tryz.func23,Tryz.ntmps23
 by_cases hl:a.length=b.length
 ·have hle:((a.length:Int) != (b.length:Int))=false:=by simp;omega
  have HLn:=lH hl
  clear hl
  go_wp2_with fail
  go_loopw [5] (fun i wr=>∃ k:Nat,k≤a.length∧i=.int .i64 k∧a.take k=b.take k∧Below w.heap.size w wr) (fun i _=>a.length - (intOf i).toNat)
  case atStart=>exact⟨0,Nat.zero_le _,rfl,by simp,Below.refl _ _⟩
  case round =>
   obtain⟨k,hk,rfl,hq,hbw⟩:=hrel
   by_cases hlt:k<a.length
   ·obtain⟨⟨x,s⟩,hsk⟩:∃ t,a[k]?=some t:=⟨_,List.getElem?_eq_getElem hlt⟩
    obtain⟨⟨y,t⟩,htk⟩:∃ t,b[k]?=some t:=⟨_,List.getElem?_eq_getElem (by have:=HLn.out;omega)⟩
    obtain⟨g,off,rfl,hg,c0,c1⟩:=HC.out k _ hsk
    obtain⟨h,oh,rfl,hh,d0,d1⟩:=HD.out k _ htk
    have c0:=(hbw.cell (p:=⟨g,off+k*2,none⟩) hg).trans c0
    have c1:=(hbw.cell (p:=⟨g,off+k*2+1,none⟩) hg).trans c1
    have c2:=Nat.lt_of_lt_of_le hg hbw.size
    have d0:=(hbw.cell (p:=⟨h,oh+k*2,none⟩) hh).trans d0
    have d1:=(hbw.cell (p:=⟨h,oh+k*2+1,none⟩) hh).trans d1
    have d2:=Nat.lt_of_lt_of_le hh hbw.size
    have HB:=lH (fun n=>hbw.trans (show Below w.heap.size wr (wr.drewN n) from ⟨rfl,rfl,rfl,Nat.le_refl _,fun _ _=>rfl⟩))
    have hk2:(k:Int)<(b.length:Int):=by have:=HLn.out;omega
    clear hbw
    by_cases hxy:x=y
    ·subst hxy
     by_cases hst:s=t
     ·have HQ:=lH (xjm a b k _ _ hsk htk hq (by rw[hst]))
      have hy:=xcd hst
      clear hq
      go_wp2_with fail
      go_quiet (fail)
      go_wp2_with fail
      go_roundw
      case rel=>exact⟨k+1,by omega,by go_num,HQ.out,HB.out _⟩
      case measure=>simp[intOf];omega
     ·have HQ:=lH (show decide (a=b)=false from decide_eq_false (xfw a b k _ _ hsk htk (fun e=>hst (by injection e))))
      have hy:=xhl hst
      clear hq
      go_wp2_with fail
      go_quiet (fail)
      go_wp2_with fail
      go_ret
      exact⟨by rw[HQ.out];rfl,HB.out _⟩
    ·have HQ:=lH (show decide (a=b)=false from decide_eq_false (xfw a b k _ _ hsk htk (fun e=>hxy (by injection e))))
     have hy:¬ (x:Int)=(y:Int):=by omega
     clear hq
     go_wp2_with fail
     go_quiet (fail)
     go_wp2_with fail
     go_ret
     exact⟨by rw[HQ.out];rfl,HB.out _⟩
   ·have hkl:k=a.length:=by omega
    subst hkl
    rw[List.take_length,HLn.out,List.take_length] at hq
    have HQ:=lH (show decide (a=b)=true from decide_eq_true hq)
    clear hq
    go_wp2_with fail
    go_ret
    exact⟨by rw[HQ.out];rfl,hbw⟩
 ·have hle:((a.length:Int) != (b.length:Int))=true:=by simp;omega
  have HQ:=lH (show decide (a=b)=false from decide_eq_false (fun e=>hl (by rw[e])))
  go_wp2_with fail
  go_ret
  exact⟨by rw[HQ.out];rfl,Below.refl _ _⟩
theorem xk7 (v u:Value) (a b:List It) (w:World) (hv:ItsAt w v a) (hu:ItsAt w u b) :
  Calls Tryz.prog 72 #[v,u] w fun e w'=>e=.returned (.bool (decide (a=b)))∧Below w.heap.size w w':=by
 obtain⟨al,cap,rfl,hcap,hmx,hc⟩:=hv
 obtain⟨bl,cbp,rfl,hcbp,hmy,hd⟩:=hu
 have HC:=lH hc
 have HD:=lH hd
 have hmx':a.length≤maxLen:=by omega
 have hmy':b.length≤maxLen:=by omega
 unfold maxLen at hmx' hmy'
 clear hc hd
 go_enter Tryz.func72,Tryz.ntmps72
 by_cases hl:a.length=b.length
 ·have hle:((a.length:Int) != (b.length:Int))=false:=by simp;omega
  have HLn:=lH hl
  clear hl
  go_wp2_with fail
  go_loopw [13] (fun i wr=>∃ k:Nat,k≤a.length∧i=.int .i64 k∧a.take k=b.take k∧Below w.heap.size w wr) (fun i _=>a.length - (intOf i).toNat)
  case atStart=>exact⟨0,Nat.zero_le _,rfl,by simp,Below.refl _ _⟩
  case round =>
   obtain⟨k,hk,rfl,hq,hbw⟩:=hrel
   by_cases hlt:k<a.length
   ·obtain⟨⟨x,s⟩,hsk⟩:∃ t,a[k]?=some t:=⟨_,List.getElem?_eq_getElem hlt⟩
    obtain⟨⟨y,t⟩,htk⟩:∃ t,b[k]?=some t:=⟨_,List.getElem?_eq_getElem (by have:=HLn.out;omega)⟩
    obtain⟨g,off,rfl,hg,c0,c1⟩:=HC.out k _ hsk
    obtain⟨h,oh,rfl,hh,d0,d1⟩:=HD.out k _ htk
    have c0:=(hbw.cell (p:=⟨g,off+k*2,none⟩) hg).trans c0
    have c1:=(hbw.cell (p:=⟨g,off+k*2+1,none⟩) hg).trans c1
    have c2:=Nat.lt_of_lt_of_le hg hbw.size
    have d0:=(hbw.cell (p:=⟨h,oh+k*2,none⟩) hh).trans d0
    have d1:=(hbw.cell (p:=⟨h,oh+k*2+1,none⟩) hh).trans d1
    have d2:=Nat.lt_of_lt_of_le hh hbw.size
    have HB:=lH (fun n=>hbw.trans (show Below w.heap.size wr (wr.drewN n) from ⟨rfl,rfl,rfl,Nat.le_refl _,fun _ _=>rfl⟩))
    have hk1:(k:Int)<(a.length:Int):=by omega
    have hk2:(k:Int)<(b.length:Int):=by have:=HLn.out;omega
    clear hbw
    by_cases hxy:x=y
    ·subst hxy
     by_cases hst:s=t
     ·have HQ:=lH (xjm a b k _ _ hsk htk hq (by rw[hst]))
      have hy:=xcd hst
      clear hq
      go_wp2_with fail
      go_quiet (fail)
      go_wp2_with fail
      go_roundw
      case rel=>exact⟨k+1,by omega,by go_num,HQ.out,HB.out _⟩
      case measure=>simp[intOf];omega
     ·have HQ:=lH (show decide (a=b)=false from decide_eq_false (xfw a b k _ _ hsk htk (fun e=>hst (by injection e))))
      have hy:=xhl hst
      clear hq
      go_wp2_with fail
      go_quiet (fail)
      go_wp2_with fail
      go_ret
      exact⟨by rw[HQ.out];rfl,HB.out _⟩
    ·have HQ:=lH (show decide (a=b)=false from decide_eq_false (xfw a b k _ _ hsk htk (fun e=>hxy (by injection e))))
     have hy:¬ (x:Int)=(y:Int):=by omega
     clear hq
     go_wp2_with fail
     go_quiet (fail)
     go_wp2_with fail
     go_ret
     exact⟨by rw[HQ.out];rfl,HB.out _⟩
   ·have hkl:k=a.length:=by omega
    subst hkl
    rw[List.take_length,HLn.out,List.take_length] at hq
    have HQ:=lH (show decide (a=b)=true from decide_eq_true hq)
    clear hq
    go_wp2_with fail
    go_ret
    exact⟨by rw[HQ.out];rfl,hbw⟩
 ·have hle:((a.length:Int) != (b.length:Int))=true:=by simp;omega
  have HQ:=lH (show decide (a=b)=false from decide_eq_false (fun e=>hl (by rw[e])))
  go_wp2_with fail
  go_ret
  exact⟨by rw[HQ.out];rfl,Below.refl _ _⟩
theorem xsb (s t:Value) (a b:List It) (w:World) (h:ChS w s a) (h':ChS w t b) :
  Calls Tryz.prog 29 #[.agg #[s],.agg #[t]] w fun e w'=>e=.returned (.bool (decide (a=b)))∧Below w.heap.size w w':=by
 have HC:=lH (fun W (hb:Below w.heap.size w W)=>xk7 s t a b W (h.its.below hb) (h'.its.below hb))
 obtain⟨a1,n1,c1,rfl⟩:=h.form
 obtain⟨a2,n2,c2,rfl⟩:=h'.form
 clear h h'
 go_enter Tryz.func29,Tryz.ntmps29
 go_wp2_with fail
 refine(HC.out _ (by go_grown)).mono ?_
 rintro e w1 ⟨rfl,hb⟩
 have H1:=lH (((Below.refl w.heap.size w).alloc (Nat.le_refl _) _).alloc (by simp) _ |>.trans (hb.mono (by simp;omega)))
 clear hb
 go_wp2_with fail
 go_ret
 exact⟨rfl,H1.out⟩
end Go.Proofs.YtjinnigjfopbcaaGreatDoor
namespace Go.Proofs.YtjinnigjfopbcaaGreatDoor
set_option linter.unusedVariables false
set_option linter.unusedSimpArgs false
set_option maxRecDepth 20000
theorem xiL:∀ (l:List En) (d:ByteArray) (out:List It) (m:Int),(xb2 l d out m).2≠0→(xb2 l d out m).1=[]
 | [],d,out,m,h=>by rw[xb2] at h;exact absurd rfl h
 | e :: l,d,out,m,h=>by
  rw[xb2] at h ⊢
  by_cases h1:e.rn=0
  ·rw[if_pos h1]
  rw[if_neg h1] at h ⊢
  by_cases h2:(d.size:Int)<e.off+e.ln
  ·rw[if_pos h2]
  rw[if_neg h2] at h ⊢
  by_cases h3:2048<m+e.rn
  ·rw[if_pos h3]
  rw[if_neg h3] at h ⊢
  by_cases h4:65536<e.ln
  ·rw[if_pos h4]
  rw[if_neg h4] at h ⊢
  exact xiL l d _ _ h
theorem xov {l:List En} {d:ByteArray} (h:(xcT l d).2≠0):(xcT l d).1=[]:=by
 unfold xcT at h ⊢
 split
 ·rfl
 ·rename_i h1
  rw[if_neg h1] at h
  exact xiL l d _ _ h
end Go.Proofs.YtjinnigjfopbcaaGreatDoor
namespace Go.Proofs.YtjinnigjfopbcaaGreatDoor
set_option linter.unusedVariables false
set_option linter.unusedSimpArgs false
open Go.ChangeShapes Go.WideShapes Go.ChangeAt Go.RowKit Go.Joins Go.Deep
set_option maxRecDepth 100000
theorem lLaid:laidOutB Tryz.prog=true:=by kernel_rfl
theorem nat_of {a:Int} (h:0≤a):∃ n:Nat,a=(n:Int):=⟨a.toNat,by omega⟩
end Go.Proofs.YtjinnigjfopbcaaGreatDoor
