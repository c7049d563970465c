/- aHd aA aEa aFa aHc aHe aM aHf aHg aHi aLf aHj. -/
import Derived.Deep.RegionLawGrows
import Derived.Test.YtjinnigjfopbcaaGreatDoorRc
import Derived.Test.YtjinnigjfopbcaaGreatDoorJa2
import Derived.Lib.AppendZerosOnto
import Derived.Lib.Overlaps
import Derived.Laws.CopyOwn
import Derived.Test.YtjinnigjfopbcaaGreatDoorJs
set_option maxHeartbeats 16000000
namespace Go.Proofs.YtjinnigjfopbcaaGreatDoor
set_option linter.unusedVariables false
set_option linter.unusedSimpArgs false
open Go.RowKit
set_option maxRecDepth 20000
theorem xae (w:World) (o:Obj):Below w.heap.size w (w.alloc o):=(Below.refl _ _).alloc (Nat.le_refl _) o
def One (w:World) (g:Nat) (x:Value):Prop:=∃ T,w.heap[g]?=some (.cells #[x] T (0,0))
theorem One.cell {w:World} {g:Nat} {x:Value} (h:One w g x):w.cell? ⟨g,0,none⟩=some x:=by
 obtain⟨T,h⟩:=h
 simp[World.cell?,h]
theorem One.frz {w:World} {g:Nat} {x:Value} (h:One w g x):w.frozen? ⟨g,0,none⟩=false:=by
 obtain⟨T,h⟩:=h
 simp[World.frozen?,h]
theorem One.lt {w:World} {g:Nat} {x:Value} (h:One w g x):g<w.heap.size:=xa3 h.cell
theorem One.below {w w':World} {g:Nat} {x:Value} (h:One w g x) (hb:Below w.heap.size w w'):One w' g x:=by
 have hl:=h.lt
 obtain⟨T,h⟩:=h
 exact⟨T,(hb.block g hl).trans h⟩
theorem One.alloc {w:World} {g:Nat} {x:Value} (h:One w g x) (o:Obj):One (w.alloc o) g x:=h.below (xae w o)
theorem xaP (w:World) (x:Value) (T:TypeId):One (w.alloc (.cells #[x] T)) w.heap.size x:=⟨T,xcn w _⟩
theorem One.set {w:World} {g:Nat} {x:Value} (h:One w g x) (x':Value):One (w.setCell ⟨g,0,none⟩ x') g x':=by
 obtain⟨T,h⟩:=h
 exact⟨T,by simp[World.setCell,Array.getElem?_modify,h]⟩
theorem One.set_other {w:World} {g g':Nat} {x:Value} (h:One w g x) (hn:g≠g') (x':Value):One (w.setCell ⟨g',0,none⟩ x') g x:=by
 obtain⟨T,h⟩:=h
 exact⟨T,(Below.heap_setCell _ _ _ _ (by simpa using hn)).trans h⟩
theorem ItsAt.set {w:World} {g:Nat} {x v:Value} {l:List It} (h:ItsAt w v l) (ho:One w g x) (x':Value):ItsAt (w.setCell ⟨g,0,none⟩ x') v l:=by
 obtain⟨T,hh⟩:=ho
 obtain⟨a,cap,rfl,h1,h2,hc⟩:=h
 refine⟨a,cap,rfl,h1,h2,fun k t ht=>?_⟩
 obtain⟨g',off,ha,hg,c0,c1⟩:=hc k t ht
 have hn:g'≠g:=by
  rintro rfl
  simp[World.cell?,hh] at c1
 have hb:(w.setCell ⟨g,0,none⟩ x').heap[g']?=w.heap[g']?:=Below.heap_setCell _ _ _ _ (by simpa using hn)
 exact⟨g',off,ha,by simpa using hg,(World.cell?_of_block (a:=⟨g',off+k*2,none⟩) hb).trans c0,(World.cell?_of_block (a:=⟨g',off+k*2+1,none⟩) hb).trans c1⟩
theorem ChS.set {w:World} {g:Nat} {x s:Value} {l:List It} (h:ChS w s l) (ho:One w g x) (x':Value):ChS (w.setCell ⟨g,0,none⟩ x') s l:=⟨h.its.set ho x',h.good⟩
theorem xaQ:(Tryz.prog.info? 36).map (·.size)=some 1:=by kernel_rfl
theorem xrJ (w:World) (g:Nat) (ty:TypeId) (x:Value) (d:TypeDesc) (c0:w.cell? ⟨g,0,none⟩=some x)
  (hu:Tryz.prog.underlying ty=some d) (hd:(match d with|.struct _|.array _ _=>true|_=>false)=true) (hi:(Tryz.prog.info? ty).map (·.size)=some 1) :
  (loadVar ty ⟨g,0,none⟩).run Tryz.prog w=.ok (.agg #[x]) w:=by
 have hl:(loadCells ⟨g,0,none⟩ 1).run Tryz.prog w=.ok #[x] w :=
  run_loadCells_list (P:=Tryz.prog) w ⟨g,0,none⟩ [x] (fun j v hv=>by
   have hadd:(⟨g,0,none⟩:Addr).add j=⟨g,j,none⟩:=by unfold Addr.add;split <;> simp_all
   rw[hadd]
   match j,hv with
   | 0,hv=>simp at hv;rw[c0,hv]
   | j+1,hv=>simp at hv)
 cases hq:Tryz.prog.info? ty with
 | none=>simp[hq] at hi
 | some i =>
  have hs:i.size=1:=by simpa[hq] using hi
  have hagg:(isAgg ty).run Tryz.prog w=.ok true w:=by
   unfold isAgg
   rw[Sem.run_bind,run_underlying hu w]
   cases d <;> simp_all
  simp[loadVar,Sem.run_bind,hagg,sizeOf,typeInfo,hq,hs,hl]
theorem xaR {fn:Func} {p q:Tmp} {ty:TypeId} (h:fn.results=#[.cell p ty,.tmp q]) (tmps:Array Value) (w:World) (g:Nat) (x v:Value) (d:TypeDesc) (hp:tmps.getD p undef=.pointer (some ⟨g,0,none⟩)) (hq:tmps.getD q undef=v) (c0:w.cell? ⟨g,0,none⟩=some x)
  (hu:Tryz.prog.underlying ty=some d) (hd:(match d with|.struct _|.array _ _=>true|_=>false)=true) (hi:(Tryz.prog.info? ty).map (·.size)=some 1) :
  (results fn tmps).run Tryz.prog w=.ok (.tuple #[.agg #[x],v]) w:=by
 have hl:=xrJ w g ty x d c0 hu hd hi
 have hp':tmps[p]?.getD undef=.pointer (some ⟨g,0,none⟩):=by simpa using hp
 have hq':tmps[q]?.getD undef=v:=by simpa using hq
 simp[results,h,hp',hq',asAddr,hl]
theorem xhi {fn:Func} {p:Tmp} {ty:TypeId} (h:fn.results=#[.cell p ty]) (tmps:Array Value) (w:World) (g:Nat) (x y:Value) (d:TypeDesc) (hp:tmps.getD p undef=.pointer (some ⟨g,0,none⟩)) (c0:w.cell? ⟨g,0,none⟩=some x) (c1:w.cell? ⟨g,1,none⟩=some y)
  (hu:Tryz.prog.underlying ty=some d) (hd:(match d with|.struct _|.array _ _=>true|_=>false)=true) (hi:(Tryz.prog.info? ty).map (·.size)=some 2) :
  (results fn tmps).run Tryz.prog w=.ok (.agg #[x,y]) w:=by
 have hl:=xeU w g ty x y d c0 c1 hu hd hi
 have hp':tmps[p]?.getD undef=.pointer (some ⟨g,0,none⟩):=by simpa using hp
 simp[results,h,hp',asAddr,hl]
theorem xjf (s:ByteArray) (w:World) (hs:s.size≤281474976710656):Calls Tryz.prog 115 #[.string s] w fun e w'=>e=.returned (.string s)∧Below w.heap.size w w':=by
 have HC:=lH (fun W=>clo_any s W hs)
 go_enter Tryz.func115,Tryz.ntmps115
 go_wp2_with fail
 refine(HC.out _).mono ?_
 rintro e w1 ⟨rfl,hb⟩
 have HB:=lH hb
 clear hb
 go_wp2_with fail
 go_ret
 exact⟨rfl,HB.out⟩
theorem xkt (id:Nat) (t:ByteArray) (w:World) (hs:t.size≤281474976710656):Calls Tryz.prog 87 #[.agg #[.int .u64 id,.string t]] w fun e w'=>e=.returned (.agg #[.int .u64 id,.string t])∧Below w.heap.size w w':=by
 have HC:=lH (fun W=>xjf t W hs)
 go_enter Tryz.func87,Tryz.ntmps87
 go_wp2_with fail
 go_region_with (refine(HC.out _).mono ?_;rintro e w1 ⟨rfl,hb⟩;have b0:w1.cell? ⟨w.heap.size,0,none⟩=some (.int .u64 id):=(hb.cell (p:=⟨w.heap.size,0,none⟩) (by simp;omega)).trans (by simp[go_sem]);have b1:w1.cell? ⟨w.heap.size,1,none⟩=some (.string t):=(hb.cell (p:=⟨w.heap.size,1,none⟩) (by simp;omega)).trans (by simp[go_sem]);have z0:w1.cell? ⟨w.heap.size+1,0,none⟩=some (.int .u64 0):=(hb.cell (p:=⟨w.heap.size+1,0,none⟩) (by simp)).trans (by simp[go_sem]);have z1:w1.cell? ⟨w.heap.size+1,1,none⟩=some (.string { data:=#[] }):=(hb.cell (p:=⟨w.heap.size+1,1,none⟩) (by simp)).trans (by simp[go_sem]);have f0:w1.frozen? ⟨w.heap.size+1,0,none⟩=false:=(hb.frozen (p:=⟨w.heap.size+1,0,none⟩) (by simp)).trans (by simp[go_sem]);have f1:w1.frozen? ⟨w.heap.size+1,1,none⟩=false:=(hb.frozen (p:=⟨w.heap.size+1,1,none⟩) (by simp)).trans (by simp[go_sem]);have hB:Below w.heap.size w w1:=(by go_grown:Below w.heap.size w _).trans (hb.mono (by simp;omega));have hl:w.heap.size+1<w1.heap.size:=xa3 z0)
 all_goals
  go_wp2_with fail
  refine bodyPost_ret (xhi rfl _ _ (w.heap.size+1) (.int .u64 id) (.string t) _ rfl (by simp[go_sem,z0,z1]) (by simp[go_sem,z0,z1]) Tryz.underlying67 rfl xqI) rfl ⟨rfl,(hB.setCell (p:=⟨w.heap.size+1,0,none⟩) (by simp) _).setCell (p:=⟨w.heap.size+1,1,none⟩) (by simp) _⟩
theorem xxf {k l:IntKind} {a b c d:Int} (h:a=b) (g:c=d):Ending.returned (.tuple #[.int k a,.int l c])=.returned (.tuple #[.int k b,.int l d]):=by rw[h,g]
theorem xr6 {k l m:IntKind} {a b c d e f:Int} (h:a=b) (g:c=d) (i:e=f):Ending.returned (.tuple #[.int k a,.int l c,.int m e])=.returned (.tuple #[.int k b,.int l d,.int m f]):=by rw[h,g,i]
def xfL (W:World) (n:Nat) (r u:Int) (s t:Bool):Prop :=
 W.cell? ⟨0,4*n,none⟩=some (.int .i64 r)∧W.cell? ⟨0,4*n+1,none⟩=some (.int .i64 u)∧W.cell? ⟨0,4*n+2,none⟩=some (.bool s)∧W.cell? ⟨0,4*n+3,none⟩=some (.bool t)
def xtc (W:World):Prop:=0<W.heap.size∧xfL W 0 0 0 true false∧xfL W 1 0 1 false false∧xfL W 2 1 1 false false∧xfL W 3 1 0 true true
theorem xfL.below {W W':World} {n:Nat} {r u:Int} {s t:Bool} (h:xfL W n r u s t) (h0:0<W.heap.size) (hb:Below W.heap.size W W'):xfL W' n r u s t :=
 ⟨(hb.cell (p:=⟨0,4*n,none⟩) h0).trans h.1,(hb.cell (p:=⟨0,4*n+1,none⟩) h0).trans h.2.1,(hb.cell (p:=⟨0,4*n+2,none⟩) h0).trans h.2.2.1,(hb.cell (p:=⟨0,4*n+3,none⟩) h0).trans h.2.2.2⟩
theorem xtc.below {W W':World} (h:xtc W) (hb:Below W.heap.size W W'):xtc W' :=
 ⟨Nat.lt_of_lt_of_le h.1 hb.size,h.2.1.below h.1 hb,h.2.2.1.below h.1 hb,h.2.2.2.1.below h.1 hb,h.2.2.2.2.below h.1 hb⟩
theorem xvw {P:Program} {ops:Array Oper} {Q:Exit→Act→World→Prop} {md:Region.Mode} {S:World→Prop} {i d:Nat} {oi:Oper} {v:Value} {fuel:Nat} {listed:Array Bool} {a:Act} {w:World} (hi:ops[i]?=some oi) (hd:oi.dst=some d)
  (hy:YieldsIf P ops S oi v a) (hS:S w) (h:wpAnyH P md ops Q S fuel (listed.setIfInBounds i true) (a.put (some d) v) w)
  (hs:Region.noSelect ops=true:=by kernel_rfl) (hf:Region.free md ops listed i=true:=by kernel_rfl) (hr:(Region.ready md ops listed).contains i=true:=by kernel_rfl) (hQ:∀ c a w,Q (.panic c) (a.put (some d) v) w→Q (.panic c) a w:=by exact fun _ _ _ h=>h):wpAnyH P md ops Q S (fuel+1) listed a w :=
 wpAnyH_take hi hs hf hr (by rw[hd];exact hQ) hy hS (by rw[hd];exact h)
theorem tK {P:Program} {ops:Array Oper} {Q:Exit→Act→World→Prop} {md:Region.Mode} {S:World→Prop} {oi:Oper} {v:Value} {fuel:Nat} {listed:Array Bool} {a a2:Act} {l2:Array Bool} {w:World} (i d:Nat) (hS:S w)
  (h:wpAnyH P md ops Q S fuel l2 a2 w) (hi:ops[i]?=some oi:=by rfl) (hd:oi.dst=some d:=by rfl) (hs:Region.noSelect ops=true:=by kernel_rfl) (hf:Region.free md ops listed i=true:=by kernel_rfl) (hr:(Region.ready md ops listed).contains i=true:=by kernel_rfl)
  (hQ:∀ c a w,Q (.panic c) (a.put (some d) v) w→Q (.panic c) a w:=by exact fun _ _ _ h=>h) (hw:Region.wanted oi (yielded ops a.tmps)=true:=by rfl) (hy:∀ w,S w→(execOp a.eval oi).run P w=.ok (.value v) w:=by intro w hSw;go_simp;try with_reducible rfl) (ha:a.put (some d) v=a2:=by (try simp only[Act.put,zsA,zsB,zsC]);exact rfl) (hl:listed.setIfInBounds i true=l2:=by (try simp only[Act.put,zsA,zsB,zsC]);exact rfl):wpAnyH P md ops Q S (fuel+1) listed a w :=
 xvw hi hd (Or.inl ⟨hw,hy⟩) hS (by rw[hl,ha];exact h) hs hf hr hQ
theorem tU {P:Program} {ops:Array Oper} {Q:Exit→Act→World→Prop} {md:Region.Mode} {S:World→Prop} {oi:Oper} {fuel:Nat} {listed:Array Bool} {a a2:Act} {l2:Array Bool} {w:World} (i d:Nat) (hS:S w)
  (h:wpAnyH P md ops Q S fuel l2 a2 w) (hi:ops[i]?=some oi:=by rfl) (hd:oi.dst=some d:=by rfl) (hs:Region.noSelect ops=true:=by kernel_rfl) (hf:Region.free md ops listed i=true:=by kernel_rfl) (hr:(Region.ready md ops listed).contains i=true:=by kernel_rfl)
  (hQ:∀ c a w,Q (.panic c) (a.put (some d) undef) w→Q (.panic c) a w:=by exact fun _ _ _ h=>h) (hw:Region.wanted oi (yielded ops a.tmps)=false:=by rfl) (ha:a.put (some d) undef=a2:=by (try simp only[Act.put,zsA,zsB,zsC]);exact rfl) (hl:listed.setIfInBounds i true=l2:=by (try simp only[Act.put,zsA,zsB,zsC]);exact rfl):wpAnyH P md ops Q S (fuel+1) listed a w :=
 xvw hi hd (Or.inr ⟨hw,rfl⟩) hS (by rw[hl,ha];exact h) hs hf hr hQ
def eC (e:En):Array Value:=#[.int .u64 e.id,.int .u64 e.off,.int .u32 e.ln,.int .u32 e.rn]
def EAt (w:World) (b:Nat) (e:En):Prop:=w.cell? ⟨b,0,none⟩=some (.int .u64 e.id)∧w.cell? ⟨b,1,none⟩=some (.int .u64 e.off)∧w.cell? ⟨b,2,none⟩=some (.int .u32 e.ln)∧w.cell? ⟨b,3,none⟩=some (.int .u32 e.rn)
theorem EAt.later {w w':World} {b:Nat} {e:En} (h:EAt w b e) (hb:Below w.heap.size w w'):EAt w' b e:=⟨xaa hb h.1,xaa hb h.2.1,xaa hb h.2.2.1,xaa hb h.2.2.2⟩
theorem EAt.made (w:World) (e:En) (T:TypeId):EAt (w.alloc (.cells (eC e) T)) w.heap.size e:=by
 unfold EAt eC
 refine⟨?_,?_,?_,?_⟩ <;> rw[World.cell?_alloc_mark] <;> rfl
theorem xbF {w w' w1:World} {b:Nat} {e:En} (hb:Below w'.heap.size w' w1) (H:(w'.cell? ⟨b,0,none⟩=some (.int .u64 e.id)∧w'.cell? ⟨b,1,none⟩=some (.int .u64 e.off)∧w'.cell? ⟨b,2,none⟩=some (.int .u32 e.ln)∧w'.cell? ⟨b,3,none⟩=some (.int .u32 e.rn))∧Below w.heap.size w w'):(w1.cell? ⟨b,0,none⟩=some (.int .u64 e.id)∧w1.cell? ⟨b,1,none⟩=some (.int .u64 e.off)∧w1.cell? ⟨b,2,none⟩=some (.int .u32 e.ln)∧w1.cell? ⟨b,3,none⟩=some (.int .u32 e.rn))∧Below w.heap.size w w1:=⟨EAt.later H.1 hb,H.2.trans (hb.mono H.2.size)⟩
theorem xuB {a b:Int} (h:a=b):Ending.returned (.int .i64 a)=.returned (.int .i64 b):=by rw[h]
theorem xfx {a b:Int} (h:a=b):Ending.returned (.int .u64 a)=.returned (.int .u64 b):=by rw[h]
theorem xin {a b:Bool} (h:a=b):Ending.returned (.bool a)=.returned (.bool b):=by rw[h]
end Go.Proofs.YtjinnigjfopbcaaGreatDoor
namespace Go.Proofs.YtjinnigjfopbcaaGreatDoor
set_option linter.unusedVariables false
set_option linter.unusedSimpArgs false
def xtJ (s b:Nat):Nat:=(s ^^^ b)*1099511628211 % 18446744073709551616
def xfQ (x:Nat) (l:List UInt8):Nat:=l.foldl (fun x c=>xtJ x c.toNat) x
def fSt:Nat:=14695981039346656037
def xsI (s:Nat) (n:Int):Int:=if n<1 then 0 else (s:Int) % n
theorem xt7 (s b:Nat):xtJ s b<18446744073709551616:=Nat.mod_lt _ (by decide)
theorem xmw (x:Nat) (l:List UInt8) (c:UInt8):xfQ x (c :: l)=xfQ (xtJ x c.toNat) l:=by
 unfold xfQ;rw[List.foldl_cons]
theorem xjT (x:Nat):xfQ x []=x:=by
 unfold xfQ;rw[List.foldl_nil]
theorem xnM (l:List UInt8):∀ x,x<18446744073709551616→xfQ x l<18446744073709551616:=by
 induction l with
 | nil=>intro x h;rw[xjT];exact h
 | cons c l ih=>intro x _;rw[xmw];exact ih _ (xt7 _ _)
theorem xmr (x:Nat) (a:List UInt8) (c:UInt8):xfQ x (a++[c])=xtJ (xfQ x a) c.toNat:=by
 unfold xfQ;rw[List.foldl_append,List.foldl_cons,List.foldl_nil]
theorem xvP (s b:Nat) (hs:s<18446744073709551616) (hb:b<18446744073709551616):s ^^^ b<18446744073709551616:=by
 have:=Nat.xor_lt_two_pow (n:=64) (x:=s) (y:=b) (by omega) (by omega)
 omega
end Go.Proofs.YtjinnigjfopbcaaGreatDoor
namespace Go.Proofs.YtjinnigjfopbcaaGreatDoor
set_option linter.unusedVariables false
set_option linter.unusedSimpArgs false
open Go.RowKit
set_option maxRecDepth 20000
theorem xfI (s:Value) (l:List It) (id:Nat) (t:ByteArray) (w:World) (h:ChS w s l) (ht:t.size≤maxLen) :
  Calls Tryz.prog 85 #[.agg #[s],.agg #[.int .u64 id,.string t],.bool (xbA id l).isSome] w fun e w'=>e=.returned (.int .i64 (putE l id t:Nat))∧Below w.heap.size w w':=by
 obtain⟨al,cap,rfl,hcap,hmx,hc⟩:=h.its
 have hfew:=h.good.few
 clear hc h
 unfold maxLen at hmx ht
 unfold putE
 obtain⟨b,hb⟩:∃ b,(xbA id l).isSome=b:=⟨_,rfl⟩
 have hb':(xbA id l).isNone=!b:=by rw[← hb];cases xbA id l <;> rfl
 rw[hb,hb']
 clear hb hb'
 by_cases h1:6004799503160661≤id
 ·have h1':(6004799503160661:Int)≤(id:Int):=by omega
  rw[if_pos h1]
  go_enter Tryz.func85,Tryz.ntmps85
  go_wp2_with fail
  go_ret
  exact⟨rfl,by go_grown⟩
 have h1':¬ (6004799503160661:Int)≤(id:Int):=by omega
 rw[if_neg h1]
 by_cases h2:t.size=0
 ·rw[if_pos h2]
  have h2':(t.toList == [])=true:=by
   have:t={ data:=#[] }:=ByteArray.ext (Array.eq_empty_of_size_eq_zero h2)
   rw[this,ByteArray.toList_eq];rfl
  go_enter Tryz.func85,Tryz.ntmps85
  go_wp2_with fail
  go_ret
  exact⟨rfl,by go_grown⟩
 rw[if_neg h2]
 have h2':(t.toList == [])=false:=by
  rw[ByteArray.toList_eq,beq_eq_false_iff_ne]
  intro e
  exact h2 (by have:=congrArg List.length e;simpa using this)
 by_cases h3:65536<t.size
 ·have h3':(65536:Int)<(t.size:Int):=by omega
  rw[if_pos h3]
  go_enter Tryz.func85,Tryz.ntmps85
  go_wp2_with fail
  go_ret
  exact⟨rfl,by go_grown⟩
 have h3':¬ (65536:Int)<(t.size:Int):=by omega
 rw[if_neg h3]
 by_cases h4:2048≤l.length
 ·have h4':(2048:Int)≤(l.length:Int):=by omega
  cases b with
  | true =>
   rw[if_neg (by simp)]
   go_enter Tryz.func85,Tryz.ntmps85
   go_wp2_with fail
   go_ret
   exact⟨rfl,by go_grown⟩
  | false =>
   rw[if_pos (by simpa using h4)]
   go_enter Tryz.func85,Tryz.ntmps85
   go_wp2_with fail
   go_ret
   exact⟨rfl,by go_grown⟩
 ·have h4':¬ (2048:Int)≤(l.length:Int):=by omega
  rw[if_neg (by simp;intro _;omega)]
  go_enter Tryz.func85,Tryz.ntmps85
  go_wp2_with fail
  go_ret
  exact⟨rfl,by go_grown⟩
theorem xri (s:Value) (l:List It) (w:World) (h:ChS w s l) :
  Calls Tryz.prog 31 #[.agg #[s]] w fun e w'=>e=.returned (.int .i64 l.length)∧Below w.heap.size w w':=by
 obtain⟨al,cap,rfl,hcap,hmx,hc⟩:=h.its
 clear h hc
 unfold maxLen at hmx
 go_enter Tryz.func31,Tryz.ntmps31
 go_wp2_with fail
 go_ret
 exact⟨rfl,by go_grown⟩
theorem xdx {W:World} {ad:Addr} {n cap:Nat} {l:List It} (h:ItsAt W (.slice (some ad) n cap) l):∀ j u,(xat l)[j]?=some u→W.cell? (ad.add j)=some u:=by
 obtain⟨a,cap',he,h1,h2,hc⟩:=h
 cases he
 intro j u hu
 have hj:j<l.length*2:=by rw[← xas];exact(List.getElem?_eq_some_iff.1 hu).1
 obtain⟨t,ht⟩:∃ t,l[j / 2]?=some t:=⟨_,List.getElem?_eq_getElem (by omega)⟩
 obtain⟨g,off,ha,_,c0,c1⟩:=hc (j / 2) t ht
 obtain⟨f0,f1⟩:=xeR l (j / 2) t ht
 injection ha with ha
 subst ha
 have hadd:(⟨g,off,none⟩:Addr).add j=⟨g,off+j,none⟩:=by simp[Addr.add]
 rw[hadd]
 rcases(by omega:j=j / 2*2∨j=j / 2*2+1) with e|e
 ·rw[e,f0] at hu;rw[← hu];rw[show off+j=off+j / 2*2 from by omega];exact c0
 ·rw[e,f1] at hu;rw[← hu];rw[show off+j=off+j / 2*2+1 from by omega];exact c1
theorem xhU {W:World} {a:Option Addr} {n cap:Nat} {l:List It} (h:ItsAt W (.slice a n cap) l) (W':World) (hW:∀ p,W'.cell? p=W.cell? p):(Builtin.firstCells 2 n (.slice a n cap)).run Tryz.prog W'=.ok (xat l).toArray W':=by
 have h':=h
 obtain⟨a',cap',he,h1,h2,hc⟩:=h'
 cases he
 cases a with
 | none =>
  have hl0:l=[]:=by
   cases l with
   | nil=>rfl
   | cons t l=>obtain⟨g,off,ha,_⟩:=hc 0 t rfl;cases ha
  subst hl0
  exact run_firstCells_none W' 2 0 0 cap
 | some ad=>exact run_firstCells_some W' 2 l.length ad l.length cap (xat l) (xas l) (fun j u hu=>(hW _).trans (xdx h j u hu))
theorem xuz {W:World} {a:Option Addr} {n cap:Nat} {l:List It} {TS E:TypeId} (hk:Tryz.prog.underlying TS=some (.slice E)) (h:ItsAt W (.slice a n cap) l):Src Tryz.prog 2 TS (.slice a n cap) l.length (xat l) W:=by
 have h':=h
 obtain⟨a',cap',he,h1,h2,hc⟩:=h'
 cases he
 cases a with
 | none =>
  have hl0:l=[]:=by
   cases l with
   | nil=>rfl
   | cons t l=>obtain⟨g,off,ha,_⟩:=hc 0 t rfl;cases ha
  subst hl0
  exact Src.ofNil W hk cap
 | some ad=>exact Src.ofSlice W hk ad l.length cap (xat l) (xas l) (xdx h) (xcR l)
theorem xlv (W:World) (ty:TypeId) (a:Option Addr) (n cap:Nat) (x:Value) (L m:List It) (hv:ItsAt W (.slice a n cap) L) (hx:ItsAt W x m) (hg:cap<L.length+m.length) (hl:L.length+m.length≤1000000) :
  ∃ v' w',(Builtin.append_ #[34,34] ty #[.slice a n cap,x]).run Tryz.prog W=.ok v' w'∧xaL w' W.heap.size 67 v' (L++m)∧Below W.heap.size W w':=by
 obtain⟨i0,hi,hz0,hz1,hz2⟩:=xao xcX
 have hx':=hx
 obtain⟨ax,cx,rfl,_⟩:=hx'
 have hn:n=L.length:=by obtain⟨_,_,e,_⟩:=hv;cases e;rfl
 subst hn
 have hsrc:=xuz Tryz.underlying34 hx
 have hold:=xhU hv W.drew (fun p=>by simp)
 have hr:=run_append_grow_src (P:=Tryz.prog) W 34 34 ty 67 i0 _ Tryz.underlying34 hi hz0 a L.length cap (xat L) (by rw[hz1];exact hold) (.slice ax m.length cx) m.length (xat m) (by rw[hz1];exact hsrc) hg (by omega) (growslice_fits hg (by rw[hz2];omega))
 refine⟨_,_,hr,?_,((Below.refl W.heap.size W).drew).alloc (Nat.le_refl _) _⟩
 have hge:=grownCap_ge W (L.length+m.length) cap 67
 have hle:=grownCap_le_maxLen W (L.length+m.length) cap 67 (by unfold maxLen;omega)
 generalize grownCap W (L.length+m.length) cap 67=G at *
 unfold xaL
 rw[List.length_append]
 refine⟨by rw[xas,List.length_append],.inr ⟨W.heap.size,G,_,rfl,Nat.le_refl _,xcn W.drew _,hge,hle,?_,?_⟩⟩
 ·simp only[Array.size_append,size_zeroCells]
  have e1:(xat L++xat m).toArray.size=(L.length+m.length)*2:=by simp[xas];omega
  rw[e1]
  show (L.length+m.length)*2+(G - (L.length+m.length))*2=G*2
  omega
 ·rw[xbT]
  simp only[Array.toList_append]
  rw[List.take_append_of_le_length (by simp[xas];omega)]
  exact List.take_of_length_le (by simp[xas];omega)
def xrh (l:List It) (w:World) (x:Ending) (w':World):Prop:=∃ v',x=.returned v'∧ItsAt w' v' l∧Below w.heap.size w w'
theorem xgy (ad:Addr) (n c:Nat) (w:World):(Op.equal 34 (.slice (some ad) n c) (.slice none 0 0)).run Tryz.prog w=.ok false w:=by
 rw[Op.equal,show Op.maxDepth=9999+1 from rfl]
 unfold Op.equalIn
 simp[go_sem]
theorem xfW (ad:Addr) (n c:Nat) (w:World):(binOp BinOp.eql 34 (.slice (some ad) n c) (.slice none 0 0)).run Tryz.prog w=.ok (.bool false) w:=by
 simp[binOp,go_sem,xgy]
theorem xgE (c:Nat) (w:World):(Op.equal 34 (.slice none 0 c) (.slice none 0 0)).run Tryz.prog w=.ok true w:=by
 rw[Op.equal,show Op.maxDepth=9999+1 from rfl]
 unfold Op.equalIn
 simp[go_sem]
theorem xfU (c:Nat) (w:World):(binOp BinOp.eql 34 (.slice none 0 c) (.slice none 0 0)).run Tryz.prog w=.ok (.bool true) w:=by
 simp[binOp,go_sem,xgE]
theorem xnh (v:Value) (l:List It) (w:World) (hv:ItsAt w v l) (hl:l.length≤200000):Calls Tryz.prog 63 #[v] w (xrh l w):=by
 obtain⟨i0,hi,hz0,hz1,hz2⟩:=xao xcX
 have HI0:=lH hi
 have HZ0:=lH hz0
 have HZ1:=lH hz1
 have HZ2:=lH hz2
 clear hi hz0 hz1 hz2
 have hv':=hv
 obtain⟨a,cap,rfl,h1,h2,hc⟩:=hv'
 cases a with
 | none =>
  have hl0:l=[]:=by
   cases l with
   | nil=>rfl
   | cons t l=>obtain⟨g,off,ha,_⟩:=hc 0 t rfl;cases ha
  subst hl0
  clear hc hv
  have hneq:=fun W=>xfU cap W
  go_enter Tryz.func63,Tryz.ntmps63
  go_wp2_with fail
  go_ret
  exact⟨_,rfl,xdp _,Below.refl _ _⟩
 | some ad =>
  have HV:=lH hv
  have hneq:=fun W=>xfW ad l.length cap W
  clear hc hv
  go_enter Tryz.func63,Tryz.ntmps63
  have HO:Hid ((w.alloc (.cells #[] 67)).ownsRow w.heap.size 67 2 (.slice (some ⟨w.heap.size,0,none⟩) 0 0) 0 (xat [])):=lH ⟨rfl,.inr ⟨w.heap.size,0,#[],rfl,Nat.le_refl _,xcn w _,Nat.le_refl _,Nat.zero_le _,rfl,rfl⟩⟩
  have HNW:=lH (xdx (HV.out.below ((Below.refl w.heap.size w).alloc (Nat.le_refl _) (.cells #[] 67))))
  go_wp2_with (first|(at_builtin;refine wpList_append_own _ rfl _ _ 34 rfl w.heap.size 67 i0 (.agg #[.int .u64 0,.string { data:=#[] }]) 2 24 Tryz.underlying34 HI0.out HZ0.out HZ1.out HZ2.out rfl (by decide) _ _ _ rfl HO.out ad l.length cap (xat l) rfl (xas l) HNW.out (xcR l) ?c4 ?c5 ?c6 ?_)|fail)
  case c4=>unfold maxLen;omega
  case c5=>omega
  case c6=>simp
  intro v' w5 hown' hgr _
  have hO:xaL w5 w.heap.size 67 v' l:=by
   have h:=hown'
   unfold xaL
   simpa[xat] using h
  have hb5:Below w.heap.size w w5:=((Below.refl w.heap.size w).alloc (Nat.le_refl _) _).grown hgr (by simp) (fun g hg=>(World.ownsRow.lt HO.out g hg).1)
  have HO5:=lH hO
  have HB5:=lH hb5
  clear hown' hgr hO hb5
  go_wp2_with fail
  go_ret
  exact⟨_,rfl,HO5.out.itsAt,HB5.out⟩
theorem xol (s:Value) (l:List It) (w:World) (h:ChS w s l) :
  Calls Tryz.prog 25 #[.agg #[s]] w fun e w'=>∃ v,e=.returned v∧ItsAt w' v l∧Below w.heap.size w w':=by
 have HC:=lH (fun W (hb:Below w.heap.size w W)=>xnh s l W (h.its.below hb) (by have:=h.good.few;omega))
 obtain⟨a,n,c,rfl⟩:=h.form
 clear h
 go_enter Tryz.func25,Tryz.ntmps25
 go_wp2_with fail
 refine(HC.out _ (by go_grown)).mono ?_
 rintro e w1 ⟨v',rfl,hv,hb⟩
 have H1:=lH (((Below.refl w.heap.size w).alloc (Nat.le_refl _) _).trans (hb.mono (by simp)))
 have HV:=lH hv
 clear hb hv
 go_wp2_with fail
 go_ret
 exact⟨_,rfl,HV.out,H1.out⟩
end Go.Proofs.YtjinnigjfopbcaaGreatDoor
namespace Go.Proofs.YtjinnigjfopbcaaGreatDoor
set_option linter.unusedVariables false
set_option linter.unusedSimpArgs false
def p2:Nat→Int
 | 0=>1
 | k+1=>2*p2 k
def p4:Nat→Int
 | 0=>1
 | k+1=>4*p4 k
theorem xoK (k:Nat):1≤p4 k:=by
 induction k with
 | zero=>simp[p4]
 | succ k ih=>simp only[p4];omega
def hpl:Nat→Int→Int→Int
 | 0,_,_=>0
 | k+1,x,y=>if x<p2 k then (if y<p2 k then hpl k y x else p4 k+hpl k x (y - p2 k)) else if p2 k≤y then 2*p4 k+hpl k (x - p2 k) (y - p2 k) else 3*p4 k+hpl k (p2 k - 1 - y) (p2 k - 1 - (x - p2 k))
end Go.Proofs.YtjinnigjfopbcaaGreatDoor
namespace Go.Proofs.YtjinnigjfopbcaaGreatDoor
set_option linter.unusedVariables false
set_option linter.unusedSimpArgs false
open Go.RowKit
set_option maxRecDepth 20000
def xkr (l:List It) (id:Nat) (t:ByteArray) (w:World) (e:Ending) (w':World):Prop:=∃ s',e=.returned (.tuple #[.agg #[s'],.int .i64 (putE l id t:Nat)])∧ChS w' s' (xcG l id t)∧Below w.heap.size w w'
structure PutS (w W:World) (s:Value) (id:Nat) (t:ByteArray):Prop where
 box:One W w.heap.size s
 res:One W (w.heap.size+1) (.slice none 0 0)
 itm:Two W (w.heap.size+2) (.int .u64 id) (.string t)
 bel:Below w.heap.size w W
theorem One.lower {w w':World} {B g:Nat} {x:Value} (h:One w g x) (hb:Below B w w') (hg:g<B):One w' g x:=by
 obtain⟨T,h⟩:=h
 exact⟨T,(hb.block g hg).trans h⟩
theorem PutS.below {w W W':World} {s:Value} {id:Nat} {t:ByteArray} (h:PutS w W s id t) (hb:Below W.heap.size W W'):PutS w W' s id t :=
 ⟨h.box.below hb,h.res.below hb,h.itm.below hb,h.bel.trans (hb.mono h.bel.size)⟩
theorem PutS.lower {w W W':World} {s:Value} {id:Nat} {t:ByteArray} {B:Nat} (h:PutS w W s id t) (hb:Below B W W') (hB:w.heap.size+2<B):PutS w W' s id t :=
 ⟨h.box.lower hb (by omega),h.res.lower hb (by omega),h.itm.lower hb hB,h.bel.trans (hb.mono (by omega))⟩
theorem xij (w:World) (s:Value) (id:Nat) (t:ByteArray):PutS w (((w.alloc (.cells #[s] 36)).alloc (.cells #[.slice none 0 0] 36)).alloc (.cells #[.int .u64 id,.string t] 67)) s id t:=by
 have h1:=xaP w s 36
 have h2:=xaP (w.alloc (.cells #[s] 36)) (.slice none 0 0) 36
 have h3:=xem ((w.alloc (.cells #[s] 36)).alloc (.cells #[.slice none 0 0] 36)) (.int .u64 id) (.string t) 67
 simp only[World.size_alloc] at h2 h3
 exact⟨(h1.alloc _).alloc _,h2.alloc _,h3,by go_grown⟩
theorem PutS.room {w W:World} {s:Value} {id:Nat} {t:ByteArray} (h:PutS w W s id t):w.heap.size+2<W.heap.size:=h.itm.lt
theorem xme (s:Value) (l:List It) (id:Nat) (t:ByteArray) (w:World) (h:ChS w s l) (hid:id<18446744073709551616) (ht:t.size≤maxLen) (h0:putE l id t≠0) :
  Calls Tryz.prog 64 #[.agg #[s],.int .u64 id,.string t] w (xkr l id t w):=by
 have HP:=lH (fun W (hb:Below w.heap.size w W)=>xe8 s l id W (h.below hb))
 have HK:=lH (fun W (hb:Below w.heap.size w W)=>xfI s l id t W (h.below hb) ht)
 have hne:((putE l id t:Nat):Int)≠0:=by omega
 have hbn:(((putE l id t:Nat):Int) != 0)=true:=by simpa using hne
 have hpl:xcG l id t=l:=by unfold xcG;rw[if_neg h0]
 unfold xkr
 rw[hpl]
 have HS:=lH h
 obtain⟨a,n,c,rfl⟩:=h.form
 have HST:=lH (xij w (.slice a n c) id t)
 clear h hpl h0 hne
 generalize (xbA id l).isSome=b at *
 generalize putE l id t=z at *
 go_enter Tryz.func64,Tryz.ntmps64
 go_wp2_with fail
 refine(HP.out _ (by go_grown)).mono ?_
 rintro e w1 ⟨rfl,hb⟩
 have H1:=lH (HST.out.below hb)
 have k0:=H1.out.box.cell
 obtain⟨k1,k2,_,_⟩:=H1.out.itm
 clear hb
 go_wp2_with fail
 refine(HK.out _ H1.out.bel).mono ?_
 rintro e w2 ⟨rfl,hb⟩
 have H2:=lH (H1.out.below hb)
 clear hb k0 k1 k2
 have k0:=H2.out.box.cell
 have r0:=H2.out.res.cell
 have r1:=H2.out.res.frz
 go_wp2_with fail
 refine bodyPost_ret (xaR rfl _ _ (w.heap.size+1) _ _ _ rfl rfl (H2.out.res.set _).cell Tryz.underlying36 rfl xaQ) rfl ⟨_,rfl,?_,H2.out.bel.setCell (p:=⟨w.heap.size+1,0,none⟩) (Nat.le_succ _) _⟩
 exact(HS.out.below H2.out.bel).set H2.out.res _
theorem ItsAt.pre3 {w:World} {a:Option Addr} {n cap:Nat} {l:List It} (h:ItsAt w (.slice a n cap) l) (k:Nat) (hk:k≤l.length):ItsAt w (.slice a k k) (l.take k):=by
 obtain⟨a',cap',e,h1,h2,hc⟩:=h
 cases e
 have e2:(l.take k).length=k:=by rw[List.length_take];omega
 refine⟨_,k,by rw[e2],by omega,by omega,fun j t ht=>hc j t ?_⟩
 rw[List.getElem?_take] at ht
 split at ht
 ·exact ht
 ·cases ht
theorem ItsAt.post {w:World} {g off n cap:Nat} {l:List It} (h:ItsAt w (.slice (some ⟨g,off,none⟩) n cap) l) (k:Nat) (hk:k≤l.length):ItsAt w (.slice (some ⟨g,off+k*2,none⟩) (l.length - k) (cap - k)) (l.drop k):=by
 obtain⟨a,cap',e,h1,h2,hc⟩:=h
 cases e
 refine⟨_,cap - k,by rw[List.length_drop],by rw[List.length_drop];omega,by omega,fun j t ht=>?_⟩
 rw[List.getElem?_drop] at ht
 obtain⟨g',off',e,hg,c0,c1⟩:=hc (k+j) t ht
 cases e
 refine⟨g,off+k*2,rfl,hg,?_,?_⟩
 ·rw[show off+k*2+j*2=off+(k+j)*2 by omega];exact c0
 ·rw[show off+k*2+j*2+1=off+(k+j)*2+1 by omega];exact c1
theorem ItsAt.cut {w:World} {ad:Addr} {n cap:Nat} {l:List It} (h:ItsAt w (.slice (some ad) n cap) l) (k:Nat) (hk:k≤l.length):ItsAt w (.slice (some (ad.add (k*2))) (l.length - k) (cap - k)) (l.drop k):=by
 obtain⟨a',cap',e,h1,h2,hc⟩:=h
 cases e
 refine⟨_,cap - k,by rw[List.length_drop],by rw[List.length_drop];omega,by omega,fun j t ht=>?_⟩
 rw[List.getElem?_drop] at ht
 obtain⟨g',off',e,hg,c0,c1⟩:=hc (k+j) t ht
 cases e
 refine⟨g',off'+k*2,by simp[Addr.add],hg,?_,?_⟩
 ·rw[show off'+k*2+j*2=off'+(k+j)*2 by omega];exact c0
 ·rw[show off'+k*2+j*2+1=off'+(k+j)*2+1 by omega];exact c1
theorem xkg {w:World} (a:Option Addr):ItsAt w (.slice a 0 0) []:=⟨a,0,rfl,Nat.le_refl _,by unfold maxLen;omega,fun k t h=>by simp at h⟩
theorem xm9 {id:Nat} {t:ByteArray} {l:List It} (hr:xeu l) (b:Bool) (hb:(xbA id l).isSome=b):xeM id t l=(l.take (loC id l)++[(id,t)])++l.drop (if b then loC id l+1 else loC id l):=by
 cases b with
 | false=>rw[xrV hb];simp
 | true =>
  have h:=isC (id:=id) hr
  rw[hb] at h
  obtain⟨u,hu,he⟩:=of_decide_eq_true h.symm
  rw[xuo hr u hu he];simp
theorem xwv {id:Nat} {l:List It} (hr:xeu l) (hb:(xbA id l).isSome=true):loC id l<l.length:=by
 have h:=isC (id:=id) hr
 rw[hb] at h
 obtain⟨u,hu,he⟩:=of_decide_eq_true h.symm
 exact(List.getElem?_eq_some_iff.1 hu).1
theorem xt8 (W:World) (a:Option Addr) (i:Nat) (L:List It) (hL:L.length=i) (hl:i≤5000) (id:Nat) (t:ByteArray) (hv:ItsAt W (.slice a i i) L) :
  ∃ v' w',(Builtin.append_ #[34,34] 34 #[.slice a i i,.slice (some ⟨W.heap.size,0,none⟩) 1 1]).run Tryz.prog (W.alloc (.cells #[.int .u64 id,.string t] 67))=.ok v' w'∧xaL w' (W.heap.size+1) 67 v' (L++[(id,t)])∧Below W.heap.size W w':=by
 have hx:=xik W id t 67
 obtain⟨v',w',h1,h2,h3⟩:=xlv (W.alloc (.cells #[.int .u64 id,.string t] 67)) 34 a i i (.slice (some ⟨W.heap.size,0,none⟩) 1 1) L [(id,t)] (hv.below (xae _ _)) hx (by simp;omega) (by simp;omega)
 rw[World.size_alloc] at h2 h3
 exact⟨v',w',h1,h2,(xae _ _).trans (h3.mono (Nat.le_succ _))⟩
theorem xfh {ops:Array Oper} {o:Oper} {a:Act} {w:World} {K:Act→World→Prop} {Q:Exit→Act→World→Prop} {E:Prop}
  (hg:o.guard=none) (s x:Operand) (tA tB:TypeId) (hop:o.op=Op.call { callee:=Callee.builtin Builtin.append,args:=#[s,x],argTypes:=#[tA,tB] })
  (v u:Value) (hs:a.eval s=v) (hx:a.eval x=u) {v':Value} {w':World} (hr:(Builtin.append_ #[tA,tB] o.type #[v,u]).run Tryz.prog w=.ok v' w') (hK:K (a.put o.dst v') w') :
  if Region.wanted o (yielded ops a.tmps)=true then Oper.wp Tryz.prog o a w K Q else E:=by
 have hw:Region.wanted o (yielded ops a.tmps)=true:=by simp[Region.wanted,hg]
 rw[if_pos hw]
 unfold Oper.wp
 simp[execOp,hop,resolve,invoke,builtin,hs,hx,hr,Result.andThen]
 exact hK
theorem xju (s:Value) (l:List It) (id:Nat) (t:ByteArray) (w:World) (h:ChS w s l) (hid:id<18446744073709551616) (ht:t.size≤maxLen) (h0:putE l id t=0) :
  Calls Tryz.prog 64 #[.agg #[s],.int .u64 id,.string t] w (xkr l id t w):=by
 have HP:=lH (fun W (hb:Below w.heap.size w W)=>xe8 s l id W (h.below hb))
 have HK:=lH (fun W (hb:Below w.heap.size w W)=>xfI s l id t W (h.below hb) ht)
 have hts:t.size≤65536:=by
  unfold putE at h0
  by_cases h1:6004799503160661≤id
  ·rw[if_pos h1] at h0;cases h0
  rw[if_neg h1] at h0
  by_cases h2:t.size=0
  ·omega
  rw[if_neg h2] at h0
  by_cases h3:65536<t.size
  ·rw[if_pos h3] at h0;cases h0
  omega
 have HKE:=lH (fun W=>xkt id t W (by omega))
 have hpl:xcG l id t=xeM id t l:=by unfold xcG;rw[if_pos h0]
 have HG:=lH (xkE (id:=id) (s:=t) h.good)
 obtain⟨b,hb⟩:∃ b,(xbA id l).isSome=b:=⟨_,rfl⟩
 have HPS:=lH (xm9 (t:=t) h.good.rise b hb)
 have HLT:=lH (fun(e:b=true)=>xwv (id:=id) h.good.rise (by rw[hb,e]))
 have hle:=xkF id l
 rw[hb] at HP HK
 rw[h0] at HK
 unfold xkr
 rw[h0]
 rw[hpl] at HG ⊢
 rw[HPS.out] at HG ⊢
 generalize loC id l=i at *
 obtain⟨a,cap,rfl,hcap,hmx,hc⟩:=h.its
 have HV:=lH h.its
 have hfew:=h.good.few
 have HST:=lH (xij w (.slice a l.length cap) id t)
 unfold maxLen at hmx
 clear h hpl h0 hb hc HPS
 obtain⟨M,hM⟩:∃ M,(l.take i++[(id,t)])++l.drop (if b=true then i+1 else i)=M:=⟨_,rfl⟩
 rw[hM] at HG ⊢
 have HM:=lH hM
 clear hM
 go_enter Tryz.func64,Tryz.ntmps64
 go_wp2_with fail
 refine(HP.out _ (by go_grown)).mono ?_
 rintro e w1 ⟨rfl,hb⟩
 have H1:=lH (HST.out.below hb)
 have k0:=H1.out.box.cell
 obtain⟨k1,k2,_,_⟩:=H1.out.itm
 clear hb
 go_wp2_with fail
 refine(HK.out _ H1.out.bel).mono ?_
 rintro e w2 ⟨rfl,hb⟩
 have H2:=lH (H1.out.below hb)
 have HV2:=lH (HV.out.below H2.out.bel)
 clear hb k0 k1 k2 HP HK H1 HST
 have k0:=H2.out.box.cell
 have hi:(i:Int)≤(l.length:Int):=by omega
 have hi2:(i:Int)≤(cap:Int):=by omega
 go_upto_region 6 with fail
 go_cut [12] (fun q wx=>ItsAt wx q (l.drop i)∧wx=w2)
 case first =>
  cases a with
  | none =>
   have hl0:l=[]:=by
    obtain⟨_,_,e,_,_,hc⟩:=HV.out
    cases l with
    | nil=>rfl
    | cons t l=>obtain⟨g,off,ha,_⟩:=hc 0 t rfl;cases e;cases ha
   subst hl0
   obtain rfl:i=0:=by simpa using hle
   go_wp2_with fail
   go_meet
   case rel=>exact⟨HV2.out,rfl⟩
  | some ad =>
   by_cases hci:cap=i
   ·subst hci
    obtain rfl:cap=l.length:=by omega
    go_wp2_with fail
    go_meet
    case rel=>exact⟨by rw[List.drop_length];exact xkg _,rfl⟩
   ·go_wp2_with fail
    go_meet
    case rel=>exact⟨HV2.out.cut i hle,rfl⟩
 case rest =>
  obtain⟨hq,rfl⟩:=hcut
  generalize wc=w2 at *
  have HQ:=lH hq
  obtain⟨aq,cq,rfl,hcq,hmq,hcc⟩:=hq
  rw[List.length_drop] at *
  go_upto_if 35 with fail
  go_cut [12] (fun q wx=>ItsAt wx q (l.drop (if b then i+1 else i))∧wx=w2)
  case first =>
   cases b with
   | false =>
    clear hcc
    go_wp2_with fail
    go_meet
    case rel=>exact⟨HQ.out,rfl⟩
   | true =>
    have hlt:=HLT.out rfl
    obtain⟨g,off,rfl,_⟩:=hcc 0 (l[i]) (by simp)
    clear hcc
    by_cases hc1:cq=1
    ·subst hc1
     have hll:l.length - i=1:=by omega
     have hdd:l.drop (i+1)=[]:=List.drop_of_length_le (by omega)
     rw[hll] at *
     go_wp2_with fail
     go_meet
     case rel=>exact⟨by simp only[if_pos,hdd];exact xkg _,rfl⟩
    ·have hd:=HQ.out.cut 1 (by rw[List.length_drop];omega)
     rw[List.drop_drop,List.length_drop] at hd
     have HD:=lH hd
     have h1l:(1:Int)≤((l.length - i:Nat):Int):=by omega
     clear hd
     go_wp2_with fail
     go_meet
     case rel=>exact⟨HD.out,rfl⟩
  case rest =>
   obtain⟨hq2,rfl⟩:=hcut
   generalize wc=w2 at *
   have HQ2:=lH hq2
   obtain⟨aq2,cq2,rfl,_,_,_⟩:=hq2
   have HA:=lH (fun X (hX:Below w2.heap.size w2 X)=>xt8 X a i (l.take i) (by rw[List.length_take];omega) (by omega) id t ((HV2.out.pre3 i hle).below hX))
   obtain⟨k1,k2,_,_⟩:=H2.out.itm
   clear hcc HLT HQ
   generalize (l.drop (if b=true then i+1 else i)).length=n2 at *
   go_upto_region 9 with fail
   go_cut [13] (fun q wx=>xaL wx (w2.heap.size+1) 67 q (l.take i++[(id,t)])∧Below w2.heap.size w2 wx)
   case first =>
    go_region_law (first|(refine xfh rfl (.tmp 42) (.tmp 45) 34 34 rfl (.slice a i i) (.slice (some ⟨w3.heap.size,0,none⟩) 1 1) (by simp[Act.eval,Act.put]) (by simp[Act.eval,Act.put]) hr ?_)|(go_simp;go_at_call 87;refine(HKE.out _).mono ?_;rintro e w3 ⟨rfl,hb⟩;have hb3:Below w2.heap.size w2 w3:=(by go_grown:Below w2.heap.size w2 _).trans (hb.mono (by simp));obtain⟨v',w4,hr,ho,hb4⟩:=HA.out w3 hb3;have k3:=(H2.out.below hb3).box.cell;have k4:∀ O,(w3.alloc O).cell? ⟨w.heap.size,0,none⟩=_:=fun O=>((H2.out.below hb3).box.alloc O).cell))
    all_goals
     go_wp2_with fail
     go_meet
     case rel=>exact⟨ho.mono (by have:=hb3.size;omega),hb3.trans (hb4.mono hb3.size)⟩
   case rest =>
    obtain⟨ho,hb4⟩:=hcut
    generalize wc=w4 at *
    have hsz:w2.heap.size+1<w4.heap.size:=by
     rcases ho.form with ⟨_,h⟩|⟨g,cp,_,h1,h2,_⟩
     ·simp at h
     ·omega
    have hlen:(l.take i++[(id,t)]).length+(l.drop (if b=true then i+1 else i)).length≤1000000:=by
     rw[List.length_append,List.length_take,List.length_drop];simp;omega
    obtain⟨v5,w5,hr5,ho5,hg5⟩:=xap w4 (w2.heap.size+1) 34 67 34 _ Tryz.underlying34 xcX rfl u13 (.slice aq2 n2 cq2) _ _ ho (HQ2.out.below hb4) hlen (by omega)
    have hb5:Below (w2.heap.size+1) w4 w5:=(Below.refl _ _).grown hg5 (by omega) (fun k hk=>(ho.lt k hk).1)
    have H5:=lH ((H2.out.below hb4).lower hb5 (by have:=H2.out.room;omega))
    have HO5:=lH ho5
    obtain⟨a5,n5,c5,rfl⟩:∃ a n c,v5=.slice a n c:=by obtain⟨_,_,e⟩:=ho5.slice;exact⟨_,_,_,e⟩
    have r0:=H5.out.res.cell
    have r1:=H5.out.res.frz
    clear ho hb4 hg5 hb5 ho5 hlen k0 k1 k2 HA HQ2 H2
    go_wp2_with (first|(at_builtin;refine Lib.wpList_append_run _ rfl _ _ _ _ rfl _ _ rfl rfl _ _ hr5 ?_)|fail)
    refine bodyPost_ret (xaR rfl _ _ (w.heap.size+1) _ _ _ rfl rfl (H5.out.res.set _).cell Tryz.underlying36 rfl xaQ) rfl ⟨_,rfl,⟨by rw[← HM.out];exact HO5.out.itsAt.set H5.out.res _,HG.out⟩,H5.out.bel.setCell (p:=⟨w.heap.size+1,0,none⟩) (Nat.le_succ _) _⟩
theorem xtm (s:Value) (l:List It) (id:Nat) (t:ByteArray) (w:World) (h:ChS w s l) (hid:id<18446744073709551616) (ht:t.size≤maxLen) :
  Calls Tryz.prog 64 #[.agg #[s],.int .u64 id,.string t] w fun e w'=>∃ s',e=.returned (.tuple #[.agg #[s'],.int .i64 (putE l id t:Nat)])∧ChS w' s' (xcG l id t)∧Below w.heap.size w w':=by
 by_cases h0:putE l id t=0
 ·exact xju s l id t w h hid ht h0
 ·exact xme s l id t w h hid ht h0
structure DelS (w W:World) (s:Value):Prop where
 box:One W w.heap.size s
 res:One W (w.heap.size+1) (.slice none 0 0)
 bel:Below w.heap.size w W
theorem DelS.below {w W W':World} {s:Value} (h:DelS w W s) (hb:Below W.heap.size W W'):DelS w W' s :=
 ⟨h.box.below hb,h.res.below hb,h.bel.trans (hb.mono h.bel.size)⟩
theorem xdM (W:World) (g o dLen dCap:Nat) (a:Addr) (sLen sCap:Nat) (cur:List Value) (T:TypeId) (cs:List Value) (hg:W.heap[g]?=some (.cells cur.toArray T (0,0))) (hn:cs.length=Nat.min sLen dLen*2)
  (hsrc:∀ j v,cs[j]?=some v→W.cell? (a.add j)=some v) (hfit:o+cs.length≤cur.length) (h1:∀ v ∈ cs,v.oneCell'=true) :
  ∃ W',(∀ ty,(Builtin.copy_ #[34,34] ty #[.slice (some ⟨g,o,none⟩) dLen dCap,.slice (some a) sLen sCap]).run Tryz.prog W=.ok (goInt (Nat.min sLen dLen)) W')∧W'.heap[g]?=some (.cells (splice cur o cs).toArray T (0,0))∧W.grownBy W' (some g):=by
 have hl:=run_loadCells_list (P:=Tryz.prog) W a cs hsrc
 have hst:=run_storeCells_at Tryz.prog g o T cs 0 cur.toArray W hg (by simpa using hfit) h1
 obtain⟨i0,hi,hz0,hz1,hz2⟩:=xao xcX
 have hu:=Tryz.underlying34
 refine⟨W.setRow g (cur.take o++(cs++cur.drop (o+cs.length))).toArray,fun ty=>?_,?_,?_⟩
 ·have hn':Nat.min sLen dLen*2=cs.length:=hn.symm
  simp only[Nat.add_zero] at hst
  rw[show cur.take o++(cs++cur.drop (o+cs.length))=cur.toArray.toList.take o++cs++cur.toArray.toList.drop (o+cs.length) by simp]
  simp[Builtin.copy_,run_underlying hu,Builtin.lenOf,Builtin.firstCells,sizeOf,typeInfo,hi,hz1,hn',hl,hst]
 ·exact setRow_heap W g _ _ T _ hg
 ·exact⟨rfl,rfl,rfl,by simp[World.setRow],fun k hk hne=>setRow_other W g k _ (fun e=>hne (by rw[e]))⟩
theorem xnD (w:World):(sizeOf 67).run Tryz.prog w=.ok 2 w:=by
 obtain⟨i0,hi,hz0,hz1,hz2⟩:=xao xcX
 simp[sizeOf,typeInfo,hi,hz1]
theorem xqY (w:World) (vb b oB lb cb:Nat) (hvb:vb≠b) (x y:Value) (tA tB:TypeId) (cur:Array Value) (hA:w.heap[vb]?=some (.cells #[x,y] tA (0,0))) (hB:w.heap[b]?=some (.cells cur tB (0,0))) (hc:cur.size≠0) :
  (callFunc 163 #[.slice (some ⟨vb,0,none⟩) 1 1,.slice (some ⟨b,oB,none⟩) lb cb]).run Tryz.prog w=.ok (.value (.bool false)) w:=by
 rw[run_callFunc_extern Tryz.func163 (by kernel_rfl) (by kernel_rfl) (by kernel_rfl) (e:=Extern.SlicesOverlaps.overlaps #[34,34] #[4]) (by kernel_rfl),
  Lib.run_overlaps_apart w 34 4 67 Tryz.underlying34 2 xnD ⟨vb,0,none⟩ ⟨b,oB,none⟩ 1 1 lb cb hvb tA tB 2 cur.size (by simp[World.shape?,hA]) (by simp[World.shape?,hB]) hc (by simp[World.frozen?,hA]) (by simp[World.frozen?,hA])]
 rfl
theorem xca {w:World} {ops:Array Oper} {rest:List Oper} {o:Oper} {a:Act} {Q:Exit→Act→World→Prop} (hgd:o.guard=none) (d s:Operand) (t t':TypeId)
  (ho:o.op=.call { callee:=.builtin .copy,args:=#[d,s],argTypes:=#[t,t'] }) (v u:Value) (hd:a.eval d=v) (hs:a.eval s=u) {v':Value} {w':World}
  (hr:(Builtin.copy_ #[t,t'] o.type #[v,u]).run Tryz.prog w=.ok v' w') (h:wpList Tryz.prog ops Q rest (a.put o.dst v') w'):wpList Tryz.prog ops Q (o :: rest) a w:=by
 refine wpList_plain hgd fun K hK=>?_
 unfold Oper.wp execOp
 simp only[ho,resolve,invoke,builtin,Sem.run_bind,Sem.run_pure,Result.andThen_ok,List.map_toArray,List.map_cons,List.map_nil,hd,hs,hr]
 exact hK _ _ h
theorem xcU {ops:Array Oper} {o:Oper} {a:Act} {w:World} {K:Act→World→Prop} {Q:Exit→Act→World→Prop} {E:Prop}
  (hg:o.guard=none) (d x:Operand) (dT sT:TypeId) (hop:o.op=Op.call { callee:=Callee.builtin Builtin.copy,args:=#[d,x],argTypes:=#[dT,sT] })
  (v u:Value) (hd:a.eval d=v) (hx:a.eval x=u) {v':Value} {w':World} (hr:(Builtin.copy_ #[dT,sT] o.type #[v,u]).run Tryz.prog w=.ok v' w') (hK:K (a.put o.dst v') w') :
  if Region.wanted o (yielded ops a.tmps)=true then Oper.wp Tryz.prog o a w K Q else E:=by
 have hw:Region.wanted o (yielded ops a.tmps)=true:=by simp[Region.wanted,hg]
 rw[if_pos hw]
 unfold Oper.wp
 simp[execOp,hop,resolve,invoke,builtin,hd,hx,hr,Result.andThen]
 exact hK
def xlD (l:List It) (i:Nat) (t:It):List It:=l.take i++t :: l.drop i
def xeq (l:List It) (i:Nat) (t:It) (B:Nat) (s:Value) (w:World) (e:Ending) (w':World):Prop:=∃ v',e=.returned v'∧xaL w' B 67 v' (xlD l i t)∧w.grownBy w' s.ownBlock
theorem xs1 (s:Value) (l:List It) (t:It) (B vb:Nat) (w:World) (ho:xaL w B 67 s l) (hx:ItsAt w (.slice (some ⟨vb,0,none⟩) 1 1) [t]) (hl:l.length≤5000) (hB:B≤w.heap.size) :
  Calls Tryz.prog 86 #[s,.int .i64 l.length,.slice (some ⟨vb,0,none⟩) 1 1] w (xeq l l.length t B s w):=by
 obtain⟨v5,w5,hr5,ho5,hg5⟩:=xap w B 34 67 34 _ Tryz.underlying34 xcX rfl s (.slice (some ⟨vb,0,none⟩) 1 1) l [t] ho hx (by simp;omega) hB
 have HE:Hid (∀ e,e=Ending.returned v5→xeq l l.length t B s w e w5):=lH (fun e he=>⟨v5,he,by unfold xlD;rw[List.take_length,List.drop_length];exact ho5,hg5⟩)
 have hee:((l.length:Int) == (l.length:Int))=true:=by simp
 rcases ho.form with ⟨rfl,rfl⟩|⟨g,cap,rfl,_,_,hle,hm,_⟩
 ·clear ho hx ho5 hg5
  go_enter Tryz.func86,Tryz.ntmps86
  go_wp2_with (first|(at_builtin;refine Lib.wpList_append_run _ rfl _ _ _ _ rfl _ _ rfl rfl _ _ hr5 ?_)|fail)
  go_ret
  exact HE.out _ rfl
 ·unfold maxLen at hm
  generalize l.length=n at *
  have hn:(n:Int)≤(cap:Int):=by omega
  clear ho hx ho5 hg5
  by_cases hc:cap=n
  ·subst hc
   go_enter Tryz.func86,Tryz.ntmps86
   go_wp2_with (first|(at_builtin;refine Lib.wpList_append_run _ rfl _ _ _ _ rfl _ _ rfl rfl _ _ hr5 ?_)|fail)
   go_ret
   exact HE.out _ rfl
  ·go_enter Tryz.func86,Tryz.ntmps86
   go_wp2_with (first|(at_builtin;refine Lib.wpList_append_run _ rfl _ _ _ _ rfl _ _ rfl rfl _ _ hr5 ?_)|fail)
   go_ret
   exact HE.out _ rfl
theorem ItsAt.pre {w:World} {a:Option Addr} {n cap:Nat} {l:List It} (h:ItsAt w (.slice a n cap) l) (k:Nat) (hk:k≤l.length):ItsAt w (.slice a k cap) (l.take k):=by
 obtain⟨a',cap',e,h1,h2,hc⟩:=h
 cases e
 have hl:(l.take k).length=k:=by rw[List.length_take];omega
 refine⟨_,cap,by rw[hl],by omega,h2,fun j t ht=>?_⟩
 have hj:j<k:=by have:=(List.getElem?_eq_some_iff.1 ht).1;omega
 rw[List.getElem?_take,if_pos hj] at ht
 exact hc j t ht
theorem xpU (all acc:List It) (k:Nat) (t:It) (h:all[k]?=some t):ofR (all.take k) acc (all.drop k)=if (xbA t.1 (all.take k)).isSome then ([],22) else if putE acc t.1 t.2≠0 then ([],putE acc t.1 t.2) else ofR (all.take (k+1)) (xeM t.1 t.2 acc) (all.drop (k+1)):=by
 rw[xc6 all k t h,ofR,xbY all k t h]
theorem xjo {W:World} {b:Nat} {o:Obj} (h:W.heap[b]?=some o):b<W.heap.size:=(Array.getElem?_eq_some_iff.1 h).1
theorem xqq (cur A D T:List Value) (hA:cur.take (A.length+D.length)=A++D) (hT:T.length=2) (hlen:A.length+D.length+2≤cur.length) :
  (splice (splice cur (A.length+2) D) A.length T).take (A.length+D.length+2)=A++(T++D)∧(splice (splice cur (A.length+2) D) A.length T).length=cur.length:=by
 have e1:(splice cur (A.length+2) D).length=cur.length:=length_splice _ _ _ (by omega)
 refine⟨?_,by rw[length_splice _ _ _ (by rw[e1,hT];omega),e1]⟩
 have hA1:cur.take A.length=A:=by
  have:=congrArg (List.take A.length) hA
  rw[List.take_take,Nat.min_eq_left (by omega),List.take_left] at this
  exact this
 have e2:(splice cur (A.length+2) D).take A.length=A:=by
  unfold splice
  rw[List.take_append_of_le_length (by rw[List.length_take];omega),List.take_take,Nat.min_eq_left (by omega),hA1]
 have e3:(splice cur (A.length+2) D).drop (A.length+T.length)=D++cur.drop (A.length+2+D.length):=by
  unfold splice
  have hl:(cur.take (A.length+2)).length=A.length+T.length:=by rw[List.length_take,hT];omega
  rw[← hl,List.drop_left]
 have e4:splice (splice cur (A.length+2) D) A.length T=(A++(T++D))++cur.drop (A.length+2+D.length):=by
  conv=>lhs;unfold splice
  have e2':=e2
  have e3':=e3
  unfold splice at e2' e3'
  rw[e2',e3']
  simp
 rw[e4,List.take_append_of_le_length (by simp[hT];omega)]
 exact List.take_of_length_le (by simp[hT];omega)
theorem xn1 (cur A D T:List Value) (hA:cur.take A.length=A) (hT:T.length=2) (hlen:A.length+D.length+2≤cur.length) :
  (splice (splice cur A.length T) (A.length+2) D).take (A.length+D.length+2)=A++(T++D)∧(splice (splice cur A.length T) (A.length+2) D).length=cur.length:=by
 have e1:(splice cur A.length T).length=cur.length:=length_splice _ _ _ (by omega)
 refine⟨?_,by rw[length_splice _ _ _ (by rw[e1];omega),e1]⟩
 have e2:splice cur A.length T=(A++T)++cur.drop (A.length+T.length):=by
  unfold splice
  rw[hA,List.append_assoc]
 have e3:(splice cur A.length T).take (A.length+2)=A++T:=by
  rw[e2,List.take_append_of_le_length (by simp[hT])]
  exact List.take_of_length_le (by simp[hT])
 have e4:splice (splice cur A.length T) (A.length+2) D=(A++(T++D))++(splice cur A.length T).drop (A.length+2+D.length):=by
  conv=>lhs;unfold splice
  have e3':=e3
  unfold splice at e3' ⊢
  rw[e3']
  simp
 rw[e4,List.take_append_of_le_length (by simp[hT];omega)]
 exact List.take_of_length_le (by simp[hT];omega)
theorem xkm (l:List It) (i:Nat) (t:It):xat (xlD l i t)=xat (l.take i)++([.int .u64 t.1,.string t.2]++xat (l.drop i)):=by
 unfold xlD
 rw[xbT]
 rfl
theorem xkz (l:List It) (i:Nat) (t:It) (hi:i≤l.length):(xlD l i t).length=l.length+1:=by
 unfold xlD
 rw[List.length_append,List.length_cons,List.length_take,List.length_drop]
 omega
theorem xgb (l:List It) (i:Nat):xat (l.take i)++xat (l.drop i)=xat l:=by rw[← xbT,List.take_append_drop]
theorem xo0 (l:List It) (t:It) (B vb g cap i:Nat) (w:World) (x:TypeId) (ho:xaL w B 67 (.slice (some ⟨g,0,none⟩) l.length cap) l) (hv:w.heap[vb]?=some (.cells #[.int .u64 t.1,.string t.2] x (0,0))) (hvb:vb≠g) (hi:i<l.length) (hroom:l.length+1≤cap) (hl:l.length≤5000) :
  Calls Tryz.prog 86 #[.slice (some ⟨g,0,none⟩) l.length cap,.int .i64 i,.slice (some ⟨vb,0,none⟩) 1 1] w (xeq l i t B (.slice (some ⟨g,0,none⟩) l.length cap) w):=by
 obtain⟨hfl,h2⟩:=ho
 rcases h2 with ⟨e,_⟩|⟨g',cap',cur,e,hBg,hg,hle,hm,hcs,htake⟩
 ·cases e
 cases e
 have hlA:(xat (l.take i)).length=i*2:=by rw[xas,List.length_take];omega
 have hlD:(xat (l.drop i)).length=(l.length - i)*2:=by rw[xas,List.length_drop]
 have hcl:cur.toList.length=cap*2:=by simpa using hcs
 obtain⟨r1,r2⟩:=xqq cur.toList (xat (l.take i)) (xat (l.drop i)) [.int .u64 t.1,.string t.2] (by rw[hlA,hlD,xgb,← htake];congr 1;omega) rfl (by rw[hlA,hlD,hcl];omega)
 rw[← xkm] at r1
 rw[hlA,hlD] at r1
 rw[hlA] at r2
 rw[hcl] at r2
 have hmin1:Nat.min (l.length+1 - i) (l.length - i)=l.length - i:=Nat.min_eq_right (by omega)
 have hmin2:Nat.min 1 (l.length+1 - i)=1:=Nat.min_eq_left (by omega)
 have hcell:∀ j u,(xat (l.drop i))[j]?=some u→w.drew.cell? ((⟨g,i*2,none⟩:Addr).add j)=some u:=by
  intro j u hj
  have hjl:=(List.getElem?_eq_some_iff.1 hj).1
  have hadd:(⟨g,i*2,none⟩:Addr).add j=⟨g,i*2+j,none⟩:=by simp[Addr.add]
  rw[hadd]
  show w.cell? ⟨g,i*2+j,none⟩=some u
  have h3:cur.toList[i*2+j]?=some u:=by
   have h4:(cur.toList.take (l.length*2))[i*2+j]?=some u:=by
    rw[htake,← xgb l i,List.getElem?_append_right (by omega),hlA,Nat.add_sub_cancel_left]
    exact hj
   rw[List.getElem?_take] at h4
   split at h4
   ·exact h4
   ·cases h4
  simp[World.cell?,hg]
  simpa using h3
 obtain⟨w1,hr1,hg1,hk1⟩:=xdM w.drew g (i*2+2) (l.length - i) (cap - (i+1)) ⟨g,i*2,none⟩ (l.length+1 - i) (cap - i) cur.toList 67 (xat (l.drop i)) (by show w.heap[g]?=_;simpa using hg) (by rw[hmin1,hlD]) hcell (by rw[hlD,hcl];omega) (xcR _)
 have hv1:w1.heap[vb]?=some (.cells #[.int .u64 t.1,.string t.2] x (0,0)):=by
  have hlt:vb<w.heap.size:=xjo hv
  rw[hk1.block vb hlt (fun e=>hvb (Option.some.inj e))]
  exact hv
 obtain⟨w2,hr2,hg2,hk2⟩:=xdM w1 g (i*2) (l.length+1 - i) (cap - i) ⟨vb,0,none⟩ 1 1 _ 67 [.int .u64 t.1,.string t.2] hg1 (by rw[hmin2];rfl) (by
  intro j u hj
  match j,hj with
  | 0,hj=>simp at hj;subst hj;simp[World.cell?,hv1,Addr.add]
  | 1,hj=>simp at hj;subst hj;simp[World.cell?,hv1,Addr.add]
  | j+2,hj=>simp at hj) (by rw[length_splice _ _ _ (by rw[hlD,hcl];omega),hcl];simp;omega) (by intro u hu;simp at hu;rcases hu with rfl|rfl <;> rfl)
 have hkk:w.grownBy w2 (some g):=((⟨rfl,rfl,rfl,Nat.le_refl _,fun k hk hne=>rfl⟩:w.grownBy w.drew (some g)).trans hk1).trans hk2
 have hll:(xlD l i t).length=l.length+1:=xkz l i t (by omega)
 have hown:xaL w2 B 67 (.slice (some ⟨g,0,none⟩) (l.length+1) cap) (xlD l i t):=by
  refine⟨by rw[xas],.inr ⟨g,cap,_,by rw[hll],hBg,hg2,by rw[hll];exact hroom,hm,?_,?_⟩⟩
  ·rw[List.size_toArray];exact r2
  ·rw[hll,← r1]
   congr 1
   omega
 have HE:Hid (∀ e,e=Ending.returned (.slice (some ⟨g,0,none⟩) (l.length+1) cap)→xeq l i t B (.slice (some ⟨g,0,none⟩) l.length cap) w e w2):=lH (fun e he=>⟨_,he,hown,hkk⟩)
 have hov:∀ lb cb,(callFunc 163 #[.slice (some ⟨vb,0,none⟩) 1 1,.slice (some ⟨g,(i+1)*2,none⟩) lb cb]).run Tryz.prog w=.ok (.value (.bool false)) w:=fun lb cb=>xqY w vb g _ lb cb hvb _ _ _ _ cur hv hg (by rw[hcs];omega)
 rw[hmin1] at hr1
 rw[hmin2] at hr2
 clear hown hkk hk1 hk2 hg1 hg2 hv1 hcell r1 r2 htake hcs hcl hlA hlD hfl hmin1 hmin2 hll hg hv
 generalize l.length=n at *
 unfold maxLen at hm
 have a1:(i:Int)≤(n:Int):=by omega
 have a2:((i:Int) == (n:Int))=false:=by rw[beq_eq_false_iff_ne];omega
 have a3:decide ((cap:Int)<(n:Int)+1)=false:=by rw[decide_eq_false_iff_not];omega
 have a4:¬ (cap:Int)<(n:Int)+1:=by omega
 have a5:(n:Int)+1≤(cap:Int):=by omega
 have a6:¬ cap=i:=by omega
 have a7:¬ cap=i+1:=by omega
 have a8:IntKind.i64.wrap ((n:Int)+1)=(n:Int)+1:=by rw[IntKind.wrap_i64];omega
 have a9:IntKind.i64.wrap ((i:Int)+1)=(i:Int)+1:=by rw[IntKind.wrap_i64];omega
 have b1:(i:Int)+1≤(n:Int)+1:=by omega
 have b2:((i:Int)+1).toNat=i+1:=by omega
 have b4:(0:Int)≤(i:Int)+1:=by omega
 have b5:(i:Int)≤(n:Int)+1:=by omega
 have b3:((n:Int)+1).toNat=n+1:=by omega
 go_enter Tryz.func86,Tryz.ntmps86
 go_wp2_with (simp only[hov])
 go_region_law (refine xcU rfl (.tmp 73) (.tmp 76) 34 34 rfl (.slice (some ⟨g,i*2+2,none⟩) (n - i) (cap - (i+1))) (.slice (some ⟨g,i*2,none⟩) (n+1 - i) (cap - i)) (by simp[Act.eval,Act.put];try omega) (by simp[Act.eval,Act.put];try omega) (hr1 _) ?_)
 go_wp2_with (at_builtin;refine xca rfl _ _ 34 34 rfl _ _ rfl rfl (hr2 _) ?_)
 go_ret
 exact HE.out _ rfl
theorem xon (w:World) (g n i:Nat) (l:List It) (h:ItsAt w (.slice (some ⟨g,0,none⟩) n n) l) (hi:i<n) (hn:n≤5000) :
  ∃ G W cur,(∀ ty,(Builtin.append_ #[34,3] ty #[.slice (some ⟨g,0,none⟩) i n,.int .i64 ((n:Int)+1 - (i:Int))]).run Tryz.prog w=.ok (.slice (some ⟨w.heap.size,0,none⟩) (n+1) G) W)∧W.heap[w.heap.size]?=some (.cells (cur:List Value).toArray 67 (0,0))∧cur.take (i*2)=xat (l.take i)∧cur.length=G*2∧n+1≤G∧G≤maxLen∧Below w.heap.size w W:=by
 have hl:l.length=n:=by obtain⟨_,_,e,_⟩:=h;cases e;rfl
 obtain⟨i0,hi0,hz0,hz1,hz2⟩:=xao xcX
 have hold:=xhU (h.pre i (by omega)) w.drew (fun p=>by simp)
 have hsum:i+(n+1 - i)=n+1:=by omega
 have hr:=fun ty=>Go.Lib.run_append_grow_zeros (P:=Tryz.prog) w 34 3 ty 67 i0 _ .i64 .i64 Tryz.underlying34 Tryz.underlying3 hi0 hz0 (some ⟨g,0,none⟩) i n (xat (l.take i)) (by rw[hz1];exact hold) (n+1 - i) (by omega) (by omega) (by omega) (by omega) (by rw[hz2];omega) (growslice_fits (by omega) (by rw[hz2];omega))
 rw[hsum] at hr
 have hge:=grownCap_ge w (n+1) n 67
 have hle:=grownCap_le_maxLen w (n+1) n 67 (by unfold maxLen;omega)
 have hcast:((n:Int)+1 - (i:Int))=((n+1 - i:Nat):Int):=by omega
 refine⟨grownCap w (n+1) n 67,_,((xat (l.take i)).toArray++Builtin.zeroCells (Value.agg #[.int .u64 0,.string { data:=#[] }]).cells (n+1 - i)++Builtin.zeroCells (Value.agg #[.int .u64 0,.string { data:=#[] }]).cells (grownCap w (n+1) n 67 - (n+1))).toList,fun ty=>by rw[hcast];exact hr ty,?_,?_,?_,hge,hle,((Below.refl w.heap.size w).drew).alloc (Nat.le_refl _) _⟩
 ·rw[Array.toArray_toList];exact xcn w.drew _
 ·have e1:(xat (l.take i)).length=i*2:=by rw[xas,List.length_take];omega
  simp only[Array.toList_append,List.append_assoc]
  rw[List.take_append_of_le_length (by simp[e1]),List.take_of_length_le (by simp[e1])]
 ·have e1:(xat (l.take i)).length=i*2:=by rw[xas,List.length_take];omega
  rw[Array.length_toList]
  simp only[Array.size_append,size_zeroCells]
  generalize grownCap w (n+1) n 67=G at *
  have e2:(xat (l.take i)).toArray.size=i*2:=by simp[e1]
  rw[e2]
  show i*2+(n+1 - i)*2+(G - (n+1))*2=G*2
  omega
theorem xp4 (l:List It) (t:It) (B vb g i:Nat) (w:World) (x:TypeId) (ho:ItsAt w (.slice (some ⟨g,0,none⟩) l.length l.length) l) (hv:w.heap[vb]?=some (.cells #[.int .u64 t.1,.string t.2] x (0,0))) (hi:i<l.length) (hl:l.length≤5000) (hB:B≤w.heap.size) :
  Calls Tryz.prog 86 #[.slice (some ⟨g,0,none⟩) l.length l.length,.int .i64 i,.slice (some ⟨vb,0,none⟩) 1 1] w (xeq l i t B (.slice (some ⟨g,0,none⟩) l.length l.length) w):=by
 obtain⟨G,w1,cur,hr0,hg0,hc0,hcl,hG1,hG2,hb1⟩:=xon w g l.length i l ho hi hl
 have hlA:(xat (l.take i)).length=i*2:=by rw[xas,List.length_take];omega
 have hlD:(xat (l.drop i)).length=(l.length - i)*2:=by rw[xas,List.length_drop]
 obtain⟨r1,r2⟩:=xn1 cur (xat (l.take i)) (xat (l.drop i)) [.int .u64 t.1,.string t.2] (by rw[hlA,hc0]) rfl (by rw[hlA,hlD,hcl];omega)
 rw[← xkm] at r1
 rw[hlA,hlD] at r1
 rw[hlA] at r2
 rw[hcl] at r2
 have hmin1:Nat.min (l.length - i) (l.length - i)=l.length - i:=Nat.min_self _
 have hmin2:Nat.min 1 (l.length+1 - i)=1:=Nat.min_eq_left (by omega)
 have hvl:=xjo hv
 have hv1:w1.heap[vb]?=some (.cells #[.int .u64 t.1,.string t.2] x (0,0)):=(hb1.block vb hvl).trans hv
 obtain⟨w2,hr1,hg1,hk1⟩:=xdM w1 w.heap.size (i*2) (l.length+1 - i) (G - i) ⟨vb,0,none⟩ 1 1 cur 67 [.int .u64 t.1,.string t.2] hg0 (by rw[hmin2];rfl) (by
  intro j u hj
  match j,hj with
  | 0,hj=>simp at hj;subst hj;simp[World.cell?,hv1,Addr.add]
  | 1,hj=>simp at hj;subst hj;simp[World.cell?,hv1,Addr.add]
  | j+2,hj=>simp at hj) (by rw[hcl];simp;omega) (by intro u hu;simp at hu;rcases hu with rfl|rfl <;> rfl)
 have hb2:Below w.heap.size w w2:=hb1.grown hk1 hb1.size (fun k hk=>by cases hk;exact Nat.le_refl _)
 have hcell:∀ j u,(xat (l.drop i))[j]?=some u→w2.drew.cell? ((⟨g,i*2,none⟩:Addr).add j)=some u:=by
  intro j u hj
  have h3:=xdx (ho.post i (by omega)) j u hj
  rw[Nat.zero_add] at h3
  have h4:=xal hb2 h3
  simpa using h4
 obtain⟨w3,hr2,hg2,hk2⟩:=xdM w2.drew w.heap.size (i*2+2) (l.length - i) (G - (i+1)) ⟨g,i*2,none⟩ (l.length - i) (l.length - i) (splice cur (i*2) [.int .u64 t.1,.string t.2]) 67 (xat (l.drop i)) (by show w2.heap[w.heap.size]?=_;exact hg1) (by rw[hmin1,hlD]) hcell (by rw[length_splice _ _ _ (by rw[hcl];simp;omega),hlD,hcl];omega) (xcR _)
 have hb3:Below w.heap.size w w3:=hb2.drew.grown hk2 hb2.size (fun k hk=>by cases hk;exact Nat.le_refl _)
 have hll:(xlD l i t).length=l.length+1:=xkz l i t (by omega)
 have hown:xaL w3 B 67 (.slice (some ⟨w.heap.size,0,none⟩) (l.length+1) G) (xlD l i t):=by
  refine⟨by rw[xas],.inr ⟨w.heap.size,G,_,by rw[hll],hB,hg2,by rw[hll];exact hG1,hG2,?_,?_⟩⟩
  ·rw[List.size_toArray];exact r2
  ·rw[hll,← r1]
   congr 1
   omega
 have hkk:w.grownBy w3 (some g):=⟨hb3.os,hb3.tape,hb3.output,hb3.size,fun k hk _=>hb3.block k hk⟩
 have HE:Hid (∀ e,e=Ending.returned (.slice (some ⟨w.heap.size,0,none⟩) (l.length+1) G)→xeq l i t B (.slice (some ⟨g,0,none⟩) l.length l.length) w e w3):=lH (fun e he=>⟨_,he,hown,hkk⟩)
 rw[hmin2] at hr1
 rw[hmin1] at hr2
 generalize hB0:w.heap.size=N0 at *
 clear hown hkk hk1 hk2 hg1 hg2 hv1 hcell r1 r2 hcl hlA hlD hmin1 hmin2 hll hg0 hc0 hv ho hb1 hb2 hb3 hvl hB hB0
 generalize l.length=n at *
 unfold maxLen at hG2
 have a1:(i:Int)≤(n:Int):=by omega
 have a2:((i:Int) == (n:Int))=false:=by rw[beq_eq_false_iff_ne];omega
 have a3:decide ((n:Int)<(n:Int)+1)=true:=by rw[decide_eq_true_iff];omega
 have a5:(i:Int)≤(n:Int)+1:=by omega
 have a6:¬ n=i:=by omega
 have a7:¬ G=i:=by omega
 have a8:IntKind.i64.wrap ((n:Int)+1)=(n:Int)+1:=by rw[IntKind.wrap_i64];omega
 have a9:IntKind.i64.wrap ((i:Int)+1)=(i:Int)+1:=by rw[IntKind.wrap_i64];omega
 have a10:IntKind.i64.wrap ((n:Int)+1 - (i:Int))=(n:Int)+1 - (i:Int):=by rw[IntKind.wrap_i64];omega
 have b1:(i:Int)+1≤(n:Int)+1:=by omega
 have b2:((i:Int)+1).toNat=i+1:=by omega
 have b4:(0:Int)≤(i:Int)+1:=by omega
 have b6:¬ G=i+1:=by omega
 go_enter Tryz.func86,Tryz.ntmps86
 go_wp2_with (first
  | (at_builtin;refine Lib.wpList_append_run _ rfl _ _ _ _ rfl _ _ rfl rfl _ _ (hr0 _) ?_)
  | (at_builtin;refine xca rfl _ _ 34 34 rfl _ _ rfl rfl (hr1 _) ?_))
 go_region_law (refine xcU rfl (.tmp 50) (.tmp 53) 34 34 rfl (.slice (some ⟨N0,i*2+2,none⟩) (n - i) (G - (i+1))) (.slice (some ⟨g,i*2,none⟩) (n - i) (n - i)) (by simp[Act.eval,Act.put];try omega) (by simp[Act.eval,Act.put];try omega) (hr2 _) ?_)
 go_wp2_with fail
 go_ret
 exact HE.out _ rfl
theorem xlh (s:Value) (l:List It) (t:It) (B vb i:Nat) (w:World) (x:TypeId) (ho:xaL w B 67 s l) (hv:w.heap[vb]?=some (.cells #[.int .u64 t.1,.string t.2] x (0,0))) (hvb:s.ownBlock≠some vb) (hi:i≤l.length) (hl:l.length≤5000) (hB:B≤w.heap.size) :
  Calls Tryz.prog 86 #[s,.int .i64 i,.slice (some ⟨vb,0,none⟩) 1 1] w (xeq l i t B s w):=by
 have hx:ItsAt w (.slice (some ⟨vb,0,none⟩) 1 1) [t]:=by
  refine⟨_,1,rfl,Nat.le_refl _,by unfold maxLen;omega,fun k u hu=>⟨vb,0,rfl,xjo hv,?_⟩⟩
  match k,hu with
  | 0,hu=>simp only[List.getElem?_cons_zero,Option.some.injEq] at hu;subst hu;exact⟨by simp[World.cell?,hv],by simp[World.cell?,hv]⟩
  | k+1,hu=>simp at hu
 by_cases he:i=l.length
 ·subst he
  exact xs1 s l t B vb w ho hx hl hB
 ·rcases ho.form with ⟨rfl,rfl⟩|⟨g,cap,rfl,_,_,hle,hm,_⟩
  ·exact absurd (Nat.le_antisymm hi (Nat.zero_le _)) he
  ·by_cases hr:l.length+1≤cap
   ·exact xo0 l t B vb g cap i w x ho hv (fun e=>hvb (by rw[e];rfl)) (by omega) hr hl
   ·obtain rfl:cap=l.length:=by omega
    exact xp4 l t B vb g i w x ho.itsAt hv (by omega) hl hB
end Go.Proofs.YtjinnigjfopbcaaGreatDoor
