/- aGc aGh aGi aT aVd aLn aPc aFb. -/
import Derived.Test.YtjinnigjfopbcaaGreatDoorJa5
import Derived.Test.YtjinnigjfopbcaaGreatDoorRb
import Derived.Test.YtjinnigjfopbcaaGreatDoorJs
set_option maxHeartbeats 16000000
namespace Go.Proofs.YtjinnigjfopbcaaGreatDoor
set_option linter.unusedVariables false
set_option linter.unusedSimpArgs false
open Go.RowKit
set_option maxRecDepth 20000
def xwg:Value→Option (DataW Value × List MemPlace)
 | .slice a n c=>some (.held (.slice a n c),[])
 | _=>none
def xiC:Value:=.slice none 0 0
theorem xwa:Maps.Keyed Tryz.prog 3:=Maps.int_keyed Tryz.underlying3
theorem xwc {k:Int} (h:(Lit.int .i64 k).wf=true):keyOf Tryz.prog 3 (.int .i64 k)=some (.int .i64 k):=Maps.keyOf_int_mk Tryz.underlying3 h
theorem xvO (w:World):(zeroValue 318).run Tryz.prog w=.ok xiC w:=by
 have h:((Tryz.prog.info? 318).map (·.zero))=some (some xiC):=by kernel_rfl
 cases hq:Tryz.prog.info? 318 with
 | none=>simp[hq] at h
 | some i =>
  have hz:i.zero=some xiC:=by simpa[hq] using h
  simp[zeroValue,typeInfo,hq,hz]
def xeL (w:World) (mb n:Nat) (G:Int→Value):Prop:=∃ D:DataW Value,w.ownsMap Tryz.prog 3 xwg mb n D∧∀ k,(Lit.int .i64 k).wf=true→D.atKey (.int .i64 k) (.held xiC)=.held (G k)
theorem xeL.keep {w w':World} {mb n:Nat} {G:Int→Value} (h:xeL w mb n G) (hk:w'.heap[mb]?=w.heap[mb]?):xeL w' mb n G:=by
 obtain⟨D,⟨es,clock,hb,r⟩,hG⟩:=h
 exact⟨D,⟨es,clock,hk.trans hb,r⟩,hG⟩
theorem xeL.lt {w:World} {mb n:Nat} {G:Int→Value} (h:xeL w mb n G):mb<w.heap.size:=by
 obtain⟨D,h,_⟩:=h
 exact h.lt
theorem xeL.below {w w':World} {mb n:Nat} {G:Int→Value} (h:xeL w mb n G) (hb:Below w.heap.size w w'):xeL w' mb n G:=h.keep (hb.block mb h.lt)
theorem xeL.block {w:World} {mb n:Nat} {G:Int→Value} (h:xeL w mb n G):∃ es clock,w.heap[mb]?=some (.map es clock):=by
 obtain⟨D,⟨es,clock,hb,_⟩,_⟩:=h
 exact⟨es,clock,hb⟩
theorem xtf {v:Value} {y:DataW Value × List MemPlace} (h:xwg v=some y):(∃ a n c,v=.slice a n c)∧y=(.held v,[]):=by
 cases v <;> simp[xwg] at h
 exact⟨⟨_,_,_,rfl⟩,h.symm⟩
theorem xeL.look {w:World} {mb n:Nat} {G:Int→Value} (h:xeL w mb n G) (k:Int) (hk:(Lit.int .i64 k).wf=true):(Instr.lookup 319 (.map (some mb)) (.int .i64 k) false).run Tryz.prog w=.ok (G k) w:=by
 obtain⟨D,hD,hG⟩:=h
 obtain⟨v,ps,hrun,hv⟩:=hD.lookup xwa Tryz.underlying319 (xvO w) (zd:=.held xiC) (zp:=[]) rfl (xwc hk)
 rw[hG k hk] at hv
 obtain⟨_,he⟩:=xtf hv
 injection he with h1 h2
 injection h1 with h1
 rw[hrun,h1]
theorem xnX (w:World) (k:Int) (hk:(Lit.int .i64 k).wf=true):(Instr.lookup 319 (.map none) (.int .i64 k) false).run Tryz.prog w=.ok xiC w:=by
 have h:=Maps.look_nil (w:=w) (P:=Tryz.prog) false xwa Tryz.underlying319 (xvO w) (xwc hk)
 simpa using h
def xpg (G:Int→Value) (k:Int) (v:Value):Int→Value:=fun j=>if j=k then v else G j
theorem xbt (G:Int→Value) (k:Int) (v:Value):xpg G k v k=v:=by simp[xpg]
theorem xa4 (G:Int→Value) (k j:Int) (v:Value) (h:j≠k):xpg G k v j=G j:=by simp[xpg,h]
theorem xeL.put {w:World} {mb n:Nat} {G:Int→Value} (h:xeL w mb n G) (hn:n<maxLen) (k:Int) (hk:(Lit.int .i64 k).wf=true) (v:Value) (hv:∃ a n c,v=.slice a n c) :
  ∃ w',(Instr.mapUpdate 319 (.map (some mb)) (.int .i64 k) v).run Tryz.prog w=.ok () w'∧xeL w' mb (n+1) (xpg G k v)∧w.grownBy w' (some mb):=by
 obtain⟨D,hD,hG⟩:=h
 obtain⟨a,m,c,rfl⟩:=hv
 obtain⟨w',hrun,hD',hgr⟩:=hD.update xwa Tryz.underlying319 hn (xwc hk) (val:=.slice a m c) (d:=.held (.slice a m c)) (ps:=[]) rfl
 refine⟨w',hrun,⟨_,hD',fun j hj=>?_⟩,hgr⟩
 by_cases e:j=k
 ·subst e
  rw[xbt]
  exact Maps.atKey_put_same hD.isMap (xwa.key (xwc hk)) _ _
 ·rw[xa4 G k j _ e,← hG j hj]
  exact Maps.atKey_put_other (by intro h;injection h with _ h;exact e h) _ _
theorem xeL.made (w:World):xeL (w.alloc (.map #[] 0)) w.heap.size 0 (fun _=>xiC):=⟨_,World.ownsMap_made w Tryz.prog 3 xwg,fun k _=>rfl⟩
structure PoolAt (w:World) (pb:Nat) (va vm:Value) (G:Int→Value) (l:List ByteArray):Prop where
 good:GoodP l
 two:Two w pb va vm
 all:xcz w 0 va (plc l 0)
 map:(vm=.map none∧l=[]∧∀ k,G k=xiC)∨∃ mb,vm=.map (some mb)∧xeL w mb l.length G
 grps:∀ k,xcz w 0 (G k) (grp k (plc l 0))
 n1:va.ownBlock≠some pb
 n2:∀ k,(G k).ownBlock≠some pb
 n3:∀ k g,(G k).ownBlock=some g→va.ownBlock≠some g
 n4:∀ k j g,(G k).ownBlock=some g→(G j).ownBlock=some g→k=j
 n5:∀ mb,vm=.map (some mb)→mb≠pb
def xeN (pb:Nat) (va vm:Value) (G:Int→Value) (b:Nat):Prop:=b=pb∨va.ownBlock=some b∨vm=.map (some b)∨∃ k,(G k).ownBlock=some b
theorem PoolAt.lt {w:World} {pb:Nat} {va vm:Value} {G:Int→Value} {l:List ByteArray} (h:PoolAt w pb va vm G l):∀ b,xeN pb va vm G b→b<w.heap.size:=by
 rintro b (rfl|hb|rfl|⟨k,hb⟩)
 ·exact h.two.lt
 ·exact(h.all.lt b hb).2
 ·rcases h.map with ⟨e,_⟩|⟨mb,e,hm⟩
  ·cases e
  ·cases e;exact hm.lt
 ·exact((h.grps k).lt b hb).2
theorem PoolAt.keep {w w':World} {pb:Nat} {va vm:Value} {G:Int→Value} {l:List ByteArray} (h:PoolAt w pb va vm G l) (hk:∀ b,xeN pb va vm G b→w'.heap[b]?=w.heap[b]?):PoolAt w' pb va vm G l:=by
 have hp:=hk pb (.inl rfl)
 obtain⟨t0,t1,t2,t3⟩:=h.two
 refine⟨h.good,⟨(World.cell?_of_block (a:=⟨pb,0,none⟩) hp).trans t0,(World.cell?_of_block (a:=⟨pb,1,none⟩) hp).trans t1,(World.frozen?_of_block (a:=⟨pb,0,none⟩) hp).trans t2,(World.frozen?_of_block (a:=⟨pb,1,none⟩) hp).trans t3⟩,h.all.keep (fun b hb=>hk b (.inr (.inl hb))),?_,fun k=>(h.grps k).keep (fun b hb=>hk b (.inr (.inr (.inr ⟨k,hb⟩)))),h.n1,h.n2,h.n3,h.n4,h.n5⟩
 rcases h.map with e|⟨mb,e,hm⟩
 ·exact .inl e
 ·exact .inr ⟨mb,e,hm.keep (hk mb (.inr (.inr (.inl e))))⟩
theorem PoolAt.below {w w':World} {pb:Nat} {va vm:Value} {G:Int→Value} {l:List ByteArray} (h:PoolAt w pb va vm G l) (hb:Below w.heap.size w w'):PoolAt w' pb va vm G l :=
 h.keep (fun b hS=>hb.block b (h.lt b hS))
theorem PoolAt.look {w:World} {pb:Nat} {va vm:Value} {G:Int→Value} {l:List ByteArray} (h:PoolAt w pb va vm G l) (k:Int) (hk:(Lit.int .i64 k).wf=true):(Instr.lookup 319 vm (.int .i64 k) false).run Tryz.prog w=.ok (G k) w:=by
 rcases h.map with ⟨rfl,_,hG⟩|⟨mb,rfl,hm⟩
 ·rw[hG k];exact xnX w k hk
 ·exact hm.look k hk
theorem xeg {w:World} {mb n:Nat} {G:Int→Value} (h:xeL w mb n G) {B:Nat} {v:Value} {l:List Kt} (hv:xcz w B v l):v.ownBlock≠some mb:=by
 intro e
 obtain⟨es,clock,h1⟩:=h.block
 obtain⟨cur,T,fz,h2⟩:=hv.cells e
 rw[h1] at h2
 cases h2
theorem wf_i64 {k:Int} (h0:-9223372036854775808≤k) (h1:k≤9223372036854775807):(Lit.int .i64 k).wf=true:=WalkArith.wf_i64 ⟨h0,h1⟩
def xcq (w:World) (v:Value) (l:List ByteArray) (S:Nat→Prop):Prop:=∃ pb va vm G,v=.pointer (some ⟨pb,0,none⟩)∧PoolAt w pb va vm G l∧∀ b,S b↔xeN pb va vm G b
theorem xcq.ptr {w:World} {v:Value} {l:List ByteArray} {S:Nat→Prop} (h:xcq w v l S):∃ a,v=.pointer (some a):=by
 obtain⟨pb,va,vm,G,rfl,_⟩:=h
 exact⟨_,rfl⟩
theorem xcq.good {w:World} {v:Value} {l:List ByteArray} {S:Nat→Prop} (h:xcq w v l S):GoodP l:=by
 obtain⟨pb,va,vm,G,rfl,h,_⟩:=h
 exact h.good
theorem xcq.lt {w:World} {v:Value} {l:List ByteArray} {S:Nat→Prop} (h:xcq w v l S):∀ b,S b→b<w.heap.size:=by
 obtain⟨pb,va,vm,G,rfl,h,hS⟩:=h
 exact fun b hb=>h.lt b ((hS b).1 hb)
theorem xcq.keep {w w':World} {v:Value} {l:List ByteArray} {S:Nat→Prop} (h:xcq w v l S) (hs:w.heap.size≤w'.heap.size) (hk:∀ b,S b→w'.heap[b]?=w.heap[b]?):xcq w' v l S:=by
 obtain⟨pb,va,vm,G,rfl,h,hS⟩:=h
 exact⟨pb,va,vm,G,rfl,h.keep (fun b hb=>hk b ((hS b).2 hb)),hS⟩
theorem xs9 (w:World) (T:TypeId):PoolAt (w.alloc (.cells #[.slice none 0 0,.map none] T)) w.heap.size (.slice none 0 0) (.map none) (fun _=>xiC) [] :=
 ⟨xiA,xem w _ _ _,xkL _ _,.inl ⟨rfl,rfl,fun _=>rfl⟩,fun k=>xkL _ _,(by simp[Value.ownBlock]),(by simp[Value.ownBlock,xiC]),(by simp[Value.ownBlock,xiC]),(by simp[Value.ownBlock,xiC]),(by simp)⟩
theorem xrt {pb b:Nat} (h:xeN pb (.slice none 0 0) (.map none) (fun _=>xiC) b):b=pb:=by
 rcases h with h|h|h|⟨k,h⟩
 ·exact h
 ·cases h
 ·cases h
 ·cases h
theorem xtM (w:World):Calls Tryz.prog 128 #[] w fun e w'=>∃ v S,e=.returned v∧xcq w' v [] S∧(∀ b,S b→w.heap.size≤b)∧Below w.heap.size w w':=by
 go_enter Tryz.func128,Tryz.ntmps128
 go_wp2_with fail
 go_ret
 exact⟨_,_,rfl,⟨w.heap.size,_,_,_,rfl,xs9 w _,fun _=>Iff.rfl⟩,fun b hb=>(by rw[xrt hb];exact Nat.le_refl _),(Below.refl _ _).alloc (Nat.le_refl _) _⟩
theorem xgi (s:ByteArray) (w:World) (hs:s.size≤281474976710656):Calls Tryz.prog 115 #[.string s] w fun e w'=>e=.returned (.string s)∧Below w.heap.size w w':=by
 have HC:=lH (fun W=>clo_any s W hs)
 go_enter Tryz.func115,Tryz.ntmps115
 go_wp2_with fail
 refine(HC.out _).mono ?_
 rintro e w1 ⟨rfl,hb⟩
 have HB:=lH hb
 clear hb
 go_wp2_with fail
 go_ret
 exact⟨rfl,HB.out⟩
theorem xiL {fn:Func} {p:Tmp} {ty:TypeId} (h:fn.results=#[.cell p ty]) (tmps:Array Value) (w:World) (g:Nat) (x y:Value) (d:TypeDesc) (hp:tmps.getD p undef=.pointer (some ⟨g,0,none⟩)) (c0:w.cell? ⟨g,0,none⟩=some x) (c1:w.cell? ⟨g,1,none⟩=some y)
  (hu:Tryz.prog.underlying ty=some d) (hd:(match d with|.struct _|.array _ _=>true|_=>false)=true) (hi:(Tryz.prog.info? ty).map (·.size)=some 2) :
  (results fn tmps).run Tryz.prog w=.ok (.agg #[x,y]) w:=by
 have hl:=xeU w g ty x y d c0 c1 hu hd hi
 have hp':tmps[p]?.getD undef=.pointer (some ⟨g,0,none⟩):=by simpa using hp
 simp[results,h,hp',asAddr,hl]
theorem xer {ops:Array Oper} {o:Oper} {a:Act} {w:World} {K:Act→World→Prop} {Q:Exit→Act→World→Prop} {E:Prop}
  (hg:o.guard=none) (s x:Operand) (hop:o.op=Op.call { callee:=Callee.builtin Builtin.append,args:=#[s,x],argTypes:=#[318,318] })
  (v:Value) (L:List Kt) (t:Kt) (g c:Nat) (hown:xcz w 0 v L) (h3:xde w g t) (hl:L.length≤1000000) (hs:a.eval s=v) (hx:a.eval x=.slice (some ⟨g,0,none⟩) 1 c)
  (hK:∀ v' w',xcz w' 0 v' (L++[t])→w.grownBy w' v.ownBlock→(v'.ownBlock=v.ownBlock∨∃ g,v'.ownBlock=some g∧w.heap.size≤g)→K (a.put o.dst v') w') :
  if Region.wanted o (yielded ops a.tmps)=true then Oper.wp Tryz.prog o a w K Q else E:=by
 have hw:Region.wanted o (yielded ops a.tmps)=true:=by simp[Region.wanted,hg]
 rw[if_pos hw]
 obtain⟨v',w',hrun,h1,h2,h4⟩:=xiR w o.type v L t g c hown h3 hl
 unfold Oper.wp
 simp[execOp,hop,resolve,invoke,builtin,hs,hx,hrun,Result.andThen]
 exact hK v' w' h1 h2 h4
structure MidL (w W:World) (pb rb kb mb:Nat) (va vm:Value) (G:Int→Value) (l:List ByteArray) (s:ByteArray):Prop where
 two:Two W pb va (.map (some mb))
 all:xcz W 0 va (plc l 0)
 map:xeL W mb l.length G
 grps:∀ k,xcz W 0 (G k) (grp k (plc l 0))
 kt:xde W kb (totF l,s)
 rs:Two W rb (.int .u64 0) (.int .u32 0)
 lr:w.heap.size≤rb
 lk:w.heap.size≤kb
 nk:rb≠kb
 nm:mb≠pb
 om:vm=.map (some mb)∨w.heap.size≤mb
 la:∀ g,va.ownBlock=some g→g<w.heap.size
 lg:∀ k g,(G k).ownBlock=some g→g<w.heap.size
 kept:Kept (xeN pb va vm G) (xeN pb va vm G) w W
theorem MidL.below {w W X:World} {pb rb kb mb:Nat} {va vm:Value} {G:Int→Value} {l:List ByteArray} {s:ByteArray} (h:MidL w W pb rb kb mb va vm G l s) (hb:Below W.heap.size W X):MidL w X pb rb kb mb va vm G l s :=
 ⟨h.two.below hb,h.all.below hb,h.map.below hb,fun k=>(h.grps k).below hb,h.kt.below hb,h.rs.below hb,h.lr,h.lk,h.nk,h.nm,h.om,h.la,h.lg,h.kept.trans (Kept.below _ hb)⟩
structure Mid2 (w W:World) (pb rb kb mb:Nat) (va vm va':Value) (G:Int→Value) (l:List ByteArray) (s:ByteArray):Prop where
 two:Two W pb va' (.map (some mb))
 all:xcz W 0 va' (plc l 0++[(totF l,s)])
 map:xeL W mb l.length G
 grps:∀ k,xcz W 0 (G k) (grp k (plc l 0))
 kt:xde W kb (totF l,s)
 rs:Two W rb (.int .u64 0) (.int .u32 0)
 oa:va'.ownBlock=va.ownBlock∨∃ g,va'.ownBlock=some g∧w.heap.size≤g∧g≠rb∧g≠kb∧g≠mb∧g≠pb
 kept:Kept (xeN pb va vm G) (xeN pb va vm G) w W
theorem Mid2.below {w W X:World} {pb rb kb mb:Nat} {va vm va':Value} {G:Int→Value} {l:List ByteArray} {s:ByteArray} (h:Mid2 w W pb rb kb mb va vm va' G l s) (hb:Below W.heap.size W X):Mid2 w X pb rb kb mb va vm va' G l s :=
 ⟨h.two.below hb,h.all.below hb,h.map.below hb,fun k=>(h.grps k).below hb,h.kt.below hb,h.rs.below hb,h.oa,h.kept.trans (Kept.below _ hb)⟩
theorem Two.keep {w w':World} {g:Nat} {x y:Value} (h:Two w g x y) (hk:w'.heap[g]?=w.heap[g]?):Two w' g x y :=
 ⟨(World.cell?_of_block (a:=⟨g,0,none⟩) hk).trans h.1,(World.cell?_of_block (a:=⟨g,1,none⟩) hk).trans h.2.1,(World.frozen?_of_block (a:=⟨g,0,none⟩) hk).trans h.2.2.1,(World.frozen?_of_block (a:=⟨g,1,none⟩) hk).trans h.2.2.2⟩
theorem xde.keep {w w':World} {g:Nat} {t:Kt} (h:xde w g t) (hk:w'.heap[g]?=w.heap[g]?):xde w' g t :=
 ⟨(World.cell?_of_block (a:=⟨g,0,none⟩) hk).trans h.1,(World.cell?_of_block (a:=⟨g,1,none⟩) hk).trans h.2.1,(World.cell?_of_block (a:=⟨g,2,none⟩) hk).trans h.2.2⟩
theorem xkv (S:Nat→Prop) (w:World) (p:Addr) (v:Value) (hp:S p.block):Kept S S w (w.setCell p v) :=
 ⟨rfl,rfl,rfl,by simp,fun b hb hn=>Below.heap_setCell _ _ _ _ (by intro e;subst e;exact hn hp),fun _ h=>.inl h⟩
theorem xej (S:Nat→Prop) {w w':World} {row:Option Nat} (hg:w.grownBy w' row) (hr:∀ k,row=some k→S k∨w.heap.size≤k):Kept S S w w' :=
 ⟨hg.os,hg.tape,hg.output,hg.size,fun b hb hn=>hg.block b hb (fun e=>by rcases hr b e.symm with h|h;exact hn h;omega),fun _ h=>.inl h⟩
theorem xcz.form3 {w:World} {B:Nat} {v:Value} {l:List Kt} (h:xcz w B v l):∃ a n c,v=.slice a n c:=by
 obtain⟨a,c,e⟩:=h.slice
 exact⟨_,_,_,e⟩
theorem Mid2.map7 {w W X w7:World} {pb rb kb mb:Nat} {va vm va':Value} {G:Int→Value} {l:List ByteArray} {s:ByteArray} (h:Mid2 w W pb rb kb mb va vm va' G l s) (hX:Below W.heap.size W X) {k:Int} (hgr:X.grownBy w7 (G k).ownBlock):xeL w7 mb l.length G :=
 (h.below hX).map.keep (hgr.block mb (h.below hX).map.lt (fun e=>xeg (h.below hX).map ((h.below hX).grps k) e.symm))
theorem Mid2.two7 {w W X w7:World} {pb rb kb mb:Nat} {va vm va':Value} {G:Int→Value} {l:List ByteArray} {s:ByteArray} (h:Mid2 w W pb rb kb mb va vm va' G l s) (hX:Below W.heap.size W X) {k:Int} (hgr:X.grownBy w7 (G k).ownBlock) (hn:(G k).ownBlock≠some pb):Two w7 pb va' (.map (some mb)) :=
 (h.below hX).two.keep (hgr.block pb (h.below hX).two.lt (fun e=>hn e.symm))
theorem Kept.set2 {S S':Nat→Prop} {w w':World} (h:Kept S S' w w') (r:Nat) (hr:w.heap.size≤r) (x y:Value):Kept S S' w ((w'.setCell ⟨r,0,none⟩ x).setCell ⟨r,1,none⟩ y) :=
 ⟨h.os,h.tape,h.output,by simpa using h.size,fun b hb hn=>by rw[Below.heap_setCell _ _ _ _ (by simp;omega),Below.heap_setCell _ _ _ _ (by simp;omega)];exact h.same b hb hn,h.own⟩
theorem PoolAt.set2 {w:World} {pb:Nat} {va vm:Value} {G:Int→Value} {l:List ByteArray} (h:PoolAt w pb va vm G l) (r:Nat) (hr:¬ xeN pb va vm G r) (x y:Value):PoolAt ((w.setCell ⟨r,0,none⟩ x).setCell ⟨r,1,none⟩ y) pb va vm G l :=
 h.keep (fun b hb=>by rw[Below.heap_setCell _ _ _ _ (by intro e;simp at e;subst e;exact hr hb),Below.heap_setCell _ _ _ _ (by intro e;simp at e;subst e;exact hr hb)])
theorem xs8 {w W X w6:World} {pb rb kb mb:Nat} {va vm v':Value} {G:Int→Value} {l:List ByteArray} {s:ByteArray} (hP:PoolAt w pb va vm G l) (h:MidL w W pb rb kb mb va vm G l s) (hX:Below W.heap.size W X)
  (hown:xcz w6 0 v' (plc l 0++[(totF l,s)])) (hgr:X.grownBy w6 va.ownBlock) (hloc:v'.ownBlock=va.ownBlock∨∃ g,v'.ownBlock=some g∧X.heap.size≤g) :
  Two w6 pb va (.map (some mb))∧Mid2 w (w6.setCell ⟨pb,0,none⟩ v') pb rb kb mb va vm v' G l s:=by
 have hx:=h.below hX
 have hpb:=hx.two.lt
 have hrb:=hx.rs.lt
 have hkb:=hx.kt.lt
 have hmb:=hx.map.lt
 have hpw:=hP.two.lt
 have hlr:=h.lr
 have hlk:=h.lk
 have hnp:some pb≠va.ownBlock:=fun e=>hP.n1 e.symm
 have e6:∀ b,b<X.heap.size→some b≠va.ownBlock→w6.heap[b]?=X.heap[b]?:=fun b hb hn=>hgr.block b hb hn
 have hva:∀ b,w.heap.size≤b→some b≠va.ownBlock:=fun b hb e=>by have:=h.la b e.symm;omega
 have hmv:some mb≠va.ownBlock:=fun e=>xeg hx.map hx.all e.symm
 have es:∀ b,b≠pb→(w6.setCell ⟨pb,0,none⟩ v').heap[b]?=w6.heap[b]?:=fun b hb=>Below.heap_setCell _ _ _ _ (by simpa using hb)
 have h2:Two w6 pb va (.map (some mb)):=hx.two.keep (e6 pb hpb hnp)
 have hvp:v'.ownBlock≠some pb:=by
  rcases hloc with e|⟨g,e,hg⟩
  ·rw[e];exact hP.n1
  ·rw[e];intro e2;injection e2 with e2;omega
 refine⟨h2,?_⟩
 refine⟨?_,?_,?_,?_,?_,?_,?_,?_⟩
 ·refine⟨World.cell?_setCell_same _ _ _ h2.1,?_,by simpa using h2.2.2.1,by simpa using h2.2.2.2⟩
  rw[World.cell?_setCell_other (h:=by simp)];exact h2.2.1
 ·exact hown.keep (fun k hk=>es k (fun e=>hvp (by rw[hk,e])))
 ·exact hx.map.keep ((es mb h.nm).trans (e6 mb hmb hmv))
 ·intro k
  exact(hx.grps k).keep (fun g hg=>(es g (fun e=>hP.n2 k (by rw[hg,e]))).trans (e6 g ((hx.grps k).lt g hg).2 (fun e=>hP.n3 k g hg e.symm)))
 ·exact hx.kt.keep ((es kb (by omega)).trans (e6 kb hkb (hva kb hlk)))
 ·exact hx.rs.keep ((es rb (by omega)).trans (e6 rb hrb (hva rb hlr)))
 ·rcases hloc with e|⟨g,e,hg⟩
  ·exact .inl e
  ·exact .inr ⟨g,e,by have:=hx.kept.size;omega,by omega,by omega,by omega,by omega⟩
 ·exact(hx.kept.trans (xej _ hgr (fun k hk=>.inl (.inr (.inl hk))))).trans (xkv _ _ _ _ (.inl rfl))
theorem xsK {w W X w7 w8:World} {pb rb kb mb:Nat} {va vm va' gv':Value} {G:Int→Value} {l:List ByteArray} {s:ByteArray} (hP:PoolAt w pb va vm G l) (hml:∀ k g,(G k).ownBlock=some g→g<w.heap.size) (hal:∀ g,va.ownBlock=some g→g<w.heap.size) (hnm:mb≠pb) (hom:vm=.map (some mb)∨w.heap.size≤mb) (hlr:w.heap.size≤rb) (hlk:w.heap.size≤kb)
  (hg:GoodP (l++[s])) (h:Mid2 w W pb rb kb mb va vm va' G l s) (hX:Below W.heap.size W X)
  (hown:xcz w7 0 gv' (grp (bkt s) (plc l 0)++[(totF l,s)])) (hgr:X.grownBy w7 (G (bkt s)).ownBlock) (hloc:gv'.ownBlock=(G (bkt s)).ownBlock∨∃ g,gv'.ownBlock=some g∧X.heap.size≤g)
  (hmap:xeL w8 mb (l.length+1) (xpg G (bkt s) gv')) (hgr8:w7.grownBy w8 (some mb)) :
  PoolAt w8 pb va' (.map (some mb)) (xpg G (bkt s) gv') (l++[s])∧Kept (xeN pb va vm G) (xeN pb va' (.map (some mb)) (xpg G (bkt s) gv')) w w8∧Two w8 rb (.int .u64 0) (.int .u32 0)∧xde w8 kb (totF l,s)∧¬ xeN pb va' (.map (some mb)) (xpg G (bkt s) gv') rb:=by
 have hx:=h.below hX
 have hpb:=hx.two.lt
 have hrb:=hx.rs.lt
 have hkb:=hx.kt.lt
 have hmb:=hx.map.lt
 have hpw:=hP.two.lt
 have hwX:=hx.kept.size
 have hs7:=hgr.size
 have hgl:=hml (bkt s)
 have e7:∀ b,b<X.heap.size→some b≠(G (bkt s)).ownBlock→w7.heap[b]?=X.heap[b]?:=fun b hb hn=>hgr.block b hb hn
 have e8:∀ b,b<w7.heap.size→b≠mb→w8.heap[b]?=w7.heap[b]?:=fun b hb hn=>hgr8.block b hb (fun e=>hn (by injection e))
 have hmv:some mb≠(G (bkt s)).ownBlock:=fun e=>xeg hx.map (hx.grps _) e.symm
 have hm7:xeL w7 mb l.length G:=hx.map.keep (e7 mb hmb hmv)
 have hgm:gv'.ownBlock≠some mb:=xeg hm7 hown
 have hrm:rb≠mb:=by
  rintro rfl
  obtain⟨es,cl,hh⟩:=hx.map.block
  have:=hx.rs.1
  simp[World.cell?,hh] at this
 have hkm:kb≠mb:=by
  rintro rfl
  obtain⟨es,cl,hh⟩:=hx.map.block
  have:=hx.kt.1
  simp[World.cell?,hh] at this
 have e78:∀ b,b<X.heap.size→some b≠(G (bkt s)).ownBlock→b≠mb→w8.heap[b]?=X.heap[b]?:=fun b hb hn hm=>(e8 b (by omega) hm).trans (e7 b hb hn)
 have hnew:∀ b,w.heap.size≤b→some b≠(G (bkt s)).ownBlock:=fun b hb e=>by have:=hgl b e.symm;omega
 have hav:va'.ownBlock≠some mb:=xeg hx.map hx.all
 have hag:∀ g,va'.ownBlock=some g→some g≠(G (bkt s)).ownBlock:=by
  intro g hg e
  rcases hx.oa with e2|⟨g2,e2,h2,_⟩
  ·exact hP.n3 _ g e.symm (by rw[← e2];exact hg)
  ·rw[e2] at hg;injection hg with hg;subst hg
   exact hnew g2 h2 e
 have hall:xcz w8 0 va' (plc l 0++[(totF l,s)]):=hx.all.keep (fun g hg=>e78 g (hx.all.lt g hg).2 (hag g hg) (fun e=>hav (by rw[hg,e])))
 have hgg:xcz w8 0 gv' (grp (bkt s) (plc l 0)++[(totF l,s)]):=hown.keep (fun g hg=>e8 g (hown.lt g hg).2 (fun e=>hgm (by rw[hg,e])))
 have hap:va'.ownBlock≠some pb:=by
  rcases hx.oa with e2|⟨g2,e2,_,_,_,_,h2⟩
  ·rw[e2];exact hP.n1
  ·rw[e2];intro e;injection e with e;exact h2 e
 have hgp:gv'.ownBlock≠some pb:=by
  rcases hloc with e2|⟨g2,e2,h2⟩
  ·rw[e2];exact hP.n2 _
  ·rw[e2];intro e;injection e with e;omega
 refine⟨⟨hg,hx.two.keep (e78 pb hpb (fun e=>hP.n2 _ e.symm) (fun e=>hnm e.symm)),by rw[xgt];exact hall,.inr ⟨mb,rfl,by rw[List.length_append];exact hmap⟩,?_,hap,?_,?_,?_,?_⟩,?_,hx.rs.keep (e78 rb hrb (hnew rb hlr) hrm),hx.kt.keep (e78 kb hkb (hnew kb hlk) hkm),?_⟩
 ·intro k
  rw[xgt,xlT,xub]
  by_cases e:k=bkt s
  ·subst e
   rw[xbt,if_pos rfl]
   exact hgg
  ·rw[xa4 _ _ _ _ e,if_neg (fun e2=>e e2.symm),List.append_nil]
   exact(hx.grps k).keep (fun g hg=>e78 g ((hx.grps k).lt g hg).2 (fun e2=>e (hP.n4 k (bkt s) g hg e2.symm)) (fun e2=>xeg hx.map (hx.grps k) (by rw[hg,e2])))
 ·intro k
  by_cases e:k=bkt s
  ·subst e;rw[xbt];exact hgp
  ·rw[xa4 _ _ _ _ e];exact hP.n2 k
 ·intro k g hk
  by_cases e:k=bkt s
  ·subst e
   rw[xbt] at hk
   intro ha
   rcases hloc with e2|⟨g2,e2,h2⟩
   ·rw[e2] at hk
    exact hag g ha hk.symm
   ·rw[e2] at hk;injection hk with hk;subst hk
    have:=(hx.all.lt g2 ha).2
    omega
  ·rw[xa4 _ _ _ _ e] at hk
   intro ha
   rcases hx.oa with e2|⟨g2,e2,h2,_⟩
   ·exact hP.n3 k g hk (by rw[← e2];exact ha)
   ·rw[e2] at ha;injection ha with ha;subst ha
    have:=hml k g2 hk
    omega
 ·intro k j g hk hj
  by_cases e:k=bkt s
  ·by_cases e2:j=bkt s
   ·rw[e,e2]
   ·subst e
    rw[xbt] at hk
    rw[xa4 _ _ _ _ e2] at hj
    rcases hloc with e3|⟨g2,e3,h3⟩
    ·rw[e3] at hk;exact hP.n4 _ _ g hk hj
    ·rw[e3] at hk;injection hk with hk;subst hk
     have:=hml j g2 hj
     omega
  ·rw[xa4 _ _ _ _ e] at hk
   by_cases e2:j=bkt s
   ·subst e2
    rw[xbt] at hj
    rcases hloc with e3|⟨g2,e3,h3⟩
    ·rw[e3] at hj;exact hP.n4 _ _ g hk hj
    ·rw[e3] at hj;injection hj with hj;subst hj
     have:=hml k g2 hk
     omega
   ·rw[xa4 _ _ _ _ e2] at hj
    exact hP.n4 _ _ g hk hj
 ·intro m e;injection e with e;injection e with e;subst e;exact hnm
 ·have hk0:Kept (xeN pb va vm G) (fun b=>xeN pb va vm G b∨w.heap.size≤b) w X:=⟨hx.kept.os,hx.kept.tape,hx.kept.output,hx.kept.size,hx.kept.same,fun b hb=>hb⟩
  have hk1:=(hk0.trans (xej _ hgr (fun k hk=>.inl (.inl (.inr (.inr (.inr ⟨_,hk⟩))))))).trans (xej _ hgr8 (fun k hk=>by
   injection hk with hk
   subst hk
   rcases hom with e|e
   ·exact .inl (.inl (.inr (.inr (.inl e))))
   ·exact .inl (.inr e)))
  refine⟨hk1.os,hk1.tape,hk1.output,hk1.size,hk1.same,?_⟩
  rintro b (rfl|hb|hb|⟨k,hb⟩)
  ·exact .inl (.inl rfl)
  ·rcases hx.oa with e2|⟨g2,e2,h2,_⟩
   ·exact .inl (.inr (.inl (by rw[← e2];exact hb)))
   ·rw[e2] at hb;injection hb with hb;subst hb;exact .inr h2
  ·injection hb with hb;injection hb with hb;subst hb
   rcases hom with e|e
   ·exact .inl (.inr (.inr (.inl e)))
   ·exact .inr e
  ·by_cases e:k=bkt s
   ·subst e
    rw[xbt] at hb
    rcases hloc with e3|⟨g2,e3,h3⟩
    ·exact .inl (.inr (.inr (.inr ⟨_,by rw[← e3];exact hb⟩)))
    ·rw[e3] at hb;injection hb with hb;subst hb;exact .inr (by omega)
   ·rw[xa4 _ _ _ _ e] at hb
    exact .inl (.inr (.inr (.inr ⟨k,hb⟩)))
 ·rintro(hb|hb|hb|⟨k,hb⟩)
  ·omega
  ·rcases hx.oa with e2|⟨g2,e2,h2,h3,_⟩
   ·have:=hal rb (by rw[← e2];exact hb);omega
   ·rw[e2] at hb;injection hb with hb;exact h3 hb
  ·injection hb with hb;injection hb with hb;exact hrm hb.symm
  ·by_cases e:k=bkt s
   ·subst e
    rw[xbt] at hb
    rcases hloc with e3|⟨g2,e3,h3⟩
    ·have:=hml _ rb (by rw[← e3];exact hb);omega
    ·rw[e3] at hb;injection hb with hb;omega
   ·rw[xa4 _ _ _ _ e] at hb
    have:=hml k rb hb;omega
end Go.Proofs.YtjinnigjfopbcaaGreatDoor
namespace Go.Proofs.YtjinnigjfopbcaaGreatDoor
set_option linter.unusedVariables false
set_option linter.unusedSimpArgs false
def bas:Nat→Int
 | 0=>0
 | k+1=>bas k+p4 k
theorem xnU (k:Nat):3*bas k+1=p4 k:=by
 induction k with
 | zero=>rfl
 | succ k ih=>simp only[bas,p4];omega
theorem xgQ (a b:Nat) (h:a≤b):bas a≤bas b:=by
 induction h with
 | refl=>exact Int.le_refl _
 | step h ih=>rename_i m;simp only[bas];have:=xoK m;omega
theorem xvZ (k:Nat):0≤bas k:=xgQ 0 k (Nat.zero_le _)
theorem xoR:bas 27=6004799503160661:=by decide
def zof:Nat→Int→Int
 | 0,_=>-1
 | k+1,d=>if bas k≤d∧d<bas (k+1) then k else zof k d
theorem xr9 (n k:Nat) (d:Int) (h:k<n) (h0:bas k≤d) (h1:d<bas (k+1)):zof n d=k:=by
 induction n with
 | zero=>omega
 | succ n ih =>
  rw[zof]
  by_cases e:k=n
  ·subst e;rw[if_pos ⟨h0,h1⟩]
  ·rw[if_neg,ih (by omega)]
   intro hh
   have:=xgQ (k+1) n (by omega)
   omega
theorem xuQ (n:Nat) (d:Int) (h:¬ (0≤d∧d<bas n)):zof n d=-1:=by
 induction n with
 | zero=>rfl
 | succ n ih =>
  have:=xoK n
  have:=xvZ n
  rw[zof,if_neg,ih]
  ·simp only[bas] at h;omega
  ·simp only[bas] at h ⊢;omega
theorem xu3 (n:Nat) (d:Int) (h0:0≤d) (h1:d<bas n):∃ k,k<n∧bas k≤d∧d<bas (k+1)∧zof n d=k:=by
 induction n with
 | zero=>simp only[bas] at h1;omega
 | succ n ih =>
  by_cases h:d<bas n
  ·obtain⟨k,a,b,c,e⟩:=ih h
   exact⟨k,by omega,b,c,xr9 (n+1) k d (by omega) b c⟩
  ·exact⟨n,by omega,by omega,h1,xr9 (n+1) n d (by omega) (by omega) h1⟩
end Go.Proofs.YtjinnigjfopbcaaGreatDoor
namespace Go.Proofs.YtjinnigjfopbcaaGreatDoor
set_option linter.unusedVariables false
set_option linter.unusedSimpArgs false
open Go.RowKit
set_option maxRecDepth 20000
theorem xa1.keep {w w':World} {B:Nat} {E:TypeId} {v:Value} {l:List En} (h:xa1 w B E v l) (hk:∀ k,v.ownBlock=some k→w'.heap[k]?=w.heap[k]?):xa1 w' B E v l:=by
 obtain⟨h1,h2⟩:=h
 refine⟨h1,?_⟩
 rcases h2 with h2|⟨g,cap,cur,hv,hg,hh,r⟩
 ·exact .inl h2
 ·refine .inr ⟨g,cap,cur,hv,hg,?_,r⟩
  rw[hk g (by rw[hv];rfl)];exact hh
theorem xa1.cells {w:World} {B:Nat} {E:TypeId} {v:Value} {l:List En} (h:xa1 w B E v l) {g:Nat} (hg:v.ownBlock=some g):∃ cur T fz,w.heap[g]?=some (.cells cur T fz):=by
 rcases h.2 with ⟨rfl,_⟩|⟨g',cap,cur,rfl,_,hh,_⟩
 ·cases hg
 ·cases hg
  exact⟨_,_,_,hh⟩
theorem xc9 {w:World} {B g:Nat} {E:TypeId} {v x:Value} {l:List En} (h:xa1 w B E v l) (ho:One w g x):v.ownBlock≠some g:=by
 intro e
 obtain⟨T,hh⟩:=ho
 rcases h.2 with ⟨rfl,_⟩|⟨g',cap,cur,rfl,_,h2,_,_,hcs,_⟩
 ·cases e
 ·cases e
  rw[hh] at h2
  cases h2
  simp at hcs
  omega
theorem One.keep {w w':World} {g:Nat} {x:Value} (h:One w g x) (hk:w'.heap[g]?=w.heap[g]?):One w' g x:=by
 obtain⟨T,h⟩:=h
 exact⟨T,hk.trans h⟩
theorem xlp {w:World} {v:Value} {l:List ByteArray} {S:Nat→Prop} (h:xcq w v l S) {b:Nat} (hb:S b) {o:Obj} (ho:w.heap[b]?=some o):xd3 o=false:=by
 obtain⟨pb,va,vm,G,rfl,hP,hS⟩:=h
 rcases(hS b).1 hb with rfl|hb|hb|⟨k,hb⟩
 ·have h0:=hP.two.1
  unfold World.cell? at h0
  simp only[ho] at h0
  cases o <;> first|rfl|simp at h0
 ·obtain⟨_,_,_,hh⟩:=hP.all.cells hb
  rw[ho] at hh;cases hh;rfl
 ·rcases hP.map with ⟨e,_⟩|⟨mb,e,hm⟩
  ·rw[e] at hb;cases hb
  ·rw[e] at hb;cases hb
   obtain⟨_,_,hh⟩:=hm.block
   rw[ho] at hh;cases hh;rfl
 ·obtain⟨_,_,_,hh⟩:=(hP.grps k).cells hb
  rw[ho] at hh;cases hh;rfl
def xhb (bl:Nat) (vo:Value) (Sp:Nat→Prop) (b:Nat):Prop:=b=bl∨vo.ownBlock=some b∨Sp b
structure RwP (w:World) (B bp bl:Nat) (pv:Value) (rows:List En) (ts:List ByteArray) (vo:Value) (Sp:Nat→Prop) (W:World):Prop where
 bxp:One W bp pv
 bxl:One W bl vo
 out:xa1 W B 74 vo rows
 pool:xcq W pv ts Sp
 np:¬ Sp bp
 nl:¬ Sp bl
 no:∀ b,vo.ownBlock=some b→¬ Sp b
 npl:bp≠bl
 bas:∀ b,Sp b→B≤b
 bll:B≤bl
 bel:Below B w W
section
variable {w:World} {B bp bl:Nat} {pv:Value} {rows:List En} {ts:List ByteArray} {vo:Value} {Sp:Nat→Prop} {W W':World}
theorem RwP.lt (h:RwP w B bp bl pv rows ts vo Sp W):∀ b,xhb bl vo Sp b→b<W.heap.size:=by
 rintro b (rfl|hb|hb)
 ·exact h.bxl.lt
 ·exact(h.out.lt b hb).2
 ·exact h.pool.lt b hb
theorem RwP.low (h:RwP w B bp bl pv rows ts vo Sp W):∀ b,xhb bl vo Sp b→B≤b:=by
 rintro b (rfl|hb|hb)
 ·exact h.bll
 ·exact(h.out.lt b hb).1
 ·exact h.bas b hb
theorem RwP.keep (h:RwP w B bp bl pv rows ts vo Sp W) (hs:W.heap.size≤W'.heap.size) (hk:∀ b,b=bp∨xhb bl vo Sp b→W'.heap[b]?=W.heap[b]?) (hb:Below B w W'):RwP w B bp bl pv rows ts vo Sp W' :=
 ⟨h.bxp.keep (hk _ (.inl rfl)),h.bxl.keep (hk _ (.inr (.inl rfl))),h.out.keep (fun k hv=>hk k (.inr (.inr (.inl hv)))),h.pool.keep hs (fun b hS=>hk b (.inr (.inr (.inr hS)))),h.np,h.nl,h.no,h.npl,h.bas,h.bll,hb⟩
theorem RwP.below (h:RwP w B bp bl pv rows ts vo Sp W) (hb:Below W.heap.size W W') (hB:B≤W.heap.size):RwP w B bp bl pv rows ts vo Sp W' :=
 h.keep hb.size (fun b hk=>hb.block b (by rcases hk with rfl|hk;exact h.bxp.lt;exact h.lt b hk)) (h.bel.trans (hb.mono hB))
theorem RwP.size (h:RwP w B bp bl pv rows ts vo Sp W):B≤W.heap.size:=Nat.le_of_lt (Nat.lt_of_le_of_lt h.bll h.bxl.lt)
theorem RwP.later (h:RwP w B bp bl pv rows ts vo Sp W) (hb:Below W.heap.size W W'):RwP w B bp bl pv rows ts vo Sp W':=h.below hb h.size
theorem RwP.add {ts':List ByteArray} {Sp':Nat→Prop} (h:RwP w B bp bl pv rows ts vo Sp W) (hp:xcq W' pv ts' Sp') (hk:Kept Sp Sp' W W'):RwP w B bp bl pv rows ts' vo Sp' W'∧KeepsS (xhb bl vo Sp) (xhb bl vo Sp') W W':=by
 refine⟨⟨h.bxp.keep (hk.same _ h.bxp.lt h.np),h.bxl.keep (hk.same _ h.bxl.lt h.nl),h.out.keep (fun k hv=>hk.same k (h.out.lt k hv).2 (h.no k hv)),hp,fun hb=>?_,fun hb=>?_,fun b hv hb=>?_,h.npl,fun b hb=>?_,h.bll,Below.kept h.bel hk h.bas h.size⟩,⟨hk.size,fun b o hb ho=>?_,fun b hb=>?_⟩⟩
 ·rcases hk.own _ hb with hq|hq
  ·exact h.np hq
  ·have:=h.bxp.lt;omega
 ·rcases hk.own _ hb with hq|hq
  ·exact h.nl hq
  ·have:=h.bxl.lt;omega
 ·rcases hk.own _ hb with hq|hq
  ·exact h.no b hv hq
  ·have:=(h.out.lt b hv).2;omega
 ·rcases hk.own _ hb with hq|hq
  ·exact h.bas b hq
  ·exact Nat.le_trans h.size hq
 ·exact(hk.same b (xaD ho) (fun hq=>hb (.inr (.inr hq)))).trans ho
 ·rcases hb with rfl|hb|hb
  ·exact .inl (.inl rfl)
  ·exact .inl (.inr (.inl hb))
  ·rcases hk.own _ hb with hq|hq
   ·exact .inl (.inr (.inr hq))
   ·exact .inr hq
theorem RwP.row {rows':List En} (h:RwP w B bp bl pv rows ts vo Sp W) (ho:xa1 W' B 74 vo rows') (hg:W.grownBy W' vo.ownBlock):RwP w B bp bl pv rows' ts vo Sp W':=by
 have hbp:=xc9 h.out h.bxp
 have hbl:=xc9 h.out h.bxl
 exact⟨h.bxp.keep (hg.block _ h.bxp.lt (fun e=>hbp e.symm)),h.bxl.keep (hg.block _ h.bxl.lt (fun e=>hbl e.symm)),ho,h.pool.keep hg.size (fun b hS=>hg.block b (h.pool.lt b hS) (fun e=>h.no b e.symm hS)),h.np,h.nl,h.no,h.npl,h.bas,h.bll,h.bel.grown hg h.size (fun k hk=>(h.out.lt k hk).1)⟩
theorem xif {S:Nat→Prop} {X Y:World} {r:Option Nat} (h:X.grownBy Y r) (hr:∀ k,r=some k→S k):KeepsS S S X Y :=
 ⟨h.size,fun b o hb ho=>(h.block b (xaD ho) (fun e=>hb (hr b e.symm))).trans ho,fun _ h=>.inl h⟩
theorem RwP.run {r:List En} {a:En} {g cap:Nat} (h:RwP w B bp bl pv (r++[a]) ts (.slice (some ⟨g,0,none⟩) (r.length+1) cap) Sp W) (x:Int) :
  RwP w B bp bl pv (r++[{ a with rn:=x }]) ts (.slice (some ⟨g,0,none⟩) (r.length+1) cap) Sp (W.setCell ⟨g,r.length*4+3,none⟩ (.int .u32 x))∧KeepsS (xhb bl (.slice (some ⟨g,0,none⟩) (r.length+1) cap) Sp) (xhb bl (.slice (some ⟨g,0,none⟩) (r.length+1) cap) Sp) W (W.setCell ⟨g,r.length*4+3,none⟩ (.int .u32 x)):=by
 obtain⟨h1,h2⟩:=xtR h.out x
 exact⟨h.row h1 h2,xif h2 (fun k e=>.inr (.inl e))⟩
theorem RwP.app {rows':List En} {v':Value} (h:RwP w B bp bl pv rows ts vo Sp W) (ho:xa1 W' B 74 v' rows') (hg:W.grownBy W' vo.ownBlock) (hl:v'.ownBlock=vo.ownBlock∨∃ g,v'.ownBlock=some g∧W.heap.size≤g) :
  RwP w B bp bl pv rows' ts v' Sp (W'.setCell ⟨bl,0,none⟩ v')∧KeepsS (xhb bl vo Sp) (xhb bl v' Sp) W (W'.setCell ⟨bl,0,none⟩ v'):=by
 have hbp:=xc9 h.out h.bxp
 have hbl:=xc9 h.out h.bxl
 have hp1:=h.bxp.keep (w':=W') (hg.block _ h.bxp.lt (fun e=>hbp e.symm))
 have hl1:=h.bxl.keep (w':=W') (hg.block _ h.bxl.lt (fun e=>hbl e.symm))
 have hbl':=xc9 ho hl1
 have hset:∀ b,b≠bl→(W'.setCell ⟨bl,0,none⟩ v').heap[b]?=W'.heap[b]?:=fun b hb=>Below.heap_setCell _ _ _ _ (by simpa using hb)
 have hsz:(W'.setCell ⟨bl,0,none⟩ v').heap.size=W'.heap.size:=by simp
 refine⟨⟨hp1.set_other h.npl v',hl1.set v',ho.keep (fun k hk=>hset k (fun e=>hbl' (by rw[hk,e]))),h.pool.keep (by rw[hsz];exact hg.size) (fun b hS=>(hset b (fun e=>h.nl (e ▸ hS))).trans (hg.block b (h.pool.lt b hS) (fun e=>h.no b e.symm hS))),h.np,h.nl,fun b hv hS=>?_,h.npl,h.bas,h.bll,(h.bel.grown hg h.size (fun k hk=>(h.out.lt k hk).1)).setCell (p:=⟨bl,0,none⟩) h.bll v'⟩,⟨by rw[hsz];exact hg.size,fun b o hb hq=>?_,fun b hb=>?_⟩⟩
 ·rcases hl with hl|⟨g,hl,hge⟩
  ·exact h.no b (by rw[← hl];exact hv) hS
  ·rw[hv] at hl
   cases hl
   have:=h.pool.lt b hS
   omega
 ·exact(hset b (fun e=>hb (.inl e))).trans ((hg.block b (xaD hq) (fun e=>hb (.inr (.inl e.symm)))).trans hq)
 ·rcases hb with rfl|hb|hb
  ·exact .inl (.inl rfl)
  ·rcases hl with hl|⟨g,hl,hge⟩
   ·exact .inl (.inr (.inl (by rw[← hl];exact hb)))
   ·rw[hb] at hl
    cases hl
    exact .inr hge
  ·exact .inl (.inr (.inr hb))
theorem RwP.grown {row:Option Nat} (h:RwP w B bp bl pv rows ts vo Sp W) (hg:W.grownBy W' row) (hrow:∀ r,row=some r→B≤r∧∃ o:Obj,W.heap[r]?=some o∧xd3 o=true):RwP w B bp bl pv rows ts vo Sp W':=by
 have hne:∀ b o,W.heap[b]?=some o→xd3 o=false→row≠some b:=fun b o ho hn e=>by
  obtain⟨_,o',ho',hy⟩:=hrow b e
  rw[ho] at ho'
  cases ho'
  rw[hn] at hy
  cases hy
 refine h.keep hg.size (fun b hb=>?_) (h.bel.grown hg h.size (fun r e=>(hrow r e).1))
 rcases hb with rfl|rfl|hb|hb
 ·obtain⟨T,hh⟩:=h.bxp
  exact hg.block _ (xaD hh) (fun e=>hne _ _ hh rfl e.symm)
 ·obtain⟨T,hh⟩:=h.bxl
  exact hg.block _ (xaD hh) (fun e=>hne _ _ hh rfl e.symm)
 ·obtain⟨_,_,_,hh⟩:=h.out.cells hb
  exact hg.block _ (xaD hh) (fun e=>hne _ _ hh rfl e.symm)
 ·have hlt:=h.pool.lt b hb
  have ho:=Array.getElem?_eq_getElem hlt
  exact hg.block _ hlt (fun e=>hne _ _ ho (xlp h.pool hb ho) e.symm)
end
def RwI (w:World) (B bp bl:Nat) (pv:Value) (L:List It) (k:Nat) (S:Nat→Prop) (W:World):Prop :=
 ∃ vo Sp,RwP w B bp bl pv (xad (L.take k)).1 (xad (L.take k)).2 vo Sp W∧∀ b,S b↔xhb bl vo Sp b
theorem xob (w:World) (B bp bl:Nat) (pv:Value) (L:List It) (B':Nat) (hB:B≤B'):xcN (fun _=>False) B' (RwI w B bp bl pv L):=by
 rintro⟨k,S⟩ X Y row ⟨vo,Sp,h,hS⟩ hg hr
 refine⟨vo,Sp,h.grown hg (fun r e=>?_),hS⟩
 rcases hr r e with h|h
 ·exact h.elim
 ·exact⟨Nat.le_trans hB h.1,h.2⟩
theorem RwI.lt {w:World} {B bp bl:Nat} {pv:Value} {L:List It} {k:Nat} {S:Nat→Prop} {W:World} (h:RwI w B bp bl pv L k S W):∀ b,S b→b<W.heap.size:=by
 obtain⟨vo,Sp,h,hS⟩:=h
 exact fun b hb=>h.lt b ((hS b).1 hb)
theorem xmd:(Tryz.prog.info? 74).map (fun i=>(i.zero,i.size,i.bytes))=some (some (.agg #[.int .u64 0,.int .u64 0,.int .u32 0,.int .u32 0]),4,24):=by kernel_rfl
theorem xey (W:World) (ty:TypeId) (B:Nat) (v:Value) (L:List En) (e:En) (b c:Nat) (hown:xa1 W B 74 v L) (he:EAt W b e) (hl:L.length≤1000000) (hB:B≤W.heap.size) :
  ∃ v' w',(Builtin.append_ #[27,27] ty #[v,.slice (some ⟨b,0,none⟩) 1 c]).run Tryz.prog W=.ok v' w'∧xa1 w' B 74 v' (L++[e])∧W.grownBy w' v.ownBlock∧(v'.ownBlock=v.ownBlock∨∃ g,v'.ownBlock=some g∧W.heap.size≤g):=by
 obtain⟨v',w',hr,h2,h3,h4⟩:=xe9 4 24 W B 27 74 ty _ Tryz.underlying27 xmd rfl (by omega) (by omega) v L.length (xaB L) hown ⟨b,0,none⟩ 1 c (xaB [e]) rfl (by
  intro j u hu
  match j,hu with
  | 0,hu=>simp only[xck,cE,List.getElem?_cons_zero,Option.some.injEq] at hu;rw[← hu];exact he.1
  | 1,hu=>simp only[xck,cE,List.getElem?_cons_succ,List.getElem?_cons_zero,Option.some.injEq] at hu;rw[← hu];exact he.2.1
  | 2,hu=>simp only[xck,cE,List.getElem?_cons_succ,List.getElem?_cons_zero,Option.some.injEq] at hu;rw[← hu];exact he.2.2.1
  | 3,hu=>simp only[xck,cE,List.getElem?_cons_succ,List.getElem?_cons_zero,Option.some.injEq] at hu;rw[← hu];exact he.2.2.2
  | j+4,hu=>simp[xck,cE] at hu) (xds [e]) (by omega) (by omega) hB
 exact⟨v',w',hr,xbQ h2 (by simp) (by rw[xb1]),h3,h4⟩
end Go.Proofs.YtjinnigjfopbcaaGreatDoor
namespace Go.Proofs.YtjinnigjfopbcaaGreatDoor
set_option linter.unusedVariables false
set_option linter.unusedSimpArgs false
open Go.RowKit
set_option maxRecDepth 20000
def tab:List UInt8:=[0,1,2,2,3,3,3,3,4,4,4,4,4,4,4,4,5,5,5,5,5,5,5,5,5,5,5,5,5,5,5,5,6,6,6,6,6,6,6,6,6,6,6,6,6,6,6,6,6,6,6,6,6,6,6,6,6,6,6,6,6,6,6,6,7,7,7,7,7,7,7,7,7,7,7,7,7,7,7,7,7,7,7,7,7,7,7,7,7,7,7,7,7,7,7,7,7,7,7,7,7,7,7,7,7,7,7,7,7,7,7,7,7,7,7,7,7,7,7,7,7,7,7,7,7,7,7,7,8,8,8,8,8,8,8,8,8,8,8,8,8,8,8,8,8,8,8,8,8,8,8,8,8,8,8,8,8,8,8,8,8,8,8,8,8,8,8,8,8,8,8,8,8,8,8,8,8,8,8,8,8,8,8,8,8,8,8,8,8,8,8,8,8,8,8,8,8,8,8,8,8,8,8,8,8,8,8,8,8,8,8,8,8,8,8,8,8,8,8,8,8,8,8,8,8,8,8,8,8,8,8,8,8,8,8,8,8,8,8,8,8,8,8,8,8,8,8,8,8,8,8,8,8,8,8,8]
def xwU (N b:Nat):Bool:=(N == 0 && b == 0) || (decide (1≤N) && decide (N≤64) && decide (2 ^ (N - 1)≤b) && decide (b<2 ^ N))
def Len (N:Nat) (x:Int):Prop:=N≤64∧(N=0∧x=0∨1≤N∧((2 ^ (N - 1):Nat):Int)≤x∧x<((2 ^ N:Nat):Int))
theorem xue:(List.range 256).all (fun b=>decide ((tab.getD b 0).toNat≤8) && xwU (tab.getD b 0).toNat b)=true:=by kernel_rfl
theorem xsr:tab.length=256:=by kernel_rfl
theorem xrb (b:Nat) (h:b<256):(tab.getD b 0).toNat≤8∧Len (tab.getD b 0).toNat (b:Int):=by
 have:=List.all_eq_true.1 xue b (by simpa using h)
 generalize (tab.getD b 0).toNat=L at *
 simp only[Bool.and_eq_true,decide_eq_true_eq,xwU,Bool.or_eq_true,beq_iff_eq] at this
 refine⟨this.1,by omega,?_⟩
 omega
theorem xvQ (B L:Nat) (y x:Int) (hL:L≤8) (hB:B=0∨B=8∨B=16∨B=24∨B=32∨B=40∨B=48∨B=56) (h:Len L y) (hy:x / ((2 ^ B:Nat):Int)=y) (h1:B=0∨1≤y):Len (B+L) x:=by
 unfold Len at *
 refine⟨by omega,?_⟩
 rcases(by omega:L=0∨L=1∨L=2∨L=3∨L=4∨L=5∨L=6∨L=7∨L=8) with rfl|rfl|rfl|rfl|rfl|rfl|rfl|rfl|rfl <;>
 rcases hB with rfl|rfl|rfl|rfl|rfl|rfl|rfl|rfl <;> simp only[Nat.reducePow,Nat.reduceSub,Nat.reduceAdd,Nat.add_zero,Nat.zero_add,Int.cast_ofNat_Int] at*<;> first|omega|(simp at *;omega)
theorem xun (B:Nat) (y x:Int) (T:ByteArray) (hT:T.data.toList=tab) (hi:y.toNat<T.size) (hB:B=0∨B=8∨B=16∨B=24∨B=32∨B=40∨B=48∨B=56) (hy:x / ((2 ^ B:Nat):Int)=y) (y0:0≤y) (h1:B=0∨1≤y):∃ n:Nat,wrap64 ((B:Int)+wrap64 ((T[y.toNat].toNat:Nat):Int))=n∧Len n x:=by
 have hz:T.size=256:=by rw[← xsr,← hT];simp
 have hs:=xrb y.toNat (by omega)
 have e:T[y.toNat]=tab.getD y.toNat 0:=by
  rw[← hT]
  simp[List.getD,ByteArray.getElem_eq_getElem_data]
  have:y.toNat<T.data.size:=hi
  rw[Array.getElem?_eq_getElem this];rfl
 rw[e]
 refine⟨B+(tab.getD y.toNat 0).toNat,?_,xvQ B _ y x hs.1 hB (by have:=hs.2;rwa[Int.toNat_of_nonneg y0] at this) hy h1⟩
 unfold wrap64
 omega
theorem xa6 (B:Nat) (y x:Int) (T:ByteArray) (hi:y.toNat<T.size) (hT:T.data.toList=tab) (hB:B=0∨B=8∨B=16∨B=24∨B=32∨B=40∨B=48∨B=56) (hy:x / ((2 ^ B:Nat):Int)=y) (y0:0≤y) (h1:B=0∨1≤y) (v:Int) (hv:v=wrap64 ((B:Int)+wrap64 ((T[y.toNat].toNat:Nat):Int))):∃ n:Nat,Ending.returned (.int .i64 v)=.returned (.int .i64 n)∧Len n x:=by
 obtain⟨n,a,b⟩:=xun B y x T hT hi hB hy y0 h1
 exact⟨n,by rw[hv,a],b⟩
set_option maxRecDepth 100000 in
theorem xil (x:Int) (w:World) (x0:0≤x) (x1:x≤18446744073709551615):Calls Tryz.prog 263 #[.int .u64 x] w fun e w'=>(∃ n:Nat,e=.returned (.int .i64 n)∧Len n x)∧w=w':=by
 by_cases h1:4294967296≤x
 ·go_enter Tryz.func263,Tryz.ntmps263
  go_wp2
  all_goals
   go_ret
   refine⟨?_,rfl⟩
   first
    | exact xa6 56 _ x _ _ (by kernel_rfl) (by decide) (by (simp only[Nat.reducePow,Int.cast_ofNat_Int]) <;> omega) (by omega) (by omega) _ rfl
    | exact xa6 48 _ x _ _ (by kernel_rfl) (by decide) (by (simp only[Nat.reducePow,Int.cast_ofNat_Int]) <;> omega) (by omega) (by omega) _ rfl
    | exact xa6 40 _ x _ _ (by kernel_rfl) (by decide) (by (simp only[Nat.reducePow,Int.cast_ofNat_Int]) <;> omega) (by omega) (by omega) _ rfl
    | exact xa6 32 _ x _ _ (by kernel_rfl) (by decide) (by (simp only[Nat.reducePow,Int.cast_ofNat_Int]) <;> omega) (by omega) (by omega) _ rfl
    | exact xa6 24 _ x _ _ (by kernel_rfl) (by decide) (by (simp only[Nat.reducePow,Int.cast_ofNat_Int]) <;> omega) (by omega) (by omega) _ rfl
    | exact xa6 16 _ x _ _ (by kernel_rfl) (by decide) (by (simp only[Nat.reducePow,Int.cast_ofNat_Int]) <;> omega) (by omega) (by omega) _ rfl
    | exact xa6 8 _ x _ _ (by kernel_rfl) (by decide) (by (simp only[Nat.reducePow,Int.cast_ofNat_Int]) <;> omega) (by omega) (by omega) _ rfl
    | exact xa6 0 _ x _ _ (by kernel_rfl) (by decide) (by (simp only[Nat.reducePow,Int.cast_ofNat_Int]) <;> omega) (by omega) (by omega) _ (congrArg wrap64 (Int.zero_add _).symm)
 ·go_enter Tryz.func263,Tryz.ntmps263
  go_wp2
  all_goals
   go_ret
   refine⟨?_,rfl⟩
   first
    | exact xa6 56 _ x _ _ (by kernel_rfl) (by decide) (by (simp only[Nat.reducePow,Int.cast_ofNat_Int]) <;> omega) (by omega) (by omega) _ rfl
    | exact xa6 48 _ x _ _ (by kernel_rfl) (by decide) (by (simp only[Nat.reducePow,Int.cast_ofNat_Int]) <;> omega) (by omega) (by omega) _ rfl
    | exact xa6 40 _ x _ _ (by kernel_rfl) (by decide) (by (simp only[Nat.reducePow,Int.cast_ofNat_Int]) <;> omega) (by omega) (by omega) _ rfl
    | exact xa6 32 _ x _ _ (by kernel_rfl) (by decide) (by (simp only[Nat.reducePow,Int.cast_ofNat_Int]) <;> omega) (by omega) (by omega) _ rfl
    | exact xa6 24 _ x _ _ (by kernel_rfl) (by decide) (by (simp only[Nat.reducePow,Int.cast_ofNat_Int]) <;> omega) (by omega) (by omega) _ rfl
    | exact xa6 16 _ x _ _ (by kernel_rfl) (by decide) (by (simp only[Nat.reducePow,Int.cast_ofNat_Int]) <;> omega) (by omega) (by omega) _ rfl
    | exact xa6 8 _ x _ _ (by kernel_rfl) (by decide) (by (simp only[Nat.reducePow,Int.cast_ofNat_Int]) <;> omega) (by omega) (by omega) _ rfl
    | exact xa6 0 _ x _ _ (by kernel_rfl) (by decide) (by (simp only[Nat.reducePow,Int.cast_ofNat_Int]) <;> omega) (by omega) (by omega) _ (congrArg wrap64 (Int.zero_add _).symm)
set_option maxRecDepth 20000 in
theorem xcm (v:Value) (l:List En) (w:World) (hv:xak w v l) (hm:xay l):Calls Tryz.prog 122 #[v] w fun x w'=>x=.returned (.int .i64 (xaC l))∧Below w.heap.size w w':=by
 obtain⟨al,cap,rfl,hcap,_,hc⟩:=hv
 have HC:=lH hc
 have HM:=lH hm
 obtain⟨R,hR⟩:∃ R,xaC l=R:=⟨_,rfl⟩
 rw[hR]
 clear hc hm
 by_cases h4:4096<l.length
 ·have hR2:R=21:=by rw[← hR,xaC,if_pos h4]
  subst hR2
  have hd:decide (4096<(l.length:Int))=true:=by simp;omega
  clear hR
  go_enter Tryz.func122,Tryz.ntmps122
  go_wp2_with fail
  go_ret
  exact⟨rfl,by go_grown⟩
 have hR2:xb9 (-1) l=R:=by rw[← hR,xaC,if_neg h4]
 have HR:=lH hR2
 have hd:decide (4096<(l.length:Int))=false:=by simp;omega
 clear hR hR2
 go_enter Tryz.func122,Tryz.ntmps122
 go_wp2_with fail
 go_loopw [11] (fun s wr=>∃ i:Nat,i≤l.length∧s=.int .i64 i∧Hid (xb9 (-1) (l.take i)=0)∧Below w.heap.size w wr) (fun s _=>l.length - (intOf s).toNat)
 case atStart=>exact⟨0,Nat.zero_le _,rfl,lH rfl,Below.refl _ _⟩
 case round =>
  obtain⟨i,hi,rfl,HG,hbw⟩:=hrel
  by_cases hlt:i<l.length
  ·obtain⟨e,he⟩:∃ t,l[i]?=some t:=⟨_,List.getElem?_eq_getElem hlt⟩
   obtain⟨g,off,rfl,hg,l0,l1,l2,l3⟩:=HC.out i e he
   have hme:=HM.out e (List.mem_of_getElem? he)
   have HK:=lH (fun W=>xc8 e W hme)
   have HAt:=lH (xs6 l i e he HG.out)
   have hi2:(i:Int)<(l.length:Int):=by omega
   have hcl:=xuS (Below.refl _ _) ⟨xdI hbw ⟨l0,l1,l2,l3⟩,hbw⟩
   have HE:Hid (¬ e.id≤-1):=lH (by have:=hme.1;omega)
   clear he hme l0 l1 l2 l3 hbw HG
   unfold eC at HK
   have HX:=lH (EAt.made wr e 74)
   have HBX:=lH (hcl.2.trans (((Below.refl wr.heap.size wr).alloc (Nat.le_refl _) (.cells (eC e) 74)).mono hcl.2.size))
   unfold eC at HX HBX
   by_cases h0:ckN e=0
   ·rw[h0] at HK
    have HCL:=lH hcl
    obtain⟨⟨k0,k1,k2,k3⟩,hbw⟩:=hcl
    clear hbw
    by_cases hz:i=0
    ·have hdz:decide (0<(i:Int))=false:=by simp;omega
     have hdn:decide (0<i)=false:=by simp;omega
     have HZ:=lH hz
     clear hz
     go_wp2_with fail
     refine(HK.out _).mono ?_
     rintro x w1 ⟨rfl,hb⟩
     have HS0:=xbF (Below.drew (Below.refl _ _)) (xbF hb ⟨HX.out,HBX.out⟩)
     clear hb k0 k1 k2 k3 HCL HX HBX
     go_upto_region 9 with fail
     refine wp_region_held_drew (S:=fun w'=>(w'.cell? ⟨wr.heap.size,0,none⟩=some (.int .u64 e.id)∧w'.cell? ⟨wr.heap.size,1,none⟩=some (.int .u64 e.off)∧w'.cell? ⟨wr.heap.size,2,none⟩=some (.int .u32 e.ln)∧w'.cell? ⟨wr.heap.size,3,none⟩=some (.int .u32 e.rn))∧Below w.heap.size w w') (by kernel_rfl) HS0 (fun hH0=>?_)
     refine tK 0 21 hH0 ?_
     refine tK 1 22 hH0 ?_
     refine tK 2 23 hH0 ?_
     refine tU 3 24 hH0 ?_
     refine tU 4 25 hH0 ?_
     refine tU 5 26 hH0 ?_
     refine tU 6 27 hH0 ?_
     refine tU 7 28 hH0 ?_
     refine tU 8 29 hH0 ?_
     refine tU 9 30 hH0 ?_
     refine tU 10 31 hH0 ?_
     refine tU 11 32 hH0 ?_
     refine tK 12 33 hH0 ?_
     refine wpAnyH_done (by kernel_rfl) ?_ _
     go_wp2_with fail
     go_roundw
     case rel =>
      refine⟨i+1,by omega,by go_num,lH (HAt.out.2 h0 ?_),hH0.2⟩
      unfold xsH
      rw[if_pos HZ.out]
      exact HE.out
     case measure=>simp[intOf];omega
    ·obtain⟨j,rfl⟩:∃ j,i=j+1:=⟨i - 1,by omega⟩
     obtain⟨f,hf⟩:∃ t,l[j]?=some t:=⟨_,List.getElem?_eq_getElem (by omega)⟩
     have hpv:xsH l (j+1)=laN f:=by
      unfold xsH
      rw[if_neg (by omega),Nat.add_sub_cancel,List.getD_eq_getElem?_getD,hf]
      rfl
     rw[hpv] at HAt
     obtain⟨g',off',ha,hg',f0,f1,f2,f3⟩:=HC.out j f hf
     obtain⟨rfl,rfl⟩:g=g'∧off=off':=by simpa using ha
     have hmf:=HM.out f (List.mem_of_getElem? hf)
     have HLF:=lH (fun W=>xfB f W hmf)
     unfold eC at HLF
     have HF:=lH (xdI HBX.out ⟨f0,f1,f2,f3⟩)
     have hij:((j+1:Nat):Int) - 1=(j:Int):=by omega
     have hwj:IntKind.i64.wrap (j:Int)=(j:Int):=by rw[IntKind.wrap_i64] <;> omega
     have hj2:(j:Int)<(l.length:Int):=by omega
     have hj0:(0:Int)≤(j:Int):=by omega
     generalize hgi:j+1=i at *
     have hdz:decide (0<(i:Int))=true:=by simp;omega
     have hdn:decide (0<i)=true:=by simp;omega
     obtain⟨q,hq⟩:∃ q,laN f=q:=⟨_,rfl⟩
     rw[hq] at HAt HLF
     clear hq hf f0 f1 f2 f3 hpv hz hmf
     by_cases hle:e.id≤q
     ·have hR:R=10:=by rw[← HR.out,HAt.out.1,if_neg (fun h=>h h0),if_pos hle]
      subst hR
      have hdl:decide (e.id≤q)=true:=by simpa using hle
      clear hle HAt
      go_wp2_with fail
      refine(HK.out _).mono ?_
      rintro x w1 ⟨rfl,hb⟩
      have HS0:=xgj (Below.drew (Below.refl _ _)) (xgj hb ⟨HX.out,HF.out,HBX.out⟩)
      clear hb k0 k1 k2 k3 HCL HX HBX HF
      go_upto_region 9 with fail
      refine wp_region_held_drew (S:=fun w'=>(w'.cell? ⟨wr.heap.size,0,none⟩=some (.int .u64 e.id)∧w'.cell? ⟨wr.heap.size,1,none⟩=some (.int .u64 e.off)∧w'.cell? ⟨wr.heap.size,2,none⟩=some (.int .u32 e.ln)∧w'.cell? ⟨wr.heap.size,3,none⟩=some (.int .u32 e.rn))∧(w'.cell? ⟨g,off+j*4,none⟩=some (.int .u64 f.id)∧w'.cell? ⟨g,off+j*4+1,none⟩=some (.int .u64 f.off)∧w'.cell? ⟨g,off+j*4+2,none⟩=some (.int .u32 f.ln)∧w'.cell? ⟨g,off+j*4+3,none⟩=some (.int .u32 f.rn))∧Below w.heap.size w w') (by kernel_rfl) HS0 (fun hH0=>?_)
      refine tK 0 21 hH0 ?_
      refine tK 1 22 hH0 ?_
      refine tK 2 23 hH0 ?_
      refine tK 3 24 hH0 ?_
      refine tK 4 25 hH0 ?_
      refine tK 5 26 hH0 ?_
      refine tK 6 27 hH0 ?_
      refine tK 7 28 hH0 ?_
      refine tK 8 29 hH0 ?_
      refine tK 9 30 hH0 ?_
      refine wpAnyH_ready (rs:=[10]) (by kernel_rfl) (by simp) ?_
      refine AllReadyH.cons rfl (fun K hK=>?_) AllReadyH.nil
      go_simp
      refine(HLF.out _).mono ?_
      rintro e w' ⟨rfl,hb⟩
      go_wp2_with fail
      refine hK.out _ _ (xgj hb hH0) (fun hH1=>?_)
      clear hK K hb hH0
      try simp only[Act.put,zsA,zsB,zsC]
      refine tK 11 32 hH1 ?_
      refine tK 12 33 hH1 ?_
      refine wpAnyH_done (by kernel_rfl) ?_ _
      go_wp2_with fail
      go_ret
      exact⟨rfl,hH1.2.2⟩
     ·have hdl:decide (e.id≤q)=false:=by simpa using hle
      have HG2:=lH (HAt.out.2 h0 hle)
      clear hle HAt
      go_wp2_with fail
      refine(HK.out _).mono ?_
      rintro x w1 ⟨rfl,hb⟩
      have HS0:=xgj (Below.drew (Below.refl _ _)) (xgj hb ⟨HX.out,HF.out,HBX.out⟩)
      clear hb k0 k1 k2 k3 HCL HX HBX HF
      go_upto_region 9 with fail
      refine wp_region_held_drew (S:=fun w'=>(w'.cell? ⟨wr.heap.size,0,none⟩=some (.int .u64 e.id)∧w'.cell? ⟨wr.heap.size,1,none⟩=some (.int .u64 e.off)∧w'.cell? ⟨wr.heap.size,2,none⟩=some (.int .u32 e.ln)∧w'.cell? ⟨wr.heap.size,3,none⟩=some (.int .u32 e.rn))∧(w'.cell? ⟨g,off+j*4,none⟩=some (.int .u64 f.id)∧w'.cell? ⟨g,off+j*4+1,none⟩=some (.int .u64 f.off)∧w'.cell? ⟨g,off+j*4+2,none⟩=some (.int .u32 f.ln)∧w'.cell? ⟨g,off+j*4+3,none⟩=some (.int .u32 f.rn))∧Below w.heap.size w w') (by kernel_rfl) HS0 (fun hH0=>?_)
      refine tK 0 21 hH0 ?_
      refine tK 1 22 hH0 ?_
      refine tK 2 23 hH0 ?_
      refine tK 3 24 hH0 ?_
      refine tK 4 25 hH0 ?_
      refine tK 5 26 hH0 ?_
      refine tK 6 27 hH0 ?_
      refine tK 7 28 hH0 ?_
      refine tK 8 29 hH0 ?_
      refine tK 9 30 hH0 ?_
      refine wpAnyH_ready (rs:=[10]) (by kernel_rfl) (by simp) ?_
      refine AllReadyH.cons rfl (fun K hK=>?_) AllReadyH.nil
      go_simp
      refine(HLF.out _).mono ?_
      rintro e w' ⟨rfl,hb⟩
      go_wp2_with fail
      refine hK.out _ _ (xgj hb hH0) (fun hH1=>?_)
      clear hK K hb hH0
      try simp only[Act.put,zsA,zsB,zsC]
      refine tK 11 32 hH1 ?_
      refine tK 12 33 hH1 ?_
      refine wpAnyH_done (by kernel_rfl) ?_ _
      go_wp2_with fail
      go_roundw
      case rel=>exact⟨i+1,by omega,by go_num,HG2,hH1.2.2⟩
      case measure=>simp[intOf];omega
   ·have hR:R=ckN e:=by rw[← HR.out,HAt.out.1,if_pos h0]
    obtain⟨r,hr⟩:∃ r,ckN e=r:=⟨_,rfl⟩
    rw[hr] at HK h0 hR
    subst hR
    have hne:(R != 0)=true:=by simp only[bne_iff_ne,ne_eq];exact h0
    clear h0 hr HAt HR
    have HCL:=lH hcl.2
    obtain⟨⟨k0,k1,k2,k3⟩,hbw⟩:=hcl
    clear hbw
    go_wp2_with fail
    refine(HK.out _).mono ?_
    rintro x w1 ⟨rfl,hb⟩
    have hb1:=lH (HBX.out.trans (hb.mono HBX.out.size))
    clear hb k0 k1 k2 k3 HCL
    go_wp2_with fail
    go_ret
    exact⟨rfl,hb1.out⟩
  ·obtain rfl:i=l.length:=by omega
   have hG:=HG.out
   rw[List.take_length] at hG
   have hR:R=0:=HR.out.symm.trans hG
   subst hR
   clear hG HG HR
   go_wp2_with fail
   go_ret
   exact⟨rfl,hbw⟩
theorem xrq (s b:Nat) (hs:s<18446744073709551616) (hb:b<256) (w:World) :
  Calls Tryz.prog 339 #[.int .u64 s,.int .u8 b] w fun e w'=>e=.returned (.int .u64 (xtJ s b))∧w'=w:=by
 have h1:=bits_xor_u64_nat s b hs (by omega)
 have h2:=xvP s b hs (by omega)
 have hw:IntKind.u64.wrap (b:Int)=(b:Int):=by rw[IntKind.wrap_u64];omega
 go_enter Tryz.func339,Tryz.ntmps339
 go_wp2
 go_ret
 refine⟨xav ?_,rfl⟩
 rw[IntKind.wrap_u64]
 unfold xtJ
 generalize (s ^^^ b)=y
 omega
end Go.Proofs.YtjinnigjfopbcaaGreatDoor
