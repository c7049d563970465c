/- aRn aGb aGc aGh aGi aM aT. -/
import Derived.Test.YtjinnigjfopbcaaGreatDoorVs
import Derived.RangeFuncNested
import Derived.RangeFuncBound
import Derived.Shelf.RegionOpen
import Derived.OwnWalkIn
import Derived.LoopNIn
import Derived.LoopIn
import Derived.Test.YtjinnigjfopbcaaGreatDoorVa3
set_option maxHeartbeats 16000000
namespace Go.Proofs.YtjinnigjfopbcaaGreatDoor
set_option linter.unusedVariables false
set_option linter.unusedSimpArgs false
open Go.RowKit Go.Shelf
set_option maxRecDepth 20000
def xcY:Obj→Bool
 | .loop _=>true
 | .deferred _=>true
 | _=>false
theorem xbX {p:Prop} (h:Fence.wide.depth.isSome=true):p:=absurd h (by simp[Fence.wide])
structure KeepsS (S S':Nat→Prop) (W W':World):Prop where
 size:W.heap.size≤W'.heap.size
 same:∀ (b:Nat) (o:Obj),¬ S b→W.heap[b]?=some o→W'.heap[b]?=some o
 own:∀ b,S' b→S b∨W.heap.size≤b
theorem xay {W:World} {b:Nat} {o:Obj} (h:W.heap[b]?=some o):b<W.heap.size:=(Array.getElem?_eq_some_iff.1 h).1
theorem KeepsS.refl (S:Nat→Prop) (W:World):KeepsS S S W W:=⟨Nat.le_refl _,fun _ _ _ h=>h,fun _ h=>.inl h⟩
theorem KeepsS.trans {S S' S'':Nat→Prop} {X Y Z:World} (h:KeepsS S S' X Y) (h':KeepsS S' S'' Y Z):KeepsS S S'' X Z:=by
 refine⟨Nat.le_trans h.size h'.size,fun b o hb ho=>h'.same b o (fun hs=>?_) (h.same b o hb ho),fun b hb=>?_⟩
 ·have:=xay ho
  rcases h.own b hs with h1|h1
  ·exact hb h1
  ·omega
 ·rcases h'.own b hb with h1|h1
  ·exact h.own b h1
  ·exact .inr (Nat.le_trans h.size h1)
theorem KeepsS.below (S:Nat→Prop) {W W':World} (hb:Below W.heap.size W W'):KeepsS S S W W':=⟨hb.size,fun b o _ ho=>(hb.block b (xay ho)).trans ho,fun _ h=>.inl h⟩
theorem KeepsS.alloc (S:Nat→Prop) (W:World) (o:Obj):KeepsS S S W (W.alloc o):=.below S ((Below.refl _ W).alloc (Nat.le_refl _) o)
theorem KeepsS.setCell (S:Nat→Prop) (W:World) (a:Addr) (v:Value) (ha:S a.block):KeepsS S S W (W.setCell a v) :=
 ⟨(KeepsWalks.setCell W a v).size,fun b o hb ho=>(Below.heap_setCell W a v b (fun e=>hb (e ▸ ha))).trans ho,fun _ h=>.inl h⟩
theorem KeepsS.cell {S S':Nat→Prop} {W W':World} (h:KeepsS S S' W W') {p:Addr} {v:Value} (hp:¬ S p.block) (hc:W.cell? p=some v):W'.cell? p=some v:=by
 have hlt:=xbh hc
 have:W'.heap[p.block]?=W.heap[p.block]?:=by rw[Array.getElem?_eq_getElem hlt];exact h.same _ _ hp (Array.getElem?_eq_getElem hlt)
 simpa[World.cell?,this] using hc
theorem KeepsS.heap {S S':Nat→Prop} {W W':World} (h:KeepsS S S' W W') {b:Nat} (hp:¬ S b) (hb:b<W.heap.size):W'.heap[b]?=W.heap[b]?:=by
 rw[Array.getElem?_eq_getElem hb];exact h.same _ _ hp (Array.getElem?_eq_getElem hb)
def xbV {β:Type} (T:Nat→Prop) (B:Nat) (J:β→World→Prop):Prop :=
 ∀ s X Y row,J s X→X.grownBy Y row→(∀ r,row=some r→T r∨(B≤r∧∃ o:Obj,X.heap[r]?=some o∧xcY o=true))→J s Y
abbrev xdD (T:Nat→Prop) (B:Nat) (J:Nat→(Nat→Prop)→World→Prop):Prop:=xbV T B (fun(s:Nat × (Nat→Prop))=>J s.1 s.2)
theorem xbV.mono {β:Type} {T:Nat→Prop} {B B':Nat} {J:β→World→Prop} (h:xbV T B J) (hB:B≤B'):xbV T B' J:=fun s X Y row hs hg hr =>
 h s X Y row hs hg (fun r e=>(hr r e).imp id (fun h=>⟨Nat.le_trans hB h.1,h.2⟩))
theorem xbV.and {β:Type} {T:Nat→Prop} {B:Nat} {J J':β→World→Prop} (h:xbV T B J) (h':xbV T B J'):xbV T B (fun s W=>J s W∧J' s W):=fun s X Y row hs hg hr=>⟨h s X Y row hs.1 hg hr,h' s X Y row hs.2 hg hr⟩
theorem xbV.put {β:Type} {T:Nat→Prop} {B:Nat} {J:β→World→Prop} (h:xbV T B J) {s:β} {W:World} (hs:J s W) {l:Nat} {o:Obj} (o':Obj) (hB:B≤l) (hl:W.heap[l]?=some o) (ho:xcY o=true):J s (W.putObj l o') :=
 h s W _ (some l) hs (grownBy_putObj' W l o') (fun r e=>by cases e;exact .inr ⟨hB,o,hl,ho⟩)
theorem xbV.grow {β:Type} {T:Nat→Prop} {B:Nat} {J:β→World→Prop} (h:xbV T B J) {s:β} {W W':World} (hs:J s W) (hb:Below W.heap.size W W'):J s W' :=
 h s W W' none hs ⟨hb.os,hb.tape,hb.output,hb.size,fun k hk _=>hb.block k hk⟩ (fun r e=>by cases e)
theorem xbV.alloc {β:Type} {T:Nat→Prop} {B:Nat} {J:β→World→Prop} (h:xbV T B J) {s:β} {W:World} (hs:J s W) (o:Obj):J s (W.alloc o):=h.grow hs ((Below.refl _ W).alloc (Nat.le_refl _) o)
theorem xbE {β:Type} {T:Nat→Prop} {n₀ B:Nat} {w₀:World} (h0:n₀≤w₀.heap.size) (hB:n₀≤B) (hT:∀ r,T r→n₀≤r):xbV T B (fun(_:β) W=>Below n₀ w₀ W):=fun s X Y row hs hg hr =>
 ⟨hg.os.trans hs.os,hg.tape.trans hs.tape,hg.output.trans hs.output,Nat.le_trans hs.size hg.size,fun k hk=>by
  refine(hg.block k ?_ (fun e=>?_)).trans (hs.block k hk)
  ·have:=hs.size;omega
  ·rcases hr k e.symm with h|h
   ·have:=hT k h;omega
   ·omega⟩
theorem xkz {T S1:Nat→Prop} {B:Nat} {X:World} (hB:X.heap.size≤B) (hT:∀ r,T r→X.heap.size≤r):xdD T B (fun _ S W=>KeepsS S1 S X W):=fun s Y Z row hs hg hr =>
 ⟨Nat.le_trans hs.size hg.size,fun b o hb ho=>by
  have hY:=hs.same b o hb ho
  have hX:=xay ho
  refine(hg.block b (xay hY) (fun e=>?_)).trans hY
  rcases hr b e.symm with h|h
  ·have:=hT b h;omega
  ·omega,hs.own⟩
def xuC (P:Program) (g:Nat) (lb:Array Value) (encs:Nat→Array Value) (N:Nat) (T V:Nat→Prop) (G:Nat→World→Prop) (Z:World→Prop) (w:World):Prop :=
 ∀ (n l:Nat) (J:Nat→(Nat→Prop)→World→Prop) (Jx:Nat→World→Prop) (S0:Nat→Prop) (W:World),Below w.heap.size w W →
  xdD T W.heap.size J→xbV T W.heap.size Jx→(∀ k S W1,J k S W1→G k W1∧∀ b,S b→b<W1.heap.size)→(∀ b,S0 b→b<W.heap.size∧¬ V b) →
  (∀ k S W1,J k S W1→k<N→YieldAt Fence.wide (n - 1) P l (encs k) W1 fun e W'=>(e=.returned (.bool true)∧∃ S',J (k+1) S' W'∧KeepsS S S' W1 W')∨(e=.returned (.bool false)∧Jx (k+1) W'∧∃ S',KeepsS S S' W1 W')) →
  J 0 S0 W→CallsIn Fence.wide n P g (#[.func (.yield l) #[] #[]]++lb) W fun e W'=>(∃ v,e=.returned v)∧((∃ S',J N S' W'∧Z W')∨∃ k,k≤N∧Jx k W')
def xyz (P:Program) (g:Nat) (lb:Array Value) (encs:Nat→Array Value) (N:Nat) (T V:Nat→Prop) (G:Nat→World→Prop) (Y:Nat→World→Prop) (Z:World→Prop) (w:World):Prop :=
 ∀ (n l:Nat) (J:Nat→(Nat→Prop)→World→Prop) (Jx:Nat→World→Prop) (S0:Nat→Prop) (W:World),Below w.heap.size w W →
  xdD T W.heap.size J→xbV T W.heap.size Jx→(∀ k S W1,J k S W1→G k W1∧∀ b,S b→b<W1.heap.size)→(∀ b,S0 b→b<W.heap.size∧¬ V b) →
  (∀ k S W1,J k S W1→Y k W1→k<N→YieldAt Fence.wide (n - 1) P l (encs k) W1 fun e W'=>(e=.returned (.bool true)∧∃ S',J (k+1) S' W'∧KeepsS S S' W1 W')∨(e=.returned (.bool false)∧Jx (k+1) W'∧∃ S',KeepsS S S' W1 W')) →
  J 0 S0 W→CallsIn Fence.wide n P g (#[.func (.yield l) #[] #[]]++lb) W fun e W'=>(∃ v,e=.returned v)∧((∃ S',J N S' W'∧Z W')∨∃ k,k≤N∧Jx k W')
theorem xuC.toY {P:Program} {g:Nat} {lb:Array Value} {encs:Nat→Array Value} {N:Nat} {T V:Nat→Prop} {G:Nat→World→Prop} {Z:World→Prop} {w:World} (h:xuC P g lb encs N T V G Z w):xyz P g lb encs N T V G (fun _ _=>True) Z w :=
 fun n l J Jx S0 W hW hJ hJx hG hS0 hY h0=>h n l J Jx S0 W hW hJ hJx hG hS0 (fun k S W1 hj hk=>hY k S W1 hj trivial hk) h0
def xvw (I:Nat→(Nat→Prop)→World→Prop) (Ix:Code→Nat→World→Prop) (k:Nat) (S:Nat→Prop) (W:World):Exit→Act→World→Prop
 | .normal,_,W'=>∃ S',I k S' W'∧KeepsS S S' W W'
 | .ret,_,W'=>Ix .ret k W'∧∃ S',KeepsS S S' W W'
 | .exit id,_,W'=>Ix (.exit id) k W'∧∃ S',KeepsS S S' W W'
 | .goto t,_,W'=>Ix (.goto t) k W'∧∃ S',KeepsS S S' W W'
 | .panic _,_,_=>False
 | .outgrown,_,_=>False
abbrev xlg (D:Nat) (a:Act):Act:={ a with defers:={ target:=.collected D,args:=#[] } :: a.defers }
theorem xoP {n:Nat} {P:Program} {w:World} {a:Act} {Q:Exit→Act→World→Prop} {g:Operand} {ps:Array Tmp} {assign body:Code}
  {gf:Nat} {lb:Array Value} (hg:a.eval g=.func (.func gf) #[] lb) (eg:∀ args w,(callFunc gf args).run P w=.ok (.enter gf args) w)
  {encs:Nat→Array Value} {N:Nat} {T V:Nat→Prop} {G:Nat→World→Prop} {Y:Nat→World→Prop} {Z:World→Prop} {w0:World} (hseq:xyz P gf lb encs N T V G Y Z w0) (hb0:Below w0.heap.size w0 w)
  (hT:∀ r,T r→r<w.heap.size) (hV:∀ r,V r→r<w.heap.size) (hps:∀ k,(encs k).size=ps.size)
  (I:Nat→(Nat→Prop)→World→Prop) (Ix:Code→Nat→World→Prop) (hI:xdD T w.heap.size I) (hIx:∀ c,xbV T w.heap.size (Ix c)) (hG:∀ k S W,I k S W→G k W∧∀ b,S b→b<W.heap.size)
  (S0:Nat→Prop) (hS0:∀ b,S0 b→b<w.heap.size∧¬ V b) (h0:I 0 S0 w) (hZ:∀ (W:World) (l:Nat) (o o':Obj),Z W→w.heap.size≤l→W.heap[l]?=some o→xcY o=true→Z (W.putObj l o'))
  (hYp:∀ (k:Nat) (W:World) (l:Nat) (o o':Obj),Y k W→w.heap.size≤l→W.heap[l]?=some o→xcY o=true→Y k (W.putObj l o')) (Ax:Nat→Act→World→Prop) (hAx:∀ k a',xbV T w.heap.size (fun(_:Unit) W=>Ax k a' W))
  (hassign:∀ (l k:Nat) (S:Nat→Prop) (W:World) (K:Act→World→Prop),I k S W→Y k W→k<N→(∀ a' W' S',I k S' W'→Y k W'→KeepsS S S' W W'→Ax k a' W'→K a' W') →
   assign.wpIn (Fence.wide.inRound l) (n - 1 - 1) P (Exit.then K (fun _ _ _=>False)) { tmps:=(ps.zip (encs k)).foldl (fun t (p,v)=>t.setIfInBounds p v) a.tmps,defers:=[] } W)
  (hbody:∀ (l k:Nat) (S:Nat→Prop) (a':Act) (W:World),w.heap.size≤l→I k S W→Y k W→Ax k a' W→k<N→body.wpIn (Fence.wide.inRound l) (n - 1 - 1) P (xvw I Ix (k+1) S W) a' W)
  (hdone:∀ (D:Nat) (S:Nat→Prop) (W:World),w.heap.size≤D→¬ S D→I N S W→Z W→W.heap[D]?=some (.deferred (some []))→Q .normal (xlg D a) W)
  (hstop:∀ (D:Nat) (c:Code) (k:Nat) (W:World),w.heap.size≤D→k≤N→Ix c k W→W.heap[D]?=some (.deferred (some []))→c.wpIn Fence.wide n P Q (xlg D a) W) :
  (Code.rangeFunc g ps assign body).wpIn Fence.wide n P Q a w:=by
 refine wpIn_rangeFunc fun fn hfn=>?_
 -- the record of the loop,and the world in which the iterator is called
 generalize hL:w.heap.size+1=L
 have hD:w.heap.size<L:=by omega
 let rec0:LoopState→Option Code→Loop:=fun st pe=>{ state:=st,pending:=pe,fn,tmps:=a.tmps,params:=ps,assign,body,defers:=w.heap.size }
 have hrec:rec0=fun st pe=>{ state:=st,pending:=pe,fn,tmps:=a.tmps,params:=ps,assign,body,defers:=w.heap.size }:=rfl
 generalize rec0=rec at hrec
 have hnew:Below w.heap.size w ((w.alloc (.deferred (some []))).alloc (.loop (rec .ready none))):=((Below.refl _ w).alloc (Nat.le_refl _) _).alloc (by simp) _
 have e1:((w.alloc (.deferred (some []))).alloc (.loop (rec .ready none))).heap[L]?=some (.loop (rec .ready none)):=by
  have:=World.alloc_heap_new (w.alloc (.deferred (some []))) (.loop (rec .ready none))
  rwa[World.size_alloc,hL] at this
 have e2:((w.alloc (.deferred (some []))).alloc (.loop (rec .ready none))).heap[w.heap.size]?=some (.deferred (some [])) :=
  (Below.heap_alloc _ _ _ (by simp)).trans (World.alloc_heap_new w _)
 have e3:((w.alloc (.deferred (some []))).alloc (.loop (rec .ready none))).heap.size=L+1:=by simp;omega
 have e4:(Instr.enterLoop fn a.tmps ps assign body Fence.wide.round).run P w=.ok (L,[{ target:=.collected w.heap.size,args:=#[] }]) ((w.alloc (.deferred (some []))).alloc (.loop (rec .ready none))):=by
  rw[hrec,← hL];exact run_enterLoop_outer _ _ _ _ _
 generalize (w.alloc (.deferred (some []))).alloc (.loop (rec .ready none))=W1 at hnew e1 e2 e3 e4
 refine⟨L,_,W1,{ target:=.fn (.func gf) lb,args:=#[.func (.yield L) #[] #[]] },W1,gf,#[.func (.yield L) #[] #[]]++lb,W1,e4,?_,fun _ _=>trivial,?_,fun h=>absurd h (by simp[Fence.wide]),?_⟩
 ·simp only[resolve,hg];simp[go_sem]
 ·simp[invoke,go_sem,eg]
 have hmonoI:xdD T (L+1) I:=hI.mono (by omega)
 refine(hseq (n - 1) L
  (fun k S W=>∃ S1,(∀ b,S b↔(S1 b∨b=L))∧I k S1 W∧(¬ S1 L∧¬ S1 w.heap.size)∧W.heap[L]?=some (.loop (rec .ready none))∧W.heap[w.heap.size]?=some (.deferred (some [])))
  (fun k W=>∃ c,Ix c k W∧W.heap[L]?=some (.loop (rec .done (some c)))∧W.heap[w.heap.size]?=some (.deferred (some [])))
  (fun b=>S0 b∨b=L) W1 (hb0.trans (hnew.mono hb0.size)) ?_ ?_ ?_ ?_ ?_ ?_).mono ?_
 ·rintro⟨k,S⟩ X Y row ⟨S1,hS,hi,hl,h1,h2⟩ hgr hr
  refine⟨S1,hS,hmonoI (k,S1) X Y row hi hgr (by rw[e3] at hr;exact hr),hl,?_,?_⟩
  ·refine(hgr.block L (xay h1) (fun e=>?_)).trans h1
   rcases hr L e.symm with h|h
   ·have:=hT L h;omega
   ·omega
  ·refine(hgr.block _ (xay h2) (fun e=>?_)).trans h2
   rcases hr _ e.symm with h|h
   ·have:=hT _ h;omega
   ·omega
 ·rintro k X Y row ⟨c,hi,h1,h2⟩ hgr hr
  refine⟨c,(hIx c).mono (B':=L+1) (by omega) k X Y row hi hgr (by rw[e3] at hr;exact hr),?_,?_⟩
  ·refine(hgr.block L (xay h1) (fun e=>?_)).trans h1
   rcases hr L e.symm with h|h
   ·have:=hT L h;omega
   ·omega
  ·refine(hgr.block _ (xay h2) (fun e=>?_)).trans h2
   rcases hr _ e.symm with h|h
   ·have:=hT _ h;omega
   ·omega
 ·rintro k S W ⟨S1,hS,hi,_,hl,_⟩
  refine⟨(hG _ _ _ hi).1,fun b hb=>?_⟩
  rcases(hS b).1 hb with h|rfl
  ·exact(hG _ _ _ hi).2 b h
  ·exact xay hl
 ·rintro b (hb|rfl)
  ·have:=hS0 b hb;exact⟨by omega,this.2⟩
  ·exact⟨by omega,fun hv=>by have:=hV _ hv;omega⟩
 ·-- a round
  rintro k S W ⟨S1,hS,hi,⟨hs1,hs2⟩,hl,hk⟩ hyk hlt
  have hy:=run_yield (P:=P) (args:=encs k) hl (by rw[hrec];exact hps k)
  rw[hrec] at hy
  refine⟨fn,_,assign,body,hy,roundIn_of_wpIn hfn (hassign L k S1 W _ hi hyk hlt ?_)⟩
  clear hy
  intro a' Wa Sa hia hya hka hax
  have hla:=hka.same _ _ hs1 hl
  have hda:=hka.same _ _ hs2 hk
  have hLW:=xay hl
  have hsa1:¬ Sa L:=fun h=>by rcases hka.own _ h with h|h <;> first|exact hs1 h|omega
  have hsa2:¬ Sa w.heap.size:=fun h=>by rcases hka.own _ h with h|h <;> first|exact hs2 h|omega
  refine⟨_,run_beginRound hla (by rw[hrec]),?_⟩
  have hlb:(Wa.putObj L (.loop { rec .ready none with state:=.busy })).heap[L]?=some (.loop { rec .ready none with state:=.busy }):=World.putObj_heap_same (xay hla)
  have hdb:(Wa.putObj L (.loop { rec .ready none with state:=.busy })).heap[w.heap.size]?=some (.deferred (some [])):=(World.putObj_heap_other (by omega)).trans hda
  have hpb:∀ b,b≠L→(Wa.putObj L (.loop { rec .ready none with state:=.busy })).heap[b]?=Wa.heap[b]?:=fun b hb=>World.putObj_heap_other hb
  have hszb:(Wa.putObj L (.loop { rec .ready none with state:=.busy })).heap.size=Wa.heap.size:=by simp
  refine wpIn_mono (hbody L k Sa a' _ (by omega) (hI.put (s:=(k,Sa)) hia _ (by omega) hla rfl) (hYp k _ _ _ _ hya (by omega) hla rfl) ((hAx k a').put (s:=()) hax _ (by omega) hla rfl) hlt) ?_
  generalize Wa.putObj L (.loop { rec .ready none with state:=.busy })=Wb at hlb hdb hpb hszb
  -- what any way out leaves
  have fin:∀ (jump:Option Code) (W3:World) (S3:Nat→Prop),KeepsS Sa S3 Wb W3 →
    (Instr.endRound L jump).run P W3=.ok (.bool jump.isNone) (W3.putObj L (.loop (rec (if jump.isNone then .ready else .done) jump))) ∧
    W3.heap[L]?=some (.loop { rec .ready none with state:=.busy }) ∧
    (W3.putObj L (.loop (rec (if jump.isNone then .ready else .done) jump))).heap[L]?=some (.loop (rec (if jump.isNone then .ready else .done) jump)) ∧
    (W3.putObj L (.loop (rec (if jump.isNone then .ready else .done) jump))).heap[w.heap.size]?=some (.deferred (some []))∧(¬ S3 L∧¬ S3 w.heap.size)∧KeepsS S (fun b=>S3 b∨b=L) W (W3.putObj L (.loop (rec (if jump.isNone then .ready else .done) jump))):=by
   intro jump W3 S3 hk3
   have hl3:=hk3.same _ _ hsa1 hlb
   have hd3:=hk3.same _ _ hsa2 hdb
   have hLb:=xay hlb
   have hr3:=run_endRound (P:=P) jump hl3
   refine⟨by rw[hrec] at hr3 ⊢;exact hr3,hl3,World.putObj_heap_same (xay hl3),(World.putObj_heap_other (by omega)).trans hd3,⟨fun h=>?_,fun h=>?_⟩,?_⟩
   ·rcases hk3.own _ h with h|h <;> first|exact hsa1 h|omega
   ·rcases hk3.own _ h with h|h <;> first|exact hsa2 h|omega
   ·refine⟨?_,fun b o hb ho=>?_,fun b hb=>?_⟩
    ·have:=hka.size;have:=hk3.size;simp;omega
    ·have hb1:¬ S1 b:=fun h=>hb ((hS b).2 (.inl h))
     have hb2:b≠L:=fun h=>hb ((hS b).2 (.inr h))
     have hb3:¬ Sa b:=fun h=>by have:=xay ho;rcases hka.own _ h with h|h <;> first|exact hb1 h|omega
     refine(World.putObj_heap_other hb2).trans (hk3.same _ _ hb3 ((hpb b hb2).trans (hka.same _ _ hb1 ho)))
    ·rcases hb with hb|hb
     ·rcases hk3.own _ hb with h|h
      ·exact(hka.own _ h).imp (fun h=>(hS b).2 (.inl h)) id
      ·have:=hka.size;exact .inr (by omega)
     ·exact .inl ((hS b).2 (.inr hb))
  rintro e a3 W3 hp
  cases e with
  | normal =>
   obtain⟨S3,hi3,hk3⟩:=hp
   obtain⟨hr3,hl3,hl4,hd4,hn1,hn2⟩:=fin none W3 S3 hk3
   refine⟨_,_,hr3,.inl ⟨rfl,fun b=>S3 b∨b=L,⟨S3,fun b=>Iff.rfl,hI.put (s:=(k+1,S3)) hi3 _ (by omega) hl3 rfl,hn1,hl4,hd4⟩,hn2⟩⟩
  | ret =>
   obtain⟨hi3,S3,hk3⟩:=hp
   obtain⟨hr3,hl3,hl4,hd4,hn1,hn2⟩:=fin (some .ret) W3 S3 hk3
   exact⟨_,_,hr3,.inr ⟨rfl,⟨.ret,(hIx _).put hi3 _ (by omega) hl3 rfl,hl4,hd4⟩,_,hn2⟩⟩
  | exit id =>
   obtain⟨hi3,S3,hk3⟩:=hp
   obtain⟨hr3,hl3,hl4,hd4,hn1,hn2⟩:=fin (some (.exit id)) W3 S3 hk3
   exact⟨_,_,hr3,.inr ⟨rfl,⟨.exit id,(hIx _).put hi3 _ (by omega) hl3 rfl,hl4,hd4⟩,_,hn2⟩⟩
  | goto t =>
   obtain⟨hi3,S3,hk3⟩:=hp
   obtain⟨hr3,hl3,hl4,hd4,hn1,hn2⟩:=fin (some (.goto t)) W3 S3 hk3
   exact⟨_,_,hr3,.inr ⟨rfl,⟨.goto t,(hIx _).put hi3 _ (by omega) hl3 rfl,hl4,hd4⟩,_,hn2⟩⟩
  | panic ch=>exact hp.elim
  | outgrown=>exact hp.elim
 ·have hs0L:¬ S0 L:=fun h=>by have:=(hS0 _ h).1;omega
  have hs0D:¬ S0 w.heap.size:=fun h=>by have:=(hS0 _ h).1;omega
  exact⟨S0,fun b=>Iff.rfl,hI.grow (s:=(0,S0)) h0 hnew,⟨hs0L,hs0D⟩,e1,e2⟩
 ·-- behind the iterator
  rintro e W2 ⟨⟨v,rfl⟩,(⟨S',⟨S1,hS,hi,hnD,hl,hk⟩,hz⟩|⟨k,hk1,c,hi,hl,hk⟩)⟩
  ·refine⟨none,_,by have:=run_endLoop (P:=P) hl (by rw[hrec];simp);rw[hrec] at this;exact this,?_⟩
   exact hdone _ S1 _ (Nat.le_refl _) hnD.2 (hI.put (s:=(N,S1)) hi _ (by omega) hl rfl) (hZ _ _ _ _ hz (by omega) hl rfl) ((World.putObj_heap_other (by omega)).trans hk)
  ·refine⟨some c,_,by have:=run_endLoop (P:=P) hl (by rw[hrec];simp);rw[hrec] at this;exact this,?_⟩
   exact hstop _ c k _ (Nat.le_refl _) hk1 ((hIx c).put hi _ (by omega) hl rfl) ((World.putObj_heap_other (by omega)).trans hk)
theorem xhB {n:Nat} {P:Program} {w:World} {a:Act} {Q:Exit→Act→World→Prop} {g:Operand} {assign body:Code}
  {gf:Nat} {lb:Array Value} (hg:a.eval g=.func (.func gf) #[] lb) (eg:∀ args w,(callFunc gf args).run P w=.ok (.enter gf args) w)
  {val:Nat→Value} {p:Nat} {r:Nat} {N:Nat} {T V:Nat→Prop} {G:Nat→World→Prop} {Z:World→Prop} {w0:World} (hseq:xuC P gf lb (fun k=>#[val k]) N T V G Z w0) (hb0:Below w0.heap.size w0 w)
  (hT:∀ r,T r→r<w.heap.size) (hV:∀ r,V r→r<w.heap.size)
  (I:Nat→(Nat→Prop)→World→Prop) (Ix:Code→Nat→World→Prop) (hI:xdD T w.heap.size I) (hIx:∀ c,xbV T w.heap.size (Ix c)) (hG:∀ k S W,I k S W→G k W∧∀ b,S b→b<W.heap.size)
  (S0:Nat→Prop) (hS0:∀ b,S0 b→b<w.heap.size∧¬ V b) (h0:I 0 S0 w) (hZ:∀ (W:World) (l:Nat) (o o':Obj),Z W→w.heap.size≤l→W.heap[l]?=some o→xcY o=true→Z (W.putObj l o'))
  (hassign:∀ (l k:Nat) (W:World) (K:Act→World→Prop),K { tmps:=(a.tmps.setIfInBounds p (val k)).setIfInBounds r (val k),defers:=[] } W→assign.wpIn (Fence.wide.inRound l) (n - 1 - 1) P (Exit.then K (fun _ _ _=>False)) { tmps:=a.tmps.setIfInBounds p (val k),defers:=[] } W)
  (hbody:∀ (l k:Nat) (S:Nat→Prop) (W:World),w.heap.size≤l→I k S W→k<N→body.wpIn (Fence.wide.inRound l) (n - 1 - 1) P (xvw I Ix (k+1) S W) { tmps:=(a.tmps.setIfInBounds p (val k)).setIfInBounds r (val k),defers:=[] } W)
  (hdone:∀ (D:Nat) (S:Nat→Prop) (W:World),w.heap.size≤D→¬ S D→I N S W→Z W→W.heap[D]?=some (.deferred (some []))→Q .normal (xlg D a) W)
  (hstop:∀ (D:Nat) (c:Code) (k:Nat) (W:World),w.heap.size≤D→k≤N→Ix c k W→W.heap[D]?=some (.deferred (some []))→c.wpIn Fence.wide n P Q (xlg D a) W) :
  (Code.rangeFunc g #[p] assign body).wpIn Fence.wide n P Q a w :=
 xoP hg eg hseq.toY hb0 hT hV (fun _=>rfl) I Ix hI hIx hG S0 hS0 h0 hZ (fun _ _ _ _ _ _ _ _ _=>trivial) (fun k a' _=>a'={ tmps:=(a.tmps.setIfInBounds p (val k)).setIfInBounds r (val k),defers:=[] }) (fun k a' _ X Y row hs _ _=>hs)
  (fun l k S W K hi _ hk hK=>by
   have h:=hassign l k W K (hK _ W S hi trivial ⟨Nat.le_refl _,fun _ _ _ h=>h,fun _ h=>.inl h⟩ rfl)
   have e:Array.foldl (fun t (y:Nat × Value)=>t.setIfInBounds y.1 y.2) a.tmps (#[p].zip #[val k])=a.tmps.setIfInBounds p (val k):=by simp
   rw[← e] at h
   exact h)
  (fun l k S a' W hl hi _ hax hk=>by subst hax;exact hbody l k S W hl hi hk)
  hdone hstop
theorem xlU {n:Nat} {P:Program} {w:World} {a:Act} {Q:Exit→Act→World→Prop} {g:Operand} {assign body:Code}
  {gf:Nat} {lb:Array Value} (hg:a.eval g=.func (.func gf) #[] lb) (eg:∀ args w,(callFunc gf args).run P w=.ok (.enter gf args) w)
  {val va2:Nat→Value} {p q:Nat} {r s:Nat} {N:Nat} {T V:Nat→Prop} {G:Nat→World→Prop} {Y:Nat→World→Prop} {Z:World→Prop} {w0:World} (hseq:xyz P gf lb (fun k=>#[val k,va2 k]) N T V G Y Z w0) (hb0:Below w0.heap.size w0 w)
  (hT:∀ r,T r→r<w.heap.size) (hV:∀ r,V r→r<w.heap.size)
  (I:Nat→(Nat→Prop)→World→Prop) (Ix:Code→Nat→World→Prop) (hI:xdD T w.heap.size I) (hIx:∀ c,xbV T w.heap.size (Ix c)) (hG:∀ k S W,I k S W→G k W∧∀ b,S b→b<W.heap.size)
  (S0:Nat→Prop) (hS0:∀ b,S0 b→b<w.heap.size∧¬ V b) (h0:I 0 S0 w) (hZ:∀ (W:World) (l:Nat) (o o':Obj),Z W→w.heap.size≤l→W.heap[l]?=some o→xcY o=true→Z (W.putObj l o'))
  (hYp:∀ (k:Nat) (W:World) (l:Nat) (o o':Obj),Y k W→w.heap.size≤l→W.heap[l]?=some o→xcY o=true→Y k (W.putObj l o'))
  (hassign:∀ (l k:Nat) (W:World) (K:Act→World→Prop),K { tmps:=(((a.tmps.setIfInBounds p (val k)).setIfInBounds q (va2 k)).setIfInBounds r (val k)).setIfInBounds s (va2 k),defers:=[] } W→assign.wpIn (Fence.wide.inRound l) (n - 1 - 1) P (Exit.then K (fun _ _ _=>False)) { tmps:=(a.tmps.setIfInBounds p (val k)).setIfInBounds q (va2 k),defers:=[] } W)
  (hbody:∀ (l k:Nat) (S:Nat→Prop) (W:World),w.heap.size≤l→I k S W→Y k W→k<N→body.wpIn (Fence.wide.inRound l) (n - 1 - 1) P (xvw I Ix (k+1) S W) { tmps:=(((a.tmps.setIfInBounds p (val k)).setIfInBounds q (va2 k)).setIfInBounds r (val k)).setIfInBounds s (va2 k),defers:=[] } W)
  (hdone:∀ (D:Nat) (S:Nat→Prop) (W:World),w.heap.size≤D→¬ S D→I N S W→Z W→W.heap[D]?=some (.deferred (some []))→Q .normal (xlg D a) W)
  (hstop:∀ (D:Nat) (c:Code) (k:Nat) (W:World),w.heap.size≤D→k≤N→Ix c k W→W.heap[D]?=some (.deferred (some []))→c.wpIn Fence.wide n P Q (xlg D a) W) :
  (Code.rangeFunc g #[p,q] assign body).wpIn Fence.wide n P Q a w :=
 xoP hg eg hseq hb0 hT hV (fun _=>rfl) I Ix hI hIx hG S0 hS0 h0 hZ hYp (fun k a' _=>a'={ tmps:=(((a.tmps.setIfInBounds p (val k)).setIfInBounds q (va2 k)).setIfInBounds r (val k)).setIfInBounds s (va2 k),defers:=[] }) (fun k a' _ X Y row hs _ _=>hs)
  (fun l k S W K hi hy hk hK=>by
   have h:=hassign l k W K (hK _ W S hi hy ⟨Nat.le_refl _,fun _ _ _ h=>h,fun _ h=>.inl h⟩ rfl)
   have e:Array.foldl (fun t (y:Nat × Value)=>t.setIfInBounds y.1 y.2) a.tmps (#[p,q].zip #[val k,va2 k])=(a.tmps.setIfInBounds p (val k)).setIfInBounds q (va2 k):=by simp
   rw[← e] at h
   exact h)
  (fun l k S a' W hl hi hy hax hk=>by subst hax;exact hbody l k S W hl hi hy hk)
  hdone hstop
end Go.Proofs.YtjinnigjfopbcaaGreatDoor
namespace Go.Proofs.YtjinnigjfopbcaaGreatDoor
set_option linter.unusedVariables false
set_option linter.unusedSimpArgs false
open Go.RowKit
set_option maxRecDepth 20000
def ktC (t:Kt):List Value:=[.int .u64 t.1,.int .u32 t.2.size,.string t.2]
def xeS:List Kt→List Value
 | []=>[]
 | t :: l=>.int .u64 t.1 :: .int .u32 t.2.size :: .string t.2 :: xeS l
theorem xj1 (a b:List Kt):xeS (a++b)=xeS a++xeS b:=by
 induction a with
 | nil=>rfl
 | cons t l ih=>simp[xeS,ih]
theorem xsL (l:List Kt):∀ (k:Nat) (t:Kt),l[k]?=some t→(xeS l)[k*3]?=some (.int .u64 t.1)∧(xeS l)[k*3+1]?=some (.int .u32 t.2.size)∧(xeS l)[k*3+2]?=some (.string t.2):=by
 induction l with
 | nil=>intro k t h;simp at h
 | cons s l ih =>
  intro k t h
  cases k with
  | zero=>simp at h;subst h;simp[xeS]
  | succ k =>
   have:=ih k t (by simpa using h)
   rw[show (k+1)*3=k*3+1+1+1 by omega]
   simpa[xeS] using this
def xom (w:World) (v:Value) (l:List Kt):Prop:=∃ a cap,v=.slice a l.length cap∧l.length≤cap∧cap≤maxLen∧∀ k t,l[k]?=some t→∃ g off,a=some ⟨g,off,none⟩∧g<w.heap.size∧w.cell? ⟨g,off+k*3,none⟩=some (.int .u64 t.1)∧w.cell? ⟨g,off+k*3+1,none⟩=some (.int .u32 t.2.size)∧w.cell? ⟨g,off+k*3+2,none⟩=some (.string t.2)
theorem xom.below {w w':World} {v:Value} {l:List Kt} (h:xom w v l) (hb:Below w.heap.size w w'):xom w' v l:=by
 obtain⟨a,cap,rfl,h1,h2,hc⟩:=h
 refine⟨a,cap,rfl,h1,h2,fun k t ht=>?_⟩
 obtain⟨g,off,ha,hg,c0,c1,c2⟩:=hc k t ht
 exact⟨g,off,ha,Nat.lt_of_lt_of_le hg hb.size,xan hb c0,xan hb c1,xan hb c2⟩
def xcM (w:World) (B:Nat) (v:Value) (l:List Kt):Prop:=w.ownsRow B 328 3 v l.length (xeS l)
theorem xlZ (w:World) (B:Nat):xcM w B (.slice none 0 0) []:=World.ownsRow_nil _ _ _ _
theorem xcM.lt {w:World} {B:Nat} {v:Value} {l:List Kt} (h:xcM w B v l):∀ k,v.ownBlock=some k→B≤k∧k<w.heap.size:=World.ownsRow.lt h
theorem xcM.keep {w w':World} {B:Nat} {v:Value} {l:List Kt} (h:xcM w B v l) (hk:∀ k,v.ownBlock=some k→w'.heap[k]?=w.heap[k]?):xcM w' B v l:=by
 obtain⟨h1,h2⟩:=h
 refine⟨h1,?_⟩
 rcases h2 with h2|⟨g,cap,cur,hv,hg,hh,r⟩
 ·exact .inl h2
 ·refine .inr ⟨g,cap,cur,hv,hg,?_,r⟩
  rw[hk g (by rw[hv];rfl)];exact hh
theorem xcM.below {w w':World} {B:Nat} {v:Value} {l:List Kt} (h:xcM w B v l) (hb:Below w.heap.size w w'):xcM w' B v l :=
 h.keep (fun k hk=>hb.block k (h.lt k hk).2)
theorem xcM.mono {w:World} {B B':Nat} {v:Value} {l:List Kt} (h:xcM w B v l) (hb:B'≤B):xcM w B' v l:=by
 obtain⟨h1,h2⟩:=h
 refine⟨h1,?_⟩
 rcases h2 with h2|⟨g,cap,cur,hv,hg,r⟩
 ·exact .inl h2
 ·exact .inr ⟨g,cap,cur,hv,Nat.le_trans hb hg,r⟩
theorem xcM.cells {w:World} {B:Nat} {v:Value} {l:List Kt} (h:xcM w B v l) {g:Nat} (hg:v.ownBlock=some g):∃ cur T fz,w.heap[g]?=some (.cells cur T fz):=by
 rcases h.2 with ⟨rfl,_⟩|⟨g',cap,cur,rfl,_,hh,_⟩
 ·cases hg
 ·cases hg
  exact⟨_,_,_,hh⟩
theorem xcM.ktsAt {w:World} {B:Nat} {v:Value} {l:List Kt} (h:xcM w B v l):xom w v l:=by
 have hlt:=h.lt
 have h':=h
 obtain⟨h1,h2⟩:=h
 rcases h2 with ⟨rfl,hn⟩|⟨g,cap,cur,rfl,hg,hh,hle,hm,_⟩
 ·obtain rfl:l=[]:=List.eq_nil_of_length_eq_zero hn
  exact⟨none,0,rfl,Nat.le_refl _,by simp,fun k t h=>by simp at h⟩
 ·refine⟨_,cap,rfl,hle,hm,fun k t ht=>⟨g,0,rfl,(hlt g rfl).2,?_⟩⟩
  have hk:=(List.getElem?_eq_some_iff.1 ht).1
  obtain⟨f0,f1,f2⟩:=xsL l k t ht
  rw[Nat.zero_add]
  exact⟨(World.ownsRow.cellAt h' (k*3) (by omega)).trans f0,(World.ownsRow.cellAt h' (k*3+1) (by omega)).trans f1,(World.ownsRow.cellAt h' (k*3+2) (by omega)).trans f2⟩
theorem xcM.slice {w:World} {B:Nat} {v:Value} {l:List Kt} (h:xcM w B v l):∃ a cap,v=.slice a l.length cap:=by
 obtain⟨a,cap,hv,_⟩:=h.ktsAt
 exact⟨a,cap,hv⟩
theorem xoJ {w:World} {B:Nat} {v:Value} {n:Nat} {l:List Kt} {ys:List Value} (h:w.ownsRow B 328 3 v n ys) (hn:n=l.length) (he:ys=xeS l):xcM w B v l:=by
 subst hn;subst he;exact h
theorem xxY:(Tryz.prog.info? 328).map (fun i=>(i.zero,i.size,i.bytes))=some (some (.agg #[.int .u64 0,.int .u32 0,.string { data:=#[] }]),3,32):=by kernel_rfl
def xc2 (w:World) (g:Nat) (t:Kt):Prop:=w.cell? ⟨g,0,none⟩=some (.int .u64 t.1)∧w.cell? ⟨g,1,none⟩=some (.int .u32 t.2.size)∧w.cell? ⟨g,2,none⟩=some (.string t.2)
theorem xc2.lt {w:World} {g:Nat} {t:Kt} (h:xc2 w g t):g<w.heap.size:=xbh h.1
theorem xc2.below {w w':World} {g:Nat} {t:Kt} (h:xc2 w g t) (hb:Below w.heap.size w w'):xc2 w' g t:=⟨xan hb h.1,xan hb h.2.1,xan hb h.2.2⟩
theorem xf9 (w:World) (t:Kt) (T:TypeId):xc2 (w.alloc (.cells #[.int .u64 t.1,.int .u32 t.2.size,.string t.2] T)) w.heap.size t:=⟨by simp[go_sem],by simp[go_sem],by simp[go_sem]⟩
theorem xku (W:World) (ty:TypeId) (v:Value) (L:List Kt) (t:Kt) (g c:Nat) (hown:xcM W 0 v L) (hx:xc2 W g t) (hl:L.length≤1000000) :
  ∃ v' w',(Builtin.append_ #[318,318] ty #[v,.slice (some ⟨g,0,none⟩) 1 c]).run Tryz.prog W=.ok v' w'∧xcM w' 0 v' (L++[t])∧W.grownBy w' v.ownBlock∧(v'.ownBlock=v.ownBlock∨∃ g,v'.ownBlock=some g∧W.heap.size≤g):=by
 obtain⟨v',w',hr,h2,h3,h4⟩:=xfZ 3 32 W 0 318 328 ty _ Tryz.underlying318 xxY rfl (by omega) (by omega) v L.length (xeS L) hown ⟨g,0,none⟩ 1 c (ktC t) rfl (by
  intro j u hu
  match j,hu with
  | 0,hu=>simp only[ktC,List.getElem?_cons_zero,Option.some.injEq] at hu;rw[← hu];exact hx.1
  | 1,hu=>simp only[ktC,List.getElem?_cons_succ,List.getElem?_cons_zero,Option.some.injEq] at hu;rw[← hu];exact hx.2.1
  | 2,hu=>simp only[ktC,List.getElem?_cons_succ,List.getElem?_cons_zero,Option.some.injEq] at hu;rw[← hu];exact hx.2.2
  | j+3,hu=>simp[ktC] at hu) (by
  intro u hu
  simp only[ktC,List.mem_cons,List.not_mem_nil,or_false] at hu
  rcases hu with rfl|rfl|rfl <;> rfl) (by omega) (by omega) (Nat.zero_le _)
 refine⟨v',w',hr,?_,h3,h4⟩
 exact xoJ h2 (by simp) (by rw[xj1];rfl)
def xyr:Value→Option (DataW Value × List MemPlace)
 | .slice a n c=>some (.held (.slice a n c),[])
 | _=>none
def xoi:Value:=.slice none 0 0
theorem xyA:Maps.Keyed Tryz.prog 3:=Maps.int_keyed Tryz.underlying3
theorem xyw {k:Int} (h:(Lit.int .i64 k).wf=true):keyOf Tryz.prog 3 (.int .i64 k)=some (.int .i64 k):=Maps.keyOf_int_mk Tryz.underlying3 h
theorem xxw (w:World):(zeroValue 318).run Tryz.prog w=.ok xoi w:=by
 have h:((Tryz.prog.info? 318).map (·.zero))=some (some xoi):=by kernel_rfl
 cases hq:Tryz.prog.info? 318 with
 | none=>simp[hq] at h
 | some i =>
  have hz:i.zero=some xoi:=by simpa[hq] using h
  simp[zeroValue,typeInfo,hq,hz]
def xfl (w:World) (mb n:Nat) (G:Int→Value):Prop:=∃ D:DataW Value,w.ownsMap Tryz.prog 3 xyr mb n D∧∀ k,(Lit.int .i64 k).wf=true→D.atKey (.int .i64 k) (.held xoi)=.held (G k)
theorem xfl.keep {w w':World} {mb n:Nat} {G:Int→Value} (h:xfl w mb n G) (hk:w'.heap[mb]?=w.heap[mb]?):xfl w' mb n G:=by
 obtain⟨D,⟨es,clock,hb,r⟩,hG⟩:=h
 exact⟨D,⟨es,clock,hk.trans hb,r⟩,hG⟩
theorem xfl.lt {w:World} {mb n:Nat} {G:Int→Value} (h:xfl w mb n G):mb<w.heap.size:=by
 obtain⟨D,h,_⟩:=h
 exact h.lt
theorem xfl.below {w w':World} {mb n:Nat} {G:Int→Value} (h:xfl w mb n G) (hb:Below w.heap.size w w'):xfl w' mb n G:=h.keep (hb.block mb h.lt)
theorem xfl.block {w:World} {mb n:Nat} {G:Int→Value} (h:xfl w mb n G):∃ es clock,w.heap[mb]?=some (.map es clock):=by
 obtain⟨D,⟨es,clock,hb,_⟩,_⟩:=h
 exact⟨es,clock,hb⟩
theorem xuQ {v:Value} {y:DataW Value × List MemPlace} (h:xyr v=some y):(∃ a n c,v=.slice a n c)∧y=(.held v,[]):=by
 cases v <;> simp[xyr] at h
 exact⟨⟨_,_,_,rfl⟩,h.symm⟩
theorem xfl.look {w:World} {mb n:Nat} {G:Int→Value} (h:xfl w mb n G) (k:Int) (hk:(Lit.int .i64 k).wf=true):(Instr.lookup 319 (.map (some mb)) (.int .i64 k) false).run Tryz.prog w=.ok (G k) w:=by
 obtain⟨D,hD,hG⟩:=h
 obtain⟨v,ps,hrun,hv⟩:=hD.lookup xyA Tryz.underlying319 (xxw w) (zd:=.held xoi) (zp:=[]) rfl (xyw hk)
 rw[hG k hk] at hv
 obtain⟨_,he⟩:=xuQ hv
 injection he with h1 h2
 injection h1 with h1
 rw[hrun,h1]
theorem xi5 (w:World) (k:Int) (hk:(Lit.int .i64 k).wf=true):(Instr.lookup 319 (.map none) (.int .i64 k) false).run Tryz.prog w=.ok xoi w:=by
 have h:=Maps.look_nil (w:=w) (P:=Tryz.prog) false xyA Tryz.underlying319 (xxw w) (xyw hk)
 simpa using h
def xv7 (G:Int→Value) (k:Int) (v:Value):Int→Value:=fun j=>if j=k then v else G j
theorem xiB (G:Int→Value) (k:Int) (v:Value):xv7 G k v k=v:=by simp[xv7]
theorem xnD (G:Int→Value) (k j:Int) (v:Value) (h:j≠k):xv7 G k v j=G j:=by simp[xv7,h]
theorem xfl.put {w:World} {mb n:Nat} {G:Int→Value} (h:xfl w mb n G) (hn:n<maxLen) (k:Int) (hk:(Lit.int .i64 k).wf=true) (v:Value) (hv:∃ a n c,v=.slice a n c) :
  ∃ w',(Instr.mapUpdate 319 (.map (some mb)) (.int .i64 k) v).run Tryz.prog w=.ok () w'∧xfl w' mb (n+1) (xv7 G k v)∧w.grownBy w' (some mb):=by
 obtain⟨D,hD,hG⟩:=h
 obtain⟨a,m,c,rfl⟩:=hv
 obtain⟨w',hrun,hD',hgr⟩:=hD.update xyA Tryz.underlying319 hn (xyw hk) (val:=.slice a m c) (d:=.held (.slice a m c)) (ps:=[]) rfl
 refine⟨w',hrun,⟨_,hD',fun j hj=>?_⟩,hgr⟩
 by_cases e:j=k
 ·subst e
  rw[xiB]
  exact Maps.atKey_put_same hD.isMap (xyA.key (xyw hk)) _ _
 ·rw[xnD G k j _ e,← hG j hj]
  exact Maps.atKey_put_other (by intro h;injection h with _ h;exact e h) _ _
theorem xfl.made (w:World):xfl (w.alloc (.map #[] 0)) w.heap.size 0 (fun _=>xoi):=⟨_,World.ownsMap_made w Tryz.prog 3 xyr,fun k _=>rfl⟩
structure PoolAt (w:World) (pb:Nat) (va vm:Value) (G:Int→Value) (l:List ByteArray):Prop where
 good:GoodP l
 two:Two w pb va vm
 all:xcM w 0 va (plc l 0)
 map:(vm=.map none∧l=[]∧∀ k,G k=xoi)∨∃ mb,vm=.map (some mb)∧xfl w mb l.length G
 grps:∀ k,xcM w 0 (G k) (grp k (plc l 0))
 n1:va.ownBlock≠some pb
 n2:∀ k,(G k).ownBlock≠some pb
 n3:∀ k g,(G k).ownBlock=some g→va.ownBlock≠some g
 n4:∀ k j g,(G k).ownBlock=some g→(G j).ownBlock=some g→k=j
 n5:∀ mb,vm=.map (some mb)→mb≠pb
def xuo (pb:Nat) (va vm:Value) (G:Int→Value) (b:Nat):Prop:=b=pb∨va.ownBlock=some b∨vm=.map (some b)∨∃ k,(G k).ownBlock=some b
theorem PoolAt.lt {w:World} {pb:Nat} {va vm:Value} {G:Int→Value} {l:List ByteArray} (h:PoolAt w pb va vm G l):∀ b,xuo pb va vm G b→b<w.heap.size:=by
 rintro b (rfl|hb|rfl|⟨k,hb⟩)
 ·exact h.two.lt
 ·exact(h.all.lt b hb).2
 ·rcases h.map with ⟨e,_⟩|⟨mb,e,hm⟩
  ·cases e
  ·cases e;exact hm.lt
 ·exact((h.grps k).lt b hb).2
theorem PoolAt.keep {w w':World} {pb:Nat} {va vm:Value} {G:Int→Value} {l:List ByteArray} (h:PoolAt w pb va vm G l) (hk:∀ b,xuo pb va vm G b→w'.heap[b]?=w.heap[b]?):PoolAt w' pb va vm G l:=by
 have hp:=hk pb (.inl rfl)
 obtain⟨t0,t1,t2,t3⟩:=h.two
 refine⟨h.good,⟨(World.cell?_of_block (a:=⟨pb,0,none⟩) hp).trans t0,(World.cell?_of_block (a:=⟨pb,1,none⟩) hp).trans t1,(World.frozen?_of_block (a:=⟨pb,0,none⟩) hp).trans t2,(World.frozen?_of_block (a:=⟨pb,1,none⟩) hp).trans t3⟩,h.all.keep (fun b hb=>hk b (.inr (.inl hb))),?_,fun k=>(h.grps k).keep (fun b hb=>hk b (.inr (.inr (.inr ⟨k,hb⟩)))),h.n1,h.n2,h.n3,h.n4,h.n5⟩
 rcases h.map with e|⟨mb,e,hm⟩
 ·exact .inl e
 ·exact .inr ⟨mb,e,hm.keep (hk mb (.inr (.inr (.inl e))))⟩
theorem PoolAt.below {w w':World} {pb:Nat} {va vm:Value} {G:Int→Value} {l:List ByteArray} (h:PoolAt w pb va vm G l) (hb:Below w.heap.size w w'):PoolAt w' pb va vm G l :=
 h.keep (fun b hS=>hb.block b (h.lt b hS))
theorem PoolAt.look {w:World} {pb:Nat} {va vm:Value} {G:Int→Value} {l:List ByteArray} (h:PoolAt w pb va vm G l) (k:Int) (hk:(Lit.int .i64 k).wf=true):(Instr.lookup 319 vm (.int .i64 k) false).run Tryz.prog w=.ok (G k) w:=by
 rcases h.map with ⟨rfl,_,hG⟩|⟨mb,rfl,hm⟩
 ·rw[hG k];exact xi5 w k hk
 ·exact hm.look k hk
theorem xoO {w:World} {mb n:Nat} {G:Int→Value} (h:xfl w mb n G) {B:Nat} {v:Value} {l:List Kt} (hv:xcM w B v l):v.ownBlock≠some mb:=by
 intro e
 obtain⟨es,clock,h1⟩:=h.block
 obtain⟨cur,T,fz,h2⟩:=hv.cells e
 rw[h1] at h2
 cases h2
theorem wf_i64 {k:Int} (h0:-9223372036854775808≤k) (h1:k≤9223372036854775807):(Lit.int .i64 k).wf=true:=WalkArith.wf_i64 ⟨h0,h1⟩
def xgH (w:World) (v:Value) (l:List ByteArray) (S:Nat→Prop):Prop:=∃ pb va vm G,v=.pointer (some ⟨pb,0,none⟩)∧PoolAt w pb va vm G l∧∀ b,S b↔xuo pb va vm G b
theorem xgH.good {w:World} {v:Value} {l:List ByteArray} {S:Nat→Prop} (h:xgH w v l S):GoodP l:=by
 obtain⟨pb,va,vm,G,rfl,h,_⟩:=h
 exact h.good
theorem xgH.lt {w:World} {v:Value} {l:List ByteArray} {S:Nat→Prop} (h:xgH w v l S):∀ b,S b→b<w.heap.size:=by
 obtain⟨pb,va,vm,G,rfl,h,hS⟩:=h
 exact fun b hb=>h.lt b ((hS b).1 hb)
theorem xgH.keep {w w':World} {v:Value} {l:List ByteArray} {S:Nat→Prop} (h:xgH w v l S) (hs:w.heap.size≤w'.heap.size) (hk:∀ b,S b→w'.heap[b]?=w.heap[b]?):xgH w' v l S:=by
 obtain⟨pb,va,vm,G,rfl,h,hS⟩:=h
 exact⟨pb,va,vm,G,rfl,h.keep (fun b hb=>hk b ((hS b).2 hb)),hS⟩
theorem xgY (s:ByteArray) (w:World) (hs:s.size≤281474976710656):Calls Tryz.prog 115 #[.string s] w fun e w'=>e=.returned (.string s)∧Below w.heap.size w w':=by
 have HC:=lH (fun W=>clo_any s W hs)
 go_enter Tryz.func115,Tryz.ntmps115
 go_wp2_with fail
 refine(HC.out _).mono ?_
 rintro e w1 ⟨rfl,hb⟩
 have HB:=lH hb
 clear hb
 go_wp2_with fail
 go_ret
 exact⟨rfl,HB.out⟩
theorem xkP {fn:Func} {p:Tmp} {ty:TypeId} (h:fn.results=#[.cell p ty]) (tmps:Array Value) (w:World) (g:Nat) (x y:Value) (d:TypeDesc) (hp:tmps.getD p undef=.pointer (some ⟨g,0,none⟩)) (c0:w.cell? ⟨g,0,none⟩=some x) (c1:w.cell? ⟨g,1,none⟩=some y)
  (hu:Tryz.prog.underlying ty=some d) (hd:(match d with|.struct _|.array _ _=>true|_=>false)=true) (hi:(Tryz.prog.info? ty).map (·.size)=some 2) :
  (results fn tmps).run Tryz.prog w=.ok (.agg #[x,y]) w:=by
 have hl:=xfu w g ty x y d c0 c1 hu hd hi
 have hp':tmps[p]?.getD undef=.pointer (some ⟨g,0,none⟩):=by simpa using hp
 simp[results,h,hp',asAddr,hl]
theorem xfd {ops:Array Oper} {o:Oper} {a:Act} {w:World} {K:Act→World→Prop} {Q:Exit→Act→World→Prop} {E:Prop}
  (hg:o.guard=none) (s x:Operand) (hop:o.op=Op.call { callee:=Callee.builtin Builtin.append,args:=#[s,x],argTypes:=#[318,318] })
  (v:Value) (L:List Kt) (t:Kt) (g c:Nat) (hown:xcM w 0 v L) (h3:xc2 w g t) (hl:L.length≤1000000) (hs:a.eval s=v) (hx:a.eval x=.slice (some ⟨g,0,none⟩) 1 c)
  (hK:∀ v' w',xcM w' 0 v' (L++[t])→w.grownBy w' v.ownBlock→(v'.ownBlock=v.ownBlock∨∃ g,v'.ownBlock=some g∧w.heap.size≤g)→K (a.put o.dst v') w') :
  if Region.wanted o (yielded ops a.tmps)=true then Oper.wp Tryz.prog o a w K Q else E:=by
 have hw:Region.wanted o (yielded ops a.tmps)=true:=by simp[Region.wanted,hg]
 rw[if_pos hw]
 obtain⟨v',w',hrun,h1,h2,h4⟩:=xku w o.type v L t g c hown h3 hl
 unfold Oper.wp
 simp[execOp,hop,resolve,invoke,builtin,hs,hx,hrun,Result.andThen]
 exact hK v' w' h1 h2 h4
structure MidL (w W:World) (pb rb kb mb:Nat) (va vm:Value) (G:Int→Value) (l:List ByteArray) (s:ByteArray):Prop where
 two:Two W pb va (.map (some mb))
 all:xcM W 0 va (plc l 0)
 map:xfl W mb l.length G
 grps:∀ k,xcM W 0 (G k) (grp k (plc l 0))
 kt:xc2 W kb (xrQ l,s)
 rs:Two W rb (.int .u64 0) (.int .u32 0)
 lr:w.heap.size≤rb
 lk:w.heap.size≤kb
 nk:rb≠kb
 nm:mb≠pb
 om:vm=.map (some mb)∨w.heap.size≤mb
 la:∀ g,va.ownBlock=some g→g<w.heap.size
 lg:∀ k g,(G k).ownBlock=some g→g<w.heap.size
 kept:Kept (xuo pb va vm G) (xuo pb va vm G) w W
theorem MidL.below {w W X:World} {pb rb kb mb:Nat} {va vm:Value} {G:Int→Value} {l:List ByteArray} {s:ByteArray} (h:MidL w W pb rb kb mb va vm G l s) (hb:Below W.heap.size W X):MidL w X pb rb kb mb va vm G l s :=
 ⟨h.two.below hb,h.all.below hb,h.map.below hb,fun k=>(h.grps k).below hb,h.kt.below hb,h.rs.below hb,h.lr,h.lk,h.nk,h.nm,h.om,h.la,h.lg,h.kept.trans (Kept.below _ hb)⟩
structure Mid2 (w W:World) (pb rb kb mb:Nat) (va vm va':Value) (G:Int→Value) (l:List ByteArray) (s:ByteArray):Prop where
 two:Two W pb va' (.map (some mb))
 all:xcM W 0 va' (plc l 0++[(xrQ l,s)])
 map:xfl W mb l.length G
 grps:∀ k,xcM W 0 (G k) (grp k (plc l 0))
 kt:xc2 W kb (xrQ l,s)
 rs:Two W rb (.int .u64 0) (.int .u32 0)
 oa:va'.ownBlock=va.ownBlock∨∃ g,va'.ownBlock=some g∧w.heap.size≤g∧g≠rb∧g≠kb∧g≠mb∧g≠pb
 kept:Kept (xuo pb va vm G) (xuo pb va vm G) w W
theorem Mid2.below {w W X:World} {pb rb kb mb:Nat} {va vm va':Value} {G:Int→Value} {l:List ByteArray} {s:ByteArray} (h:Mid2 w W pb rb kb mb va vm va' G l s) (hb:Below W.heap.size W X):Mid2 w X pb rb kb mb va vm va' G l s :=
 ⟨h.two.below hb,h.all.below hb,h.map.below hb,fun k=>(h.grps k).below hb,h.kt.below hb,h.rs.below hb,h.oa,h.kept.trans (Kept.below _ hb)⟩
theorem Two.keep {w w':World} {g:Nat} {x y:Value} (h:Two w g x y) (hk:w'.heap[g]?=w.heap[g]?):Two w' g x y :=
 ⟨(World.cell?_of_block (a:=⟨g,0,none⟩) hk).trans h.1,(World.cell?_of_block (a:=⟨g,1,none⟩) hk).trans h.2.1,(World.frozen?_of_block (a:=⟨g,0,none⟩) hk).trans h.2.2.1,(World.frozen?_of_block (a:=⟨g,1,none⟩) hk).trans h.2.2.2⟩
theorem xc2.keep {w w':World} {g:Nat} {t:Kt} (h:xc2 w g t) (hk:w'.heap[g]?=w.heap[g]?):xc2 w' g t :=
 ⟨(World.cell?_of_block (a:=⟨g,0,none⟩) hk).trans h.1,(World.cell?_of_block (a:=⟨g,1,none⟩) hk).trans h.2.1,(World.cell?_of_block (a:=⟨g,2,none⟩) hk).trans h.2.2⟩
theorem xlY (S:Nat→Prop) (w:World) (p:Addr) (v:Value) (hp:S p.block):Kept S S w (w.setCell p v) :=
 ⟨rfl,rfl,rfl,by simp,fun b hb hn=>Below.heap_setCell _ _ _ _ (by intro e;subst e;exact hn hp),fun _ h=>.inl h⟩
theorem xnw (S:Nat→Prop) {w w':World} {row:Option Nat} (hg:w.grownBy w' row) (hr:∀ k,row=some k→S k∨w.heap.size≤k):Kept S S w w' :=
 ⟨hg.os,hg.tape,hg.output,hg.size,fun b hb hn=>hg.block b hb (fun e=>by rcases hr b e.symm with h|h;exact hn h;omega),fun _ h=>.inl h⟩
theorem xcM.form3 {w:World} {B:Nat} {v:Value} {l:List Kt} (h:xcM w B v l):∃ a n c,v=.slice a n c:=by
 obtain⟨a,c,e⟩:=h.slice
 exact⟨_,_,_,e⟩
theorem Kept.set2 {S S':Nat→Prop} {w w':World} (h:Kept S S' w w') (r:Nat) (hr:w.heap.size≤r) (x y:Value):Kept S S' w ((w'.setCell ⟨r,0,none⟩ x).setCell ⟨r,1,none⟩ y) :=
 ⟨h.os,h.tape,h.output,by simpa using h.size,fun b hb hn=>by rw[Below.heap_setCell _ _ _ _ (by simp;omega),Below.heap_setCell _ _ _ _ (by simp;omega)];exact h.same b hb hn,h.own⟩
theorem PoolAt.set2 {w:World} {pb:Nat} {va vm:Value} {G:Int→Value} {l:List ByteArray} (h:PoolAt w pb va vm G l) (r:Nat) (hr:¬ xuo pb va vm G r) (x y:Value):PoolAt ((w.setCell ⟨r,0,none⟩ x).setCell ⟨r,1,none⟩ y) pb va vm G l :=
 h.keep (fun b hb=>by rw[Below.heap_setCell _ _ _ _ (by intro e;simp at e;subst e;exact hr hb),Below.heap_setCell _ _ _ _ (by intro e;simp at e;subst e;exact hr hb)])
end Go.Proofs.YtjinnigjfopbcaaGreatDoor
namespace Go.Proofs.YtjinnigjfopbcaaGreatDoor
set_option linter.unusedVariables false
set_option linter.unusedSimpArgs false
def p2:Nat→Int
 | 0=>1
 | k+1=>2*p2 k
def p4:Nat→Int
 | 0=>1
 | k+1=>4*p4 k
theorem xqw (k:Nat):1≤p4 k:=by
 induction k with
 | zero=>simp[p4]
 | succ k ih=>simp only[p4];omega
def hpl:Nat→Int→Int→Int
 | 0,_,_=>0
 | k+1,x,y=>if x<p2 k then (if y<p2 k then hpl k y x else p4 k+hpl k x (y - p2 k)) else if p2 k≤y then 2*p4 k+hpl k (x - p2 k) (y - p2 k) else 3*p4 k+hpl k (p2 k - 1 - y) (p2 k - 1 - (x - p2 k))
def bas:Nat→Int
 | 0=>0
 | k+1=>bas k+p4 k
theorem xoM (k:Nat):3*bas k+1=p4 k:=by
 induction k with
 | zero=>rfl
 | succ k ih=>simp only[bas,p4];omega
theorem xl3 (a b:Nat) (h:a≤b):bas a≤bas b:=by
 induction h with
 | refl=>exact Int.le_refl _
 | step h ih=>rename_i m;simp only[bas];have:=xqw m;omega
theorem xw1 (k:Nat):0≤bas k:=xl3 0 k (Nat.zero_le _)
theorem xpu:bas 27=6004799503160661:=by decide
def zof:Nat→Int→Int
 | 0,_=>-1
 | k+1,d=>if bas k≤d∧d<bas (k+1) then k else zof k d
theorem xun (n k:Nat) (d:Int) (h:k<n) (h0:bas k≤d) (h1:d<bas (k+1)):zof n d=k:=by
 induction n with
 | zero=>omega
 | succ n ih =>
  rw[zof]
  by_cases e:k=n
  ·subst e;rw[if_pos ⟨h0,h1⟩]
  ·rw[if_neg,ih (by omega)]
   intro hh
   have:=xl3 (k+1) n (by omega)
   omega
theorem xyb (n:Nat) (d:Int) (h:¬ (0≤d∧d<bas n)):zof n d=-1:=by
 induction n with
 | zero=>rfl
 | succ n ih =>
  have:=xqw n
  have:=xw1 n
  rw[zof,if_neg,ih]
  ·simp only[bas] at h;omega
  ·simp only[bas] at h ⊢;omega
theorem xx6 (n:Nat) (d:Int) (h0:0≤d) (h1:d<bas n):∃ k,k<n∧bas k≤d∧d<bas (k+1)∧zof n d=k:=by
 induction n with
 | zero=>simp only[bas] at h1;omega
 | succ n ih =>
  by_cases h:d<bas n
  ·obtain⟨k,a,b,c,e⟩:=ih h
   exact⟨k,by omega,b,c,xun (n+1) k d (by omega) b c⟩
  ·exact⟨n,by omega,by omega,h1,xun (n+1) n d (by omega) (by omega) h1⟩
end Go.Proofs.YtjinnigjfopbcaaGreatDoor
