/- bRn bMB. -/
import Derived.Test.YtjkgkmmkehnggaaGreatDoorYs
import Derived.Test.YtjkgkmmkehnggaaGreatDoorYa4
import Derived.Lib.SlBytesConst
set_option maxHeartbeats 16000000
namespace Go.Proofs.YtjkgkmmkehnggaaGreatDoor
set_option linter.unusedVariables false
set_option linter.unusedSimpArgs false
open Go.RowKit Go.Shelf
set_option maxRecDepth 20000
def xmk (S:Nat→Prop) (l:List En) (v:Value):Prop:=l≠[]→∀ a n c,v=.slice (some a) n c→¬ S a.block
theorem xgC {W:World} {v:Value} {l:List En} (he:xam W v l) (hl:l≠[]) {a:Addr} {n c:Nat} (hv:v=.slice (some a) n c):a.block<W.heap.size:=by
 obtain⟨a',cap,rfl,h1,h2,hc⟩:=he
 obtain⟨g,off,ha,hg,_⟩:=hc 0 _ (List.getElem?_eq_getElem (List.length_pos_iff.2 hl))
 cases hv
 cases ha
 exact hg
theorem KeepsS.ens {S S':Nat→Prop} {W W':World} (h:KeepsS S S' W W') {v:Value} {l:List En} (hv:xmk S l v) (he:xam W v l):xam W' v l:=by
 obtain⟨a,cap,rfl,h1,h2,hc⟩:=he
 refine⟨a,cap,rfl,h1,h2,fun k t ht=>?_⟩
 obtain⟨g,off,rfl,hg,c0,c1,c2,c3⟩:=hc k t ht
 have hn:¬ S g:=hv (fun h=>by rw[h] at ht;simp at ht) _ _ _ rfl
 exact⟨g,off,rfl,Nat.lt_of_lt_of_le hg h.size,h.cell hn c0,h.cell hn c1,h.cell hn c2,h.cell hn c3⟩
def xaE {β:Type} (T:Nat→Prop) (B:Nat) (J:β→World→Prop):Prop :=
 ∀ s X Y row,J s X→X.grownBy Y row→(∀ r,row=some r→T r∨(B≤r∧∃ o:Obj,X.heap[r]?=some o∧o.isCells=false))→J s Y
abbrev xbR (T:Nat→Prop) (B:Nat) (J:Nat→(Nat→Prop)→World→Prop):Prop:=xaE T B (fun(s:Nat × (Nat→Prop))=>J s.1 s.2)
theorem xaE.mono {β:Type} {T:Nat→Prop} {B B':Nat} {J:β→World→Prop} (h:xaE T B J) (hB:B≤B'):xaE T B' J:=fun s X Y row hs hg hr =>
 h s X Y row hs hg (fun r e=>(hr r e).imp id (fun h=>⟨Nat.le_trans hB h.1,h.2⟩))
theorem xaE.and {β:Type} {T:Nat→Prop} {B:Nat} {J J':β→World→Prop} (h:xaE T B J) (h':xaE T B J'):xaE T B (fun s W=>J s W∧J' s W):=fun s X Y row hs hg hr=>⟨h s X Y row hs.1 hg hr,h' s X Y row hs.2 hg hr⟩
theorem xaE.put {β:Type} {T:Nat→Prop} {B:Nat} {J:β→World→Prop} (h:xaE T B J) {s:β} {W:World} (hs:J s W) {l:Nat} {o:Obj} (o':Obj) (hB:B≤l) (hl:W.heap[l]?=some o) (ho:o.isCells=false):J s (W.putObj l o') :=
 h s W _ (some l) hs (grownBy_putObj' W l o') (fun r e=>by cases e;exact .inr ⟨hB,o,hl,ho⟩)
theorem xaE.grow {β:Type} {T:Nat→Prop} {B:Nat} {J:β→World→Prop} (h:xaE T B J) {s:β} {W W':World} (hs:J s W) (hb:Below W.heap.size W W'):J s W' :=
 h s W W' none hs ⟨hb.os,hb.tape,hb.output,hb.size,fun k hk _=>hb.block k hk⟩ (fun r e=>by cases e)
theorem xaE.alloc {β:Type} {T:Nat→Prop} {B:Nat} {J:β→World→Prop} (h:xaE T B J) {s:β} {W:World} (hs:J s W) (o:Obj):J s (W.alloc o):=h.grow hs ((Below.refl _ W).alloc (Nat.le_refl _) o)
theorem xbf {β:Type} {T:Nat→Prop} {n₀ B:Nat} {w₀:World} (h0:n₀≤w₀.heap.size) (hB:n₀≤B) (hT:∀ r,T r→n₀≤r):xaE T B (fun(_:β) W=>Below n₀ w₀ W):=fun s X Y row hs hg hr =>
 ⟨hg.os.trans hs.os,hg.tape.trans hs.tape,hg.output.trans hs.output,Nat.le_trans hs.size hg.size,fun k hk=>by
  refine(hg.block k ?_ (fun e=>?_)).trans (hs.block k hk)
  ·have:=hs.size;omega
  ·rcases hr k e.symm with h|h
   ·have:=hT k h;omega
   ·omega⟩
theorem xiW {T S1:Nat→Prop} {B:Nat} {X:World} (hB:X.heap.size≤B) (hT:∀ r,T r→X.heap.size≤r):xbR T B (fun _ S W=>KeepsS S1 S X W):=fun s Y Z row hs hg hr =>
 ⟨Nat.le_trans hs.size hg.size,fun b o hb ho=>by
  have hY:=hs.same b o hb ho
  have hX:=xat ho
  refine(hg.block b (xat hY) (fun e=>?_)).trans hY
  rcases hr b e.symm with h|h
  ·have:=hT b h;omega
  ·omega,hs.own⟩
def xfM (P:Program) (g:Nat) (lb:Array Value) (encs:Nat→Array Value) (N:Nat) (T V:Nat→Prop) (G:Nat→World→Prop) (Z:World→Prop) (w:World):Prop :=
 ∀ (n l:Nat) (J:Nat→(Nat→Prop)→World→Prop) (Jx:Nat→World→Prop) (S0:Nat→Prop) (W:World),Below w.heap.size w W →
  xbR T W.heap.size J→xaE T W.heap.size Jx→(∀ k S W1,J k S W1→G k W1∧∀ b,S b→b<W1.heap.size)→(∀ b,S0 b→b<W.heap.size∧¬ V b) →
  (∀ k S W1,J k S W1→k<N→YieldAt Fence.wide (n - 1) P l (encs k) W1 fun e W'=>(e=.returned (.bool true)∧∃ S',J (k+1) S' W'∧KeepsS S S' W1 W')∨(e=.returned (.bool false)∧Jx (k+1) W'∧∃ S',KeepsS S S' W1 W')) →
  J 0 S0 W→CallsIn Fence.wide n P g (#[.func (.yield l) #[] #[]]++lb) W fun e W'=>(∃ v,e=.returned v)∧((∃ S',J N S' W'∧Z W')∨∃ k,k≤N∧Jx k W')
def xnH (P:Program) (g:Nat) (lb:Array Value) (encs:Nat→Array Value) (N:Nat) (T V:Nat→Prop) (G:Nat→World→Prop) (Y:Nat→World→Prop) (Z:World→Prop) (w:World):Prop :=
 ∀ (n l:Nat) (J:Nat→(Nat→Prop)→World→Prop) (Jx:Nat→World→Prop) (S0:Nat→Prop) (W:World),Below w.heap.size w W →
  xbR T W.heap.size J→xaE T W.heap.size Jx→(∀ k S W1,J k S W1→G k W1∧∀ b,S b→b<W1.heap.size)→(∀ b,S0 b→b<W.heap.size∧¬ V b) →
  (∀ k S W1,J k S W1→Y k W1→k<N→YieldAt Fence.wide (n - 1) P l (encs k) W1 fun e W'=>(e=.returned (.bool true)∧∃ S',J (k+1) S' W'∧KeepsS S S' W1 W')∨(e=.returned (.bool false)∧Jx (k+1) W'∧∃ S',KeepsS S S' W1 W')) →
  J 0 S0 W→CallsIn Fence.wide n P g (#[.func (.yield l) #[] #[]]++lb) W fun e W'=>(∃ v,e=.returned v)∧((∃ S',J N S' W'∧Z W')∨∃ k,k≤N∧Jx k W')
theorem xfM.toY {P:Program} {g:Nat} {lb:Array Value} {encs:Nat→Array Value} {N:Nat} {T V:Nat→Prop} {G:Nat→World→Prop} {Z:World→Prop} {w:World} (h:xfM P g lb encs N T V G Z w):xnH P g lb encs N T V G (fun _ _=>True) Z w :=
 fun n l J Jx S0 W hW hJ hJx hG hS0 hY h0=>h n l J Jx S0 W hW hJ hJx hG hS0 (fun k S W1 hj hk=>hY k S W1 hj trivial hk) h0
theorem xj7 {n:Nat} {P:Program} {w:World} {a:Act} {Q:Exit→Act→World→Prop} {g:Operand} {ps:Array Tmp} {assign body:Code}
  {gf:Nat} {lb:Array Value} (hg:a.eval g=.func (.func gf) #[] lb) (eg:∀ args w,(callFunc gf args).run P w=.ok (.enter gf args) w)
  {encs:Nat→Array Value} {N:Nat} {T V:Nat→Prop} {G:Nat→World→Prop} {Y:Nat→World→Prop} {Z:World→Prop} {w0:World} (hseq:xnH P gf lb encs N T V G Y Z w0) (hb0:Below w0.heap.size w0 w)
  (hT:∀ r,T r→r<w.heap.size) (hV:∀ r,V r→r<w.heap.size) (hps:∀ k,(encs k).size=ps.size)
  (I:Nat→(Nat→Prop)→World→Prop) (Ix:Code→Nat→World→Prop) (hI:xbR T w.heap.size I) (hIx:∀ c,xaE T w.heap.size (Ix c)) (hG:∀ k S W,I k S W→G k W∧∀ b,S b→b<W.heap.size)
  (S0:Nat→Prop) (hS0:∀ b,S0 b→b<w.heap.size∧¬ V b) (h0:I 0 S0 w) (hZ:∀ (W:World) (l:Nat) (o o':Obj),Z W→w.heap.size≤l→W.heap[l]?=some o→o.isCells=false→Z (W.putObj l o'))
  (hYp:∀ (k:Nat) (W:World) (l:Nat) (o o':Obj),Y k W→w.heap.size≤l→W.heap[l]?=some o→o.isCells=false→Y k (W.putObj l o')) (Ax:Nat→Act→World→Prop) (hAx:∀ k a',xaE T w.heap.size (fun(_:Unit) W=>Ax k a' W))
  (hassign:∀ (l k:Nat) (S:Nat→Prop) (W:World) (K:Act→World→Prop),I k S W→Y k W→k<N→(∀ a' W' S',I k S' W'→Y k W'→KeepsS S S' W W'→Ax k a' W'→K a' W') →
   assign.wpIn (Fence.wide.inRound l) (n - 1 - 1) P (Exit.then K (fun _ _ _=>False)) { tmps:=(ps.zip (encs k)).foldl (fun t (p,v)=>t.setIfInBounds p v) a.tmps,defers:=[] } W)
  (hbody:∀ (l k:Nat) (S:Nat→Prop) (a':Act) (W:World),w.heap.size≤l→I k S W→Y k W→Ax k a' W→k<N→body.wpIn (Fence.wide.inRound l) (n - 1 - 1) P (xrE I Ix (k+1) S W) a' W)
  (hdone:∀ (D:Nat) (S:Nat→Prop) (W:World),w.heap.size≤D→¬ S D→I N S W→Z W→W.heap[D]?=some (.deferred (some []))→Q .normal (xgF D a) W)
  (hstop:∀ (D:Nat) (c:Code) (k:Nat) (W:World),w.heap.size≤D→k≤N→Ix c k W→W.heap[D]?=some (.deferred (some []))→c.wpIn Fence.wide n P Q (xgF D a) W) :
  (Code.rangeFunc g ps assign body).wpIn Fence.wide n P Q a w:=by
 refine wpIn_rangeFunc fun fn hfn=>?_
 -- the record of the loop,and the world in which the iterator is called
 generalize hL:w.heap.size+1=L
 have hD:w.heap.size<L:=by omega
 let rec0:LoopState→Option Code→Loop:=fun st pe=>{ state:=st,pending:=pe,fn,tmps:=a.tmps,params:=ps,assign,body,defers:=w.heap.size }
 have hrec:rec0=fun st pe=>{ state:=st,pending:=pe,fn,tmps:=a.tmps,params:=ps,assign,body,defers:=w.heap.size }:=rfl
 generalize rec0=rec at hrec
 have hnew:Below w.heap.size w ((w.alloc (.deferred (some []))).alloc (.loop (rec .ready none))):=((Below.refl _ w).alloc (Nat.le_refl _) _).alloc (by simp) _
 have e1:((w.alloc (.deferred (some []))).alloc (.loop (rec .ready none))).heap[L]?=some (.loop (rec .ready none)):=by
  have:=World.alloc_heap_new (w.alloc (.deferred (some []))) (.loop (rec .ready none))
  rwa[World.size_alloc,hL] at this
 have e2:((w.alloc (.deferred (some []))).alloc (.loop (rec .ready none))).heap[w.heap.size]?=some (.deferred (some [])) :=
  (Below.heap_alloc _ _ _ (by simp)).trans (World.alloc_heap_new w _)
 have e3:((w.alloc (.deferred (some []))).alloc (.loop (rec .ready none))).heap.size=L+1:=by simp;omega
 have e4:(Instr.enterLoop fn a.tmps ps assign body Fence.wide.round).run P w=.ok (L,[{ target:=.collected w.heap.size,args:=#[] }]) ((w.alloc (.deferred (some []))).alloc (.loop (rec .ready none))):=by
  rw[hrec,← hL];exact run_enterLoop_outer _ _ _ _ _
 generalize (w.alloc (.deferred (some []))).alloc (.loop (rec .ready none))=W1 at hnew e1 e2 e3 e4
 refine⟨L,_,W1,{ target:=.fn (.func gf) lb,args:=#[.func (.yield L) #[] #[]] },W1,gf,#[.func (.yield L) #[] #[]]++lb,W1,e4,?_,fun _ _=>trivial,?_,fun h=>absurd h (by simp[Fence.wide]),?_⟩
 ·simp only[resolve,hg];simp[go_sem]
 ·simp[invoke,go_sem,eg]
 have hmonoI:xbR T (L+1) I:=hI.mono (by omega)
 refine(hseq (n - 1) L
  (fun k S W=>∃ S1,(∀ b,S b↔(S1 b∨b=L))∧I k S1 W∧(¬ S1 L∧¬ S1 w.heap.size)∧W.heap[L]?=some (.loop (rec .ready none))∧W.heap[w.heap.size]?=some (.deferred (some [])))
  (fun k W=>∃ c,Ix c k W∧W.heap[L]?=some (.loop (rec .done (some c)))∧W.heap[w.heap.size]?=some (.deferred (some [])))
  (fun b=>S0 b∨b=L) W1 (hb0.trans (hnew.mono hb0.size)) ?_ ?_ ?_ ?_ ?_ ?_).mono ?_
 ·rintro⟨k,S⟩ X Y row ⟨S1,hS,hi,hl,h1,h2⟩ hgr hr
  refine⟨S1,hS,hmonoI (k,S1) X Y row hi hgr (by rw[e3] at hr;exact hr),hl,?_,?_⟩
  ·refine(hgr.block L (xat h1) (fun e=>?_)).trans h1
   rcases hr L e.symm with h|h
   ·have:=hT L h;omega
   ·omega
  ·refine(hgr.block _ (xat h2) (fun e=>?_)).trans h2
   rcases hr _ e.symm with h|h
   ·have:=hT _ h;omega
   ·omega
 ·rintro k X Y row ⟨c,hi,h1,h2⟩ hgr hr
  refine⟨c,(hIx c).mono (B':=L+1) (by omega) k X Y row hi hgr (by rw[e3] at hr;exact hr),?_,?_⟩
  ·refine(hgr.block L (xat h1) (fun e=>?_)).trans h1
   rcases hr L e.symm with h|h
   ·have:=hT L h;omega
   ·omega
  ·refine(hgr.block _ (xat h2) (fun e=>?_)).trans h2
   rcases hr _ e.symm with h|h
   ·have:=hT _ h;omega
   ·omega
 ·rintro k S W ⟨S1,hS,hi,_,hl,_⟩
  refine⟨(hG _ _ _ hi).1,fun b hb=>?_⟩
  rcases(hS b).1 hb with h|rfl
  ·exact(hG _ _ _ hi).2 b h
  ·exact xat hl
 ·rintro b (hb|rfl)
  ·have:=hS0 b hb;exact⟨by omega,this.2⟩
  ·exact⟨by omega,fun hv=>by have:=hV _ hv;omega⟩
 ·-- a round
  rintro k S W ⟨S1,hS,hi,⟨hs1,hs2⟩,hl,hk⟩ hyk hlt
  have hy:=run_yield (P:=P) (args:=encs k) hl (by rw[hrec];exact hps k)
  rw[hrec] at hy
  refine⟨fn,_,assign,body,hy,roundIn_of_wpIn hfn (hassign L k S1 W _ hi hyk hlt ?_)⟩
  clear hy
  intro a' Wa Sa hia hya hka hax
  have hla:=hka.same _ _ hs1 hl
  have hda:=hka.same _ _ hs2 hk
  have hLW:=xat hl
  have hsa1:¬ Sa L:=fun h=>by rcases hka.own _ h with h|h <;> first|exact hs1 h|omega
  have hsa2:¬ Sa w.heap.size:=fun h=>by rcases hka.own _ h with h|h <;> first|exact hs2 h|omega
  refine⟨_,run_beginRound hla (by rw[hrec]),?_⟩
  have hlb:(Wa.putObj L (.loop { rec .ready none with state:=.busy })).heap[L]?=some (.loop { rec .ready none with state:=.busy }):=World.putObj_heap_same (xat hla)
  have hdb:(Wa.putObj L (.loop { rec .ready none with state:=.busy })).heap[w.heap.size]?=some (.deferred (some [])):=(World.putObj_heap_other (by omega)).trans hda
  have hpb:∀ b,b≠L→(Wa.putObj L (.loop { rec .ready none with state:=.busy })).heap[b]?=Wa.heap[b]?:=fun b hb=>World.putObj_heap_other hb
  have hszb:(Wa.putObj L (.loop { rec .ready none with state:=.busy })).heap.size=Wa.heap.size:=by simp
  refine wpIn_mono (hbody L k Sa a' _ (by omega) (hI.put (s:=(k,Sa)) hia _ (by omega) hla rfl) (hYp k _ _ _ _ hya (by omega) hla rfl) ((hAx k a').put (s:=()) hax _ (by omega) hla rfl) hlt) ?_
  generalize Wa.putObj L (.loop { rec .ready none with state:=.busy })=Wb at hlb hdb hpb hszb
  -- what any way out leaves
  have fin:∀ (jump:Option Code) (W3:World) (S3:Nat→Prop),KeepsS Sa S3 Wb W3 →
    (Instr.endRound L jump).run P W3=.ok (.bool jump.isNone) (W3.putObj L (.loop (rec (if jump.isNone then .ready else .done) jump))) ∧
    W3.heap[L]?=some (.loop { rec .ready none with state:=.busy }) ∧
    (W3.putObj L (.loop (rec (if jump.isNone then .ready else .done) jump))).heap[L]?=some (.loop (rec (if jump.isNone then .ready else .done) jump)) ∧
    (W3.putObj L (.loop (rec (if jump.isNone then .ready else .done) jump))).heap[w.heap.size]?=some (.deferred (some []))∧(¬ S3 L∧¬ S3 w.heap.size)∧KeepsS S (fun b=>S3 b∨b=L) W (W3.putObj L (.loop (rec (if jump.isNone then .ready else .done) jump))):=by
   intro jump W3 S3 hk3
   have hl3:=hk3.same _ _ hsa1 hlb
   have hd3:=hk3.same _ _ hsa2 hdb
   have hLb:=xat hlb
   have hr3:=run_endRound (P:=P) jump hl3
   refine⟨by rw[hrec] at hr3 ⊢;exact hr3,hl3,World.putObj_heap_same (xat hl3),(World.putObj_heap_other (by omega)).trans hd3,⟨fun h=>?_,fun h=>?_⟩,?_⟩
   ·rcases hk3.own _ h with h|h <;> first|exact hsa1 h|omega
   ·rcases hk3.own _ h with h|h <;> first|exact hsa2 h|omega
   ·refine⟨?_,fun b o hb ho=>?_,fun b hb=>?_⟩
    ·have:=hka.size;have:=hk3.size;simp;omega
    ·have hb1:¬ S1 b:=fun h=>hb ((hS b).2 (.inl h))
     have hb2:b≠L:=fun h=>hb ((hS b).2 (.inr h))
     have hb3:¬ Sa b:=fun h=>by have:=xat ho;rcases hka.own _ h with h|h <;> first|exact hb1 h|omega
     refine(World.putObj_heap_other hb2).trans (hk3.same _ _ hb3 ((hpb b hb2).trans (hka.same _ _ hb1 ho)))
    ·rcases hb with hb|hb
     ·rcases hk3.own _ hb with h|h
      ·exact(hka.own _ h).imp (fun h=>(hS b).2 (.inl h)) id
      ·have:=hka.size;exact .inr (by omega)
     ·exact .inl ((hS b).2 (.inr hb))
  rintro e a3 W3 hp
  cases e with
  | normal =>
   obtain⟨S3,hi3,hk3⟩:=hp
   obtain⟨hr3,hl3,hl4,hd4,hn1,hn2⟩:=fin none W3 S3 hk3
   refine⟨_,_,hr3,.inl ⟨rfl,fun b=>S3 b∨b=L,⟨S3,fun b=>Iff.rfl,hI.put (s:=(k+1,S3)) hi3 _ (by omega) hl3 rfl,hn1,hl4,hd4⟩,hn2⟩⟩
  | ret =>
   obtain⟨hi3,S3,hk3⟩:=hp
   obtain⟨hr3,hl3,hl4,hd4,hn1,hn2⟩:=fin (some .ret) W3 S3 hk3
   exact⟨_,_,hr3,.inr ⟨rfl,⟨.ret,(hIx _).put hi3 _ (by omega) hl3 rfl,hl4,hd4⟩,_,hn2⟩⟩
  | exit id =>
   obtain⟨hi3,S3,hk3⟩:=hp
   obtain⟨hr3,hl3,hl4,hd4,hn1,hn2⟩:=fin (some (.exit id)) W3 S3 hk3
   exact⟨_,_,hr3,.inr ⟨rfl,⟨.exit id,(hIx _).put hi3 _ (by omega) hl3 rfl,hl4,hd4⟩,_,hn2⟩⟩
  | goto t =>
   obtain⟨hi3,S3,hk3⟩:=hp
   obtain⟨hr3,hl3,hl4,hd4,hn1,hn2⟩:=fin (some (.goto t)) W3 S3 hk3
   exact⟨_,_,hr3,.inr ⟨rfl,⟨.goto t,(hIx _).put hi3 _ (by omega) hl3 rfl,hl4,hd4⟩,_,hn2⟩⟩
  | panic ch=>exact hp.elim
  | outgrown=>exact hp.elim
 ·have hs0L:¬ S0 L:=fun h=>by have:=(hS0 _ h).1;omega
  have hs0D:¬ S0 w.heap.size:=fun h=>by have:=(hS0 _ h).1;omega
  exact⟨S0,fun b=>Iff.rfl,hI.grow (s:=(0,S0)) h0 hnew,⟨hs0L,hs0D⟩,e1,e2⟩
 ·-- behind the iterator
  rintro e W2 ⟨⟨v,rfl⟩,(⟨S',⟨S1,hS,hi,hnD,hl,hk⟩,hz⟩|⟨k,hk1,c,hi,hl,hk⟩)⟩
  ·refine⟨none,_,by have:=run_endLoop (P:=P) hl (by rw[hrec];simp);rw[hrec] at this;exact this,?_⟩
   exact hdone _ S1 _ (Nat.le_refl _) hnD.2 (hI.put (s:=(N,S1)) hi _ (by omega) hl rfl) (hZ _ _ _ _ hz (by omega) hl rfl) ((World.putObj_heap_other (by omega)).trans hk)
  ·refine⟨some c,_,by have:=run_endLoop (P:=P) hl (by rw[hrec];simp);rw[hrec] at this;exact this,?_⟩
   exact hstop _ c k _ (Nat.le_refl _) hk1 ((hIx c).put hi _ (by omega) hl rfl) ((World.putObj_heap_other (by omega)).trans hk)
theorem xdK {n:Nat} {P:Program} {w:World} {a:Act} {Q:Exit→Act→World→Prop} {g:Operand} {assign body:Code}
  {gf:Nat} {lb:Array Value} (hg:a.eval g=.func (.func gf) #[] lb) (eg:∀ args w,(callFunc gf args).run P w=.ok (.enter gf args) w)
  {val:Nat→Value} {p:Nat} {r:Nat} {N:Nat} {T V:Nat→Prop} {G:Nat→World→Prop} {Z:World→Prop} {w0:World} (hseq:xfM P gf lb (fun k=>#[val k]) N T V G Z w0) (hb0:Below w0.heap.size w0 w)
  (hT:∀ r,T r→r<w.heap.size) (hV:∀ r,V r→r<w.heap.size)
  (I:Nat→(Nat→Prop)→World→Prop) (Ix:Code→Nat→World→Prop) (hI:xbR T w.heap.size I) (hIx:∀ c,xaE T w.heap.size (Ix c)) (hG:∀ k S W,I k S W→G k W∧∀ b,S b→b<W.heap.size)
  (S0:Nat→Prop) (hS0:∀ b,S0 b→b<w.heap.size∧¬ V b) (h0:I 0 S0 w) (hZ:∀ (W:World) (l:Nat) (o o':Obj),Z W→w.heap.size≤l→W.heap[l]?=some o→o.isCells=false→Z (W.putObj l o'))
  (hassign:∀ (l k:Nat) (W:World) (K:Act→World→Prop),K { tmps:=(a.tmps.setIfInBounds p (val k)).setIfInBounds r (val k),defers:=[] } W→assign.wpIn (Fence.wide.inRound l) (n - 1 - 1) P (Exit.then K (fun _ _ _=>False)) { tmps:=a.tmps.setIfInBounds p (val k),defers:=[] } W)
  (hbody:∀ (l k:Nat) (S:Nat→Prop) (W:World),w.heap.size≤l→I k S W→k<N→body.wpIn (Fence.wide.inRound l) (n - 1 - 1) P (xrE I Ix (k+1) S W) { tmps:=(a.tmps.setIfInBounds p (val k)).setIfInBounds r (val k),defers:=[] } W)
  (hdone:∀ (D:Nat) (S:Nat→Prop) (W:World),w.heap.size≤D→¬ S D→I N S W→Z W→W.heap[D]?=some (.deferred (some []))→Q .normal (xgF D a) W)
  (hstop:∀ (D:Nat) (c:Code) (k:Nat) (W:World),w.heap.size≤D→k≤N→Ix c k W→W.heap[D]?=some (.deferred (some []))→c.wpIn Fence.wide n P Q (xgF D a) W) :
  (Code.rangeFunc g #[p] assign body).wpIn Fence.wide n P Q a w :=
 xj7 hg eg hseq.toY hb0 hT hV (fun _=>rfl) I Ix hI hIx hG S0 hS0 h0 hZ (fun _ _ _ _ _ _ _ _ _=>trivial) (fun k a' _=>a'={ tmps:=(a.tmps.setIfInBounds p (val k)).setIfInBounds r (val k),defers:=[] }) (fun k a' _ X Y row hs _ _=>hs)
  (fun l k S W K hi _ hk hK=>by
   have h:=hassign l k W K (hK _ W S hi trivial ⟨Nat.le_refl _,fun _ _ _ h=>h,fun _ h=>.inl h⟩ rfl)
   have e:Array.foldl (fun t (y:Nat × Value)=>t.setIfInBounds y.1 y.2) a.tmps (#[p].zip #[val k])=a.tmps.setIfInBounds p (val k):=by simp
   rw[← e] at h
   exact h)
  (fun l k S a' W hl hi _ hax hk=>by subst hax;exact hbody l k S W hl hi hk)
  hdone hstop
theorem xog {n:Nat} {P:Program} {w:World} {a:Act} {Q:Exit→Act→World→Prop} {g:Operand} {assign body:Code}
  {gf:Nat} {lb:Array Value} (hg:a.eval g=.func (.func gf) #[] lb) (eg:∀ args w,(callFunc gf args).run P w=.ok (.enter gf args) w)
  {val va2:Nat→Value} {p q:Nat} {r s:Nat} {N:Nat} {T V:Nat→Prop} {G:Nat→World→Prop} {Y:Nat→World→Prop} {Z:World→Prop} {w0:World} (hseq:xnH P gf lb (fun k=>#[val k,va2 k]) N T V G Y Z w0) (hb0:Below w0.heap.size w0 w)
  (hT:∀ r,T r→r<w.heap.size) (hV:∀ r,V r→r<w.heap.size)
  (I:Nat→(Nat→Prop)→World→Prop) (Ix:Code→Nat→World→Prop) (hI:xbR T w.heap.size I) (hIx:∀ c,xaE T w.heap.size (Ix c)) (hG:∀ k S W,I k S W→G k W∧∀ b,S b→b<W.heap.size)
  (S0:Nat→Prop) (hS0:∀ b,S0 b→b<w.heap.size∧¬ V b) (h0:I 0 S0 w) (hZ:∀ (W:World) (l:Nat) (o o':Obj),Z W→w.heap.size≤l→W.heap[l]?=some o→o.isCells=false→Z (W.putObj l o'))
  (hYp:∀ (k:Nat) (W:World) (l:Nat) (o o':Obj),Y k W→w.heap.size≤l→W.heap[l]?=some o→o.isCells=false→Y k (W.putObj l o'))
  (hassign:∀ (l k:Nat) (W:World) (K:Act→World→Prop),K { tmps:=(((a.tmps.setIfInBounds p (val k)).setIfInBounds q (va2 k)).setIfInBounds r (val k)).setIfInBounds s (va2 k),defers:=[] } W→assign.wpIn (Fence.wide.inRound l) (n - 1 - 1) P (Exit.then K (fun _ _ _=>False)) { tmps:=(a.tmps.setIfInBounds p (val k)).setIfInBounds q (va2 k),defers:=[] } W)
  (hbody:∀ (l k:Nat) (S:Nat→Prop) (W:World),w.heap.size≤l→I k S W→Y k W→k<N→body.wpIn (Fence.wide.inRound l) (n - 1 - 1) P (xrE I Ix (k+1) S W) { tmps:=(((a.tmps.setIfInBounds p (val k)).setIfInBounds q (va2 k)).setIfInBounds r (val k)).setIfInBounds s (va2 k),defers:=[] } W)
  (hdone:∀ (D:Nat) (S:Nat→Prop) (W:World),w.heap.size≤D→¬ S D→I N S W→Z W→W.heap[D]?=some (.deferred (some []))→Q .normal (xgF D a) W)
  (hstop:∀ (D:Nat) (c:Code) (k:Nat) (W:World),w.heap.size≤D→k≤N→Ix c k W→W.heap[D]?=some (.deferred (some []))→c.wpIn Fence.wide n P Q (xgF D a) W) :
  (Code.rangeFunc g #[p,q] assign body).wpIn Fence.wide n P Q a w :=
 xj7 hg eg hseq hb0 hT hV (fun _=>rfl) I Ix hI hIx hG S0 hS0 h0 hZ hYp (fun k a' _=>a'={ tmps:=(((a.tmps.setIfInBounds p (val k)).setIfInBounds q (va2 k)).setIfInBounds r (val k)).setIfInBounds s (va2 k),defers:=[] }) (fun k a' _ X Y row hs _ _=>hs)
  (fun l k S W K hi hy hk hK=>by
   have h:=hassign l k W K (hK _ W S hi hy ⟨Nat.le_refl _,fun _ _ _ h=>h,fun _ h=>.inl h⟩ rfl)
   have e:Array.foldl (fun t (y:Nat × Value)=>t.setIfInBounds y.1 y.2) a.tmps (#[p,q].zip #[val k,va2 k])=(a.tmps.setIfInBounds p (val k)).setIfInBounds q (va2 k):=by simp
   rw[← e] at h
   exact h)
  (fun l k S a' W hl hi hy hax hk=>by subst hax;exact hbody l k S W hl hi hy hk)
  hdone hstop
end Go.Proofs.YtjkgkmmkehnggaaGreatDoor
namespace Go.Proofs.YtjkgkmmkehnggaaGreatDoor
set_option linter.unusedVariables false
set_option linter.unusedSimpArgs false
open Go.RowKit
set_option maxRecDepth 20000
def p7:Nat→Int
 | 0=>1
 | k+1=>128*p7 k
def xbC:Nat→Int→List Int
 | 0,x=>[x]
 | k+1,x=>if x<128 then [x] else (x % 128+128) :: xbC k (x / 128)
def enc (x:Int):List Int:=xbC 9 x
theorem xj5 (k:Nat):1≤p7 k:=by
 induction k with
 | zero=>simp[p7]
 | succ k ih=>simp only[p7];omega
theorem xjb (j k:Nat) (h:j≤k):p7 j≤p7 k:=by
 induction h with
 | refl=>omega
 | step _ ih=>simp only[p7];have:=xj5 j;omega
theorem xcV (x:Int) (k:Nat) (h:x<p7 (k+1)):x / 128<p7 k:=by
 simp only[p7] at h;omega
theorem xsD (k:Nat) (x:Int) (h0:0≤x) (h:x<p7 (k+1)):xbC (k+1) x=xbC k x:=by
 induction k generalizing x with
 | zero =>
  simp only[p7] at h
  have:x<128:=by omega
  simp[xbC,this]
 | succ k ih =>
  rw[xbC]
  by_cases hx:x<128
  ·rw[if_pos hx,xbC,if_pos hx]
  ·rw[if_neg hx,ih (x / 128) (by omega) (xcV x (k+1) h)]
   conv=>rhs;rw[xbC,if_neg hx]
theorem xfF:p7 10=1180591620717411303424∧p7 9=9223372036854775808:=by decide
theorem xBq (x:Int) (h:x<128):enc x=[x]:=by unfold enc;rw[xbC,if_pos h]
theorem xBS (x:Int) (h:128≤x) (h1:x≤18446744073709551615):enc x=(x % 128+128) :: enc (x / 128):=by
 unfold enc
 rw[xbC,if_neg (by omega),← xsD 8 (x / 128) (by omega) (by rw[xfF.2];omega)]
theorem xi2 (k:Nat) (x:Int):1≤(xbC k x).length∧(xbC k x).length≤k+1:=by
 induction k generalizing x with
 | zero=>simp[xbC]
 | succ k ih =>
  rw[xbC]
  split
  ·simp
  ·have:=ih (x / 128)
   simp only[List.length_cons];omega
theorem xeb (x:Int):1≤(enc x).length∧(enc x).length≤10:=xi2 9 x
theorem xy5 (k:Nat) (x:Int) (h:x<p7 (k+1)):x<p7 (xbC k x).length:=by
 induction k generalizing x with
 | zero=>simpa[xbC] using h
 | succ k ih =>
  rw[xbC]
  split
  ·simp[p7];assumption
  ·have:=ih (x / 128) (xcV x (k+1) h)
   simp only[List.length_cons,p7];omega
theorem xzO (k:Nat) (x:Int) (h:2≤(xbC k x).length):p7 ((xbC k x).length - 1)≤x:=by
 induction k generalizing x with
 | zero=>simp[xbC] at h
 | succ k ih =>
  rw[xbC] at h ⊢
  split at h
  ·simp at h
  ·rename_i hx
   rw[if_neg hx]
   simp only[List.length_cons] at h ⊢
   have h1:=(xi2 k (x / 128)).1
   by_cases h2:2≤(xbC k (x / 128)).length
   ·have:=ih (x / 128) h2
    obtain⟨m,hm⟩:∃ m,(xbC k (x / 128)).length=m+1:=⟨(xbC k (x / 128)).length - 1,by omega⟩
    rw[hm] at this ⊢
    simp only[Nat.add_sub_cancel,p7] at this ⊢
    omega
   ·rw[show (xbC k (x / 128)).length=1 from by omega]
    simp only[Nat.add_sub_cancel,p7];omega
theorem xA2 (x:Int) (h1:x≤18446744073709551615):x<p7 (enc x).length:=xy5 9 x (by have:=xfF.1;simp only[Nat.reduceAdd];omega)
theorem xAH (x:Int) (h:2≤(enc x).length):p7 ((enc x).length - 1)≤x:=xzO 9 x h
theorem xs1 (k:Nat) (x:Int) (h0:0≤x) (h:x<p7 (k+1)):∀ c ∈ xbC k x,0≤c∧c<256:=by
 induction k generalizing x with
 | zero=>simp only[p7] at h;simp[xbC];omega
 | succ k ih =>
  rw[xbC]
  split
  ·simp;omega
  ·intro c hc
   rcases List.mem_cons.1 hc with rfl|hc
   ·omega
   ·exact ih (x / 128) (by omega) (xcV x (k+1) h) c hc
def xaO:Nat→List UInt8→Nat
 | 0,_=>0
 | _+1,[]=>0
 | k+1,c :: t=>if 128≤c.toNat then xaO k t+1 else 0
def xdh:List UInt8→Int
 | []=>0
 | c :: t=>(c.toNat:Int) % 128+128*xdh t
def xbI (l:List UInt8):Int :=
 if xaO 10 l=10 then 11 else if xaO 10 l=l.length then 3 else if xaO 10 l=9∧1<(l.getD (xaO 10 l) 0).toNat then 11 else if 0<xaO 10 l∧(l.getD (xaO 10 l) 0).toNat=0 then 4 else 0
def xlo (l:List UInt8):Int:=(xaO 10 l+1:Nat)
def xa7 (l:List UInt8):Int:=xdh (l.take (xaO 10 l+1))
theorem xil (k:Nat) (l:List UInt8):xaO k l≤k∧xaO k l≤l.length:=by
 induction k generalizing l with
 | zero=>simp[xaO]
 | succ k ih =>
  cases l with
  | nil=>simp[xaO]
  | cons c t =>
   rw[xaO]
   have:=ih t
   split <;> simp only[List.length_cons] <;> omega
theorem xrN (k:Nat) (l:List UInt8) (i:Nat) (h:i<xaO k l):128≤(l.getD i 0).toNat:=by
 induction k generalizing l i with
 | zero=>simp[xaO] at h
 | succ k ih =>
  cases l with
  | nil=>simp[xaO] at h
  | cons c t =>
   rw[xaO] at h
   split at h
   ·cases i with
    | zero=>simpa
    | succ i=>simpa using ih t i (by omega)
   ·omega
theorem xkz (k:Nat) (l:List UInt8) (i:Nat) (h:i≤xaO k l) (hk:i<k) (hl:i<l.length) (hc:128≤(l.getD i 0).toNat):i+1≤xaO k l:=by
 induction k generalizing l i with
 | zero=>omega
 | succ k ih =>
  cases l with
  | nil=>simp at hl
  | cons c t =>
   rw[xaO] at h ⊢
   cases i with
   | zero =>
    have:128≤c.toNat:=by simpa using hc
    rw[if_pos this];omega
   | succ i =>
    split at h
    ·rename_i hh
     rw[if_pos hh]
     have:=ih t i (by omega) (by omega) (by simpa using hl) (by simpa using hc)
     omega
    ·omega
theorem xzz (l:List UInt8) (i:Nat) (h:i≤xaO 10 l) (hs:i=10∨i=l.length∨(l.getD i 0).toNat<128):xaO 10 l=i:=by
 have h1:=xil 10 l
 by_cases he:i=xaO 10 l
 ·exact he.symm
 ·have:=xrN 10 l i (by omega)
  omega
theorem xll (c:UInt8):c.toNat<256:=c.toNat_lt
theorem xgr (l:List UInt8):0≤xdh l∧xdh l<p7 l.length:=by
 induction l with
 | nil=>simp[xdh,p7]
 | cons c t ih =>
  simp only[xdh,p7,List.length_cons]
  omega
theorem xrC (l:List UInt8) (c:UInt8):xdh (l++[c])=xdh l+(c.toNat:Int) % 128*p7 l.length:=by
 induction l with
 | nil=>simp[xdh,p7]
 | cons d t ih =>
  rw[List.cons_append]
  simp only[xdh,ih,p7,List.length_cons]
  rw[Int.mul_add,← Int.mul_assoc,Int.mul_comm 128 ((c.toNat:Int) % 128),Int.mul_assoc,Int.add_assoc]
theorem xgi (l:List UInt8) (i:Nat) (h:i<l.length):xdh (l.take (i+1))=xdh (l.take i)+((l.getD i 0).toNat:Int) % 128*p7 i:=by
 rw[List.take_succ_eq_append_getElem h,xrC]
 simp[h,Nat.min_eq_left (Nat.le_of_lt h)]
theorem xd4 (l:List UInt8) (h:xbI l=0):0≤xa7 l∧xa7 l≤18446744073709551615:=by
 have h1:=xil 10 l
 unfold xbI at h
 split at h
 ·cases h
 rename_i a
 split at h
 ·cases h
 rename_i b
 split at h
 ·cases h
 rename_i c
 unfold xa7
 refine⟨(xgr _).1,?_⟩
 by_cases h9:xaO 10 l=9
 ·rw[xgi l _ (by omega)]
  have h2:=(xgr (l.take (xaO 10 l))).2
  rw[h9] at h2 c ⊢
  have h3:(l.take 9).length=9:=by simp;omega
  rw[h3] at h2
  have h4:=xfF.2
  rw[h4] at h2 ⊢
  have:(l.getD 9 0).toNat≤1:=by omega
  omega
 ·have h2:=(xgr (l.take (xaO 10 l+1))).2
  have h3:=xjb (l.take (xaO 10 l+1)).length 9 (by simp;omega)
  have h4:=xfF.2
  omega
def ub (n:Int):UInt8:=UInt8.ofNat n.toNat
theorem xcZ (n:Int) (h0:0≤n) (h1:n<256):((ub n).toNat:Int)=n:=by
 unfold ub;simp;omega
theorem xqu (c:UInt8):ub (c.toNat:Int)=c:=by unfold ub;simp
theorem xuM (k:Nat) (x:Int) (h0:0≤x) (h:x<p7 (k+1)) (r:List UInt8) (m:Nat) (hm:k<m):xaO m ((xbC k x).map ub++r)+1=(xbC k x).length:=by
 induction k generalizing x m with
 | zero =>
  simp only[p7] at h
  obtain⟨m,rfl⟩:∃ j,m=j+1:=⟨m - 1,by omega⟩
  have:=xcZ x h0 (by omega)
  simp only[xbC,List.map_cons,List.map_nil,List.cons_append,xaO,List.length_cons,List.length_nil]
  rw[if_neg (by omega)]
 | succ k ih =>
  obtain⟨m,rfl⟩:∃ j,m=j+1:=⟨m - 1,by omega⟩
  rw[xbC]
  split
  ·have:=xcZ x h0 (by omega)
   simp only[List.map_cons,List.map_nil,List.cons_append,xaO,List.length_cons,List.length_nil]
   rw[if_neg (by omega)]
  ·have:=xcZ (x % 128+128) (by omega) (by omega)
   simp only[List.map_cons,List.cons_append,xaO,List.length_cons]
   rw[if_pos (by omega),ih (x / 128) (by omega) (xcV x (k+1) h) m (by omega)]
theorem xuN (k:Nat) (x:Int) (h0:0≤x) (h:x<p7 (k+1)):xdh ((xbC k x).map ub)=x:=by
 induction k generalizing x with
 | zero =>
  simp only[p7] at h
  have:=xcZ x h0 (by omega)
  simp only[xbC,List.map_cons,List.map_nil,xdh];omega
 | succ k ih =>
  rw[xbC]
  split
  ·have:=xcZ x h0 (by omega)
   simp only[List.map_cons,List.map_nil,xdh];omega
  ·have:=xcZ (x % 128+128) (by omega) (by omega)
   simp only[List.map_cons,xdh,ih (x / 128) (by omega) (xcV x (k+1) h)]
   omega
theorem xwU (k:Nat) (x:Int) (h0:0≤x) (h:x<p7 (k+1)):((xbC k x).getD ((xbC k x).length - 1) 0=x∧(xbC k x).length=1)∨(1≤(xbC k x).getD ((xbC k x).length - 1) 0∧(xbC k x).getD ((xbC k x).length - 1) 0*p7 ((xbC k x).length - 1)≤x):=by
 induction k generalizing x with
 | zero=>exact .inl ⟨by simp[xbC],by simp[xbC]⟩
 | succ k ih =>
  rw[xbC]
  split
  ·exact .inl ⟨by simp,by simp⟩
  ·have hl:=xi2 k (x / 128)
   have e:((x % 128+128) :: xbC k (x / 128)).getD (((x % 128+128) :: xbC k (x / 128)).length - 1) 0=(xbC k (x / 128)).getD ((xbC k (x / 128)).length - 1) 0:=by
    rw[List.length_cons,show (xbC k (x / 128)).length+1 - 1=((xbC k (x / 128)).length - 1)+1 from by omega,List.getD_cons_succ]
   rw[e,List.length_cons]
   refine .inr ?_
   rcases ih (x / 128) (by omega) (xcV x (k+1) h) with ⟨a,b⟩|⟨a,b⟩
   ·rw[a,b];simp only[Nat.add_sub_cancel,p7];omega
   ·refine⟨a,?_⟩
    rw[show (xbC k (x / 128)).length+1 - 1=((xbC k (x / 128)).length - 1)+1 from by omega,p7]
    generalize (xbC k (x / 128)).getD ((xbC k (x / 128)).length - 1) 0=z at *
    generalize p7 ((xbC k (x / 128)).length - 1)=q at *
    rw[← Int.mul_assoc,Int.mul_comm z 128,Int.mul_assoc]
    omega
theorem xno (x:Int) (h0:0≤x) (h1:x≤18446744073709551615) (r:List UInt8):xbI ((enc x).map ub++r)=0∧xlo ((enc x).map ub++r)=(enc x).length∧xa7 ((enc x).map ub++r)=x:=by
 have hp:x<p7 (9+1):=by have:=xfF.1;simp only[Nat.reduceAdd];omega
 have hl:=xuM 9 x h0 hp r 10 (by omega)
 have hb:=xs1 9 x h0 hp
 have hz:=xwU 9 x h0 hp
 have hv:=xuN 9 x h0 hp
 change xaO 10 ((enc x).map ub++r)+1=(enc x).length at hl
 change ∀ c ∈ enc x,_ at hb
 change ((enc x).getD ((enc x).length - 1) 0=x∧(enc x).length=1)∨(1≤(enc x).getD ((enc x).length - 1) 0∧(enc x).getD ((enc x).length - 1) 0*p7 ((enc x).length - 1)≤x) at hz
 change xdh ((enc x).map ub)=x at hv
 have hn:=xeb x
 have hk:xaO 10 ((enc x).map ub++r)=(enc x).length - 1:=by omega
 have hg:(((enc x).map ub++r).getD ((enc x).length - 1) 0).toNat=(enc x).getD ((enc x).length - 1) 0:=by
  have hi:(enc x).length - 1<(enc x).length:=by omega
  have:=hb ((enc x)[(enc x).length - 1]) (List.getElem_mem hi)
  have h2:=xcZ _ this.1 this.2
  rw[List.getD_eq_getElem?_getD,List.getElem?_append_left (by simpa using hi)]
  simpa[hi] using h2
 refine⟨?_,?_,?_⟩
 ·unfold xbI
  rw[hk]
  rw[if_neg (by omega),if_neg (by simp;omega)]
  rw[if_neg,if_neg]
  ·rintro⟨a,b⟩
   omega
  ·rintro⟨a,b⟩
   rw[a] at hz
   have:=xfF.2
   rw[this] at hz
   rw[a] at hg b
   omega
 ·unfold xlo;rw[hl]
 ·unfold xa7
  rw[hl,List.take_append_of_le_length (by simp),List.take_of_length_le (by simp),hv]
theorem xwk (k:Nat) (l:List UInt8) (hk:l.length≤k+1) (h:∀ i,i+1<l.length→128≤(l.getD i 0).toNat) (h1:0<l.length) (h2:(l.getD (l.length - 1) 0).toNat<128) (h3:1<l.length→(l.getD (l.length - 1) 0).toNat≠0):xbC k (xdh l)=l.map (fun c=>(c.toNat:Int))∧(1<l.length→1≤xdh l)∧(l.length=1→xdh l=(l.getD 0 0).toNat):=by
 induction l generalizing k with
 | nil=>simp at h1
 | cons c t ih =>
  cases t with
  | nil =>
   have hc:c.toNat<128:=by simpa using h2
   have e:xdh [c]=c.toNat:=by simp only[xdh];omega
   refine⟨?_,by simp,fun _=>by rw[e];simp⟩
   rw[e]
   cases k with
   | zero=>simp[xbC]
   | succ k=>rw[xbC,if_pos (by omega)];simp
  | cons d t =>
   have hc:128≤c.toNat:=by simpa using h 0 (by simp)
   have hc':=xll c
   cases k with
   | zero=>simp at hk
   | succ k =>
    have hh:=ih k (by simpa using hk) (fun i hi=>by simpa using h (i+1) (by simpa using hi)) (by simp) (by simpa using h2) (fun _=>by simpa using h3 (by simp))
    have hl:(d.toNat≠0∨1<(d :: t).length):=by
     cases t with
     | nil=>left;simpa using h3 (by simp)
     | cons _ _=>right;simp
    have h1':1≤xdh (d :: t):=by
     by_cases hq:1<(d :: t).length
     ·exact hh.2.1 hq
     ·have:=hh.2.2 (by simp at hq ⊢;exact hq)
      rw[this]
      simp only[List.getD_cons_zero]
      omega
    have e:xdh (c :: d :: t)=(c.toNat:Int) % 128+128*xdh (d :: t):=rfl
    refine⟨?_,fun _=>by omega,by simp⟩
    rw[e,xbC,if_neg (by omega),List.map_cons,show ((c.toNat:Int) % 128+128*xdh (d :: t)) / 128=xdh (d :: t) from by omega,hh.1]
    congr 1
    omega
theorem xdx (l:List UInt8) (h:xbI l=0):xaO 10 l≤9∧xaO 10 l<l.length∧(xaO 10 l=9→(l.getD (xaO 10 l) 0).toNat≤1)∧(0<xaO 10 l→(l.getD (xaO 10 l) 0).toNat≠0)∧(l.getD (xaO 10 l) 0).toNat<128:=by
 have h1:=xil 10 l
 unfold xbI at h
 split at h
 ·cases h
 rename_i a
 split at h
 ·cases h
 rename_i b
 split at h
 ·cases h
 rename_i c
 split at h
 ·cases h
 rename_i d
 refine⟨by omega,by omega,fun h=>by omega,fun h=>by omega,?_⟩
 by_cases hx:(l.getD (xaO 10 l) 0).toNat<128
 ·exact hx
 ·have:=xkz 10 l (xaO 10 l) (Nat.le_refl _) (by omega) (by omega) (by omega)
  omega
theorem xkx (l:List UInt8) (h:xbI l=0):enc (xa7 l)=(l.take (xaO 10 l+1)).map (fun c=>(c.toNat:Int)):=by
 obtain⟨h1,h2,h3,h4,h5⟩:=xdx l h
 have hl:(l.take (xaO 10 l+1)).length=xaO 10 l+1:=by simp;omega
 have hg:∀ i,i<xaO 10 l+1→(l.take (xaO 10 l+1)).getD i 0=l.getD i 0:=by
  intro i hi
  simp[hi]
 refine(xwk 9 (l.take (xaO 10 l+1)) (by omega) ?_ (by omega) ?_ ?_).1
 ·intro i hi
  rw[hg i (by omega)]
  exact xrN 10 l i (by omega)
 ·rw[hl,Nat.add_sub_cancel,hg _ (by omega)];exact h5
 ·intro hx
  rw[hl,Nat.add_sub_cancel,hg _ (by omega)];exact h4 (by omega)
theorem xBu (x:Int) (x0:0≤x) (x1:x≤18446744073709551615):bits BinOp.or IntKind.u64 x 1=2*(x / 2)+1:=by
 rw[u64_or _ _ (by omega) (by omega) (by omega) (by omega)]
 have h:x.toNat ||| (1:Int).toNat=2*(x.toNat / 2)+1:=by
  rcases Nat.mod_two_eq_zero_or_one x.toNat with h|h
  ·rw[show (1:Int).toNat=1 from rfl,nat_join 1 _ _ (by omega) (by omega)];omega
  ·have e:x.toNat=(2*(x.toNat / 2)) ||| 1:=by rw[nat_join 1 _ _ (by omega) (by omega)];omega
   rw[show (1:Int).toNat=1 from rfl]
   conv=>lhs;rw[e,Nat.or_assoc,Nat.or_self]
   rw[nat_join 1 _ _ (by omega) (by omega)]
 rw[h];omega
theorem two7 (m:Nat):((2 ^ (7*m):Nat):Int)=p7 m:=by
 induction m with
 | zero=>rfl
 | succ m ih =>
  rw[show 7*(m+1)=7*m+7 from by omega,Nat.pow_add,p7,← ih]
  simp only[Nat.reducePow];omega
theorem xwX (x:Int) (n:Nat) (x0:0≤x) (x1:x≤18446744073709551615) (h:Len n (2*(x / 2)+1)):(n+6) / 7=(enc x).length:=by
 obtain⟨h64,h⟩:=h
 have hu:=xA2 x x1
 have hd:=xAH x
 have hl:=xeb x
 generalize (enc x).length=m at *
 rcases h with ⟨rfl,h⟩|⟨hn,ha,hb⟩
 ·omega
 have h1:n≤7*m:=by
  rcases Nat.lt_or_ge (7*m) n with hc|hc
  ·have:=Nat.pow_le_pow_right (by omega:0<2) (by omega:7*m≤n - 1)
   have e:=two7 m
   have ev:p7 m % 2=0:=by
    obtain⟨k,rfl⟩:∃ k,m=k+1:=⟨m - 1,by omega⟩
    rw[p7];omega
   omega
  ·exact hc
 have h2:7*(m - 1)<n:=by
  rcases Nat.lt_or_ge (7*(m - 1)) n with hc|hc
  ·exact hc
  ·have:=Nat.pow_le_pow_right (by omega:0<2) hc
   have e:=two7 (m - 1)
   by_cases hm:2≤m
   ·have:=hd hm
    omega
   ·omega
 omega
theorem xja (x:Int) (w:World) (x0:0≤x) (x1:x≤18446744073709551615):Calls Tryz.prog 142 #[.int .u64 x] w fun e w'=>e=.returned (.int .i64 (enc x).length)∧w=w':=by
 have ho:=xBu x x0 x1
 go_enter Tryz.func142,Tryz.ntmps142
 go_wp2_with fail
 refine(xgO _ _ (by omega) (by omega)).mono ?_
 rintro e w' ⟨⟨n,rfl,hn⟩,rfl⟩
 have hs:=xwX x n x0 x1 hn
 have h64:=hn.1
 clear hn ho
 go_wp2
 go_ret
 refine⟨xaH ?_,rfl⟩
 omega
theorem xnV:(Tryz.prog.info? 5).map (fun i=>(i.zero,i.size,i.bytes))=some (some (.int .u8 0),1,1):=by kernel_rfl
theorem xjJ (x:Addr) (j:Nat):(x.add j).block=x.block:=by unfold Addr.add;split <;> rfl
def xaS (w:World) (v:Value) (l:List Int):Prop :=
 ∃ a cap,v=.slice a l.length cap∧l.length≤cap∧cap≤maxLen∧(0<l.length→∃ x:Addr,a=some x∧x.block<w.heap.size∧∀ i,i<l.length→w.cell? (x.add i)=some (.int .u8 (l.getD i 0)))
def Own (w:World) (B:Nat) (v:Value) (l:List Int):Prop:=w.ownsRow B 5 1 v l.length (l.map (Value.int .u8))
theorem Own.snoc {w':World} {B:Nat} {v':Value} {l:List Int} {c:Int} (hs:w'.ownsRow B 5 1 v' (l.length+1) (l.map (Value.int .u8)++[.int .u8 c])):Own w' B v' (l++[c]):=by
 unfold Own
 rw[List.length_append,List.map_append]
 exact hs
theorem xc4 {w2:World} {g m:Nat} {l:List Int} (h:w2.heap[g]?=some (.cells (splice (List.replicate (l.length+m) (Value.int .u8 0)) 0 (l.map (Value.int .u8))).toArray 5 (0,0))) (hl:l.length+m≤maxLen):Own w2 g (.slice (some ⟨g,0,none⟩) l.length (l.length+m)) l:=by
 refine⟨by simp,.inr ⟨g,l.length+m,_,rfl,Nat.le_refl _,h,by omega,hl,?_,?_⟩⟩
 ·rw[List.size_toArray,length_splice _ _ _ (by simp)];simp
 ·simp[splice]
def xm7 (w:World) (l:List Int) (e:Ending) (w':World):Prop:=∃ v,e=.returned v∧Own w' w.heap.size v l∧Below w.heap.size w w'
theorem xz6 (y:Int) (y0:0≤y):bits BinOp.or IntKind.u8 (y % 256) 128=y % 128+128:=by
 rw[u8_or _ _ (by omega) (by omega) (by omega) (by omega)]
 have h:(y % 256).toNat ||| (128:Int).toNat=128+(y % 128).toNat:=by
  have e:(y % 256).toNat=(if y % 256<128 then 0 else 128) ||| (y % 128).toNat:=by
   split
   ·rw[Nat.zero_or];omega
   ·rw[nat_join 7 _ _ (by omega) (by omega)];omega
  rw[e,show (128:Int).toNat=128 from rfl]
  split
  ·rw[Nat.zero_or,Nat.or_comm,nat_join 7 _ _ (by omega) (by omega)]
  ·rw[Nat.or_comm,← Nat.or_assoc,Nat.or_self,nat_join 7 _ _ (by omega) (by omega)]
 rw[h];omega
def xBx (B:Nat) (w:World) (l:List Int) (e:Ending) (w':World):Prop:=∃ v,e=.returned v∧Own w' B v l∧Below B w w'
theorem xse (B:Nat) (v:Value) (l:List Int) (x:Int) (w:World) (ho:Own w B v l) (hB:B≤w.heap.size) (hl:l.length≤1000000) (x0:0≤x) (x1:x≤18446744073709551615) :
  Calls Tryz.prog 145 #[v,.int .u64 x] w (xBx B w (l++enc x)):=by
 obtain⟨i0,hi,hz0,hz1,hz2⟩:=xao xnV
 go_enter Tryz.func145,Tryz.ntmps145
 go_wp2
 go_loopw [0,1] (fun v x' wr=>∃ (pre:List Int) (y:Int),x'=.int .u64 y∧0≤y∧y≤18446744073709551615∧Hid (enc x=pre++enc y)∧Own wr B v (l++pre)∧Below B w wr) (fun _ x' _=>(intOf x').toNat)
 case atStart=>exact⟨[],x,rfl,x0,x1,rfl,by simpa using ho,Below.refl _ _⟩
 case round =>
  obtain⟨pre,y,rfl,y0,y1,HY,hown,hbw⟩:=hrel
  have hlen:(l++pre).length≤l.length+10:=by
   have:=congrArg List.length HY.out
   have:=xeb x
   simp only[List.length_append] at *
   omega
  have hsz:=hbw.size
  have hlm:(l++pre).length≤1000010:=by omega
  clear hlen
  generalize hL:(l++pre)=L at *
  have HL:=lH hL;clear hL
  by_cases hlt:128≤y
  ·have hor:=xz6 y y0
   have HE:Hid (enc x=(pre++[y % 128+128])++enc (y / 128)):=by
    have:=HY.out
    rw[xBS y hlt y1] at this
    exact lH (by simpa using this)
   go_wp2_with (first|(at_builtin;refine wpList_append_own _ rfl _ _ 23 rfl B 5 i0 (.int .u8 0) 1 1 Tryz.underlying23 hi hz0 hz1 hz2 rfl (by decide) _ _ _ rfl (World.ownsRow.alloc hown _) ⟨wr.heap.size,0,none⟩ 1 1 [.int .u8 (y % 128+128)] rfl rfl ?c1 ?c2 ?c3 ?c4 ?c5 ?_)|fail)
   case c1 =>
    intro j u hj
    match j,hj with
    | 0,hj=>simp at hj;subst hj;simp[Addr.add]
   case c2=>intro u hu;simp at hu;subst hu;rfl
   case c3=>unfold maxLen;omega
   case c4=>omega
   case c5=>rw[World.size_alloc];omega
   intro v' w1 hown' hgrow _
   have hbel:Below B w w1:=(hbw.alloc (by omega) _).grown hgrow (by rw[World.size_alloc];omega) (fun g hg=>(World.ownsRow.lt hown g hg).1)
   have hO':Own w1 B v' (l++(pre++[y % 128+128])):=by
    rw[← List.append_assoc,HL.out]
    exact Own.snoc (by simpa using hown')
   clear hown' hgrow hown hbw HY hor
   go_wp2
   go_roundw
   case rel=>exact⟨_,y / 128,rfl,by omega,by omega,HE,hO',hbel⟩
   case measure=>simp[intOf];omega
  ·have hmod:y % 256=y:=by omega
   have HE:Hid (enc x=pre++[y]):=by
    have:=HY.out
    rw[xBq y (by omega)] at this
    exact lH this
   go_wp2_with (first|(at_builtin;refine wpList_append_own _ rfl _ _ 23 rfl B 5 i0 (.int .u8 0) 1 1 Tryz.underlying23 hi hz0 hz1 hz2 rfl (by decide) _ _ _ rfl (World.ownsRow.alloc hown _) ⟨wr.heap.size,0,none⟩ 1 1 [.int .u8 y] rfl rfl ?c1 ?c2 ?c3 ?c4 ?c5 ?_)|fail)
   case c2=>rfl
   case c3=>unfold maxLen;omega
   case c4=>omega
   case c5=>omega
   intro v' w1 hown' hgrow _
   have hbel:Below B w w1:=(hbw.alloc (by omega) _).grown hgrow (by rw[World.size_alloc];omega) (fun g hg=>(World.ownsRow.lt hown g hg).1)
   have hO':Own w1 B v' (l++enc x):=by
    rw[HE.out,← List.append_assoc,HL.out]
    exact Own.snoc (by simpa using hown')
   clear hown' hgrow hown hbw HY
   go_wp2
   go_ret
   exact⟨_,rfl,hO',hbel⟩
theorem xom (L m:Nat) (W:World) (h:L+m≤1000100):(Instr.makeSlice 23 (.int .i64 (L:Int)) (.int .i64 ((L:Int)+(m:Int)))).run Tryz.prog W=.ok (.slice (some ⟨W.heap.size,0,none⟩) L (L+m)) (W.alloc (.cells (madeCells #[.int .u8 0] (L+m)) 5)):=by
 obtain⟨i0,hi,hz0,hz1,hz2⟩:=xao xnV
 have:=run_make (P:=Tryz.prog) W 23 5 i0 (.int .u8 0) Tryz.underlying23 hi hz0 .i64 .i64 (L:Int) ((L:Int)+(m:Int)) (by omega) (by omega) (by rw[hz2];omega) (by omega)
 rw[this,hz1]
 simp only[Int.toNat_natCast]
 rw[show ((L:Int)+(m:Int)).toNat=L+m from by omega,Nat.mul_one]
 rfl
def str (l:List Int):ByteArray:=l.foldl (fun r n=>r.push (UInt8.ofNat n.toNat)) ByteArray.empty
theorem xwe (l:List Int) (r:ByteArray):(l.foldl (fun r n=>r.push (UInt8.ofNat n.toNat)) r).data.toList=r.data.toList++l.map (fun n=>UInt8.ofNat n.toNat):=by
 induction l generalizing r with
 | nil=>simp
 | cons n l ih=>rw[List.foldl_cons,ih];simp[ByteArray.push]
theorem xbF (l:List Int):(str l).data.toList=l.map (fun n=>UInt8.ofNat n.toNat):=by
 unfold str;rw[xwe];simp
theorem xbv (l:List Int):(str l).size=l.length:=by
 have:=congrArg List.length (xbF l)
 simpa using this
theorem xib (w:World) (v:Value) (l:List Int) (h:xaS w v l):(convert 23 9 v).run Tryz.prog w=.ok (.string (str l)) w:=by
 obtain⟨a,cap,rfl,h1,h2,hc⟩:=h
 rw[run_convert_bytes_string w 23 9 5 a l.length cap Tryz.underlying23 Tryz.underlying5 Tryz.underlying9]
 by_cases h0:0<l.length
 ·obtain⟨x,rfl,hb,hx⟩:=hc h0
  refine run_bytesToString w x l.length cap l ?_
  have:=run_loadCells_list (P:=Tryz.prog) (w:=w) x (l.map (Value.int .u8)) (by
   intro j v hj
   have hjl:j<l.length:=by have:=(List.getElem?_eq_some_iff.1 hj).1;simpa using this
   rw[hx j hjl]
   simpa[hjl] using hj)
  simpa using this
 ·obtain rfl:l=[]:=List.eq_nil_of_length_eq_zero (by omega)
  cases a with
  | none=>rfl
  | some x =>
   have:=run_loadCells_list (P:=Tryz.prog) (w:=w) x [] (by intro j v hj;simp at hj)
   exact run_bytesToString w x 0 cap [] (by simpa using this)
theorem Own.bytesAt {w:World} {B:Nat} {v:Value} {l:List Int} (h:Own w B v l):xaS w v l:=by
 have hlt:=World.ownsRow.lt h
 have h':=h
 obtain⟨hx,hv⟩:=h'
 rcases hv with ⟨rfl,hn⟩|⟨g,cap,cur,rfl,hB,hh,hle,hm,hcs,htk⟩
 ·obtain rfl:l=[]:=List.eq_nil_of_length_eq_zero hn
  exact⟨none,0,rfl,Nat.le_refl _,by simp,fun h=>by simp at h⟩
 ·refine⟨_,cap,rfl,hle,hm,fun _=>⟨_,rfl,(hlt g rfl).2,fun i hi=>?_⟩⟩
  have:=World.ownsRow.cellAt h i (by omega)
  have e:(⟨g,0,none⟩:Addr).add i=⟨g,i,none⟩:=by simp[Addr.add];omega
  rw[e]
  simpa[hi] using this
theorem xaS.below {w w':World} {v:Value} {l:List Int} (h:xaS w v l) (hb:Below w.heap.size w w'):xaS w' v l:=by
 obtain⟨a,cap,rfl,h1,h2,hc⟩:=h
 refine⟨a,cap,rfl,h1,h2,fun h0=>?_⟩
 obtain⟨x,rfl,hx,hcell⟩:=hc h0
 refine⟨x,rfl,Nat.lt_of_lt_of_le hx hb.size,fun i hi=>?_⟩
 rw[← hcell i hi]
 exact hb.cell (p:=x.add i) (by rw[xjJ];exact hx)
theorem Own.below {w w':World} {B:Nat} {v:Value} {l:List Int} (h:Own w B v l) (hb:Below w.heap.size w w'):Own w' B v l:=by
 have hlt:=World.ownsRow.lt h
 obtain⟨h1,h2⟩:=h
 refine⟨h1,?_⟩
 rcases h2 with h2|⟨g,cap,cur,hv,hg,hh,r⟩
 ·exact .inl h2
 ·refine .inr ⟨g,cap,cur,hv,hg,?_,r⟩
  rw[hb.block g (hlt g (by rw[hv];rfl)).2];exact hh
def xsu (w:World) (v:Value) (l:List Int):Prop :=
 ∃ a cap,v=.slice a l.length cap∧∀ k,k<l.length→∃ b off,a=some ⟨b,off,none⟩∧b<w.heap.size∧w.cell? ⟨b,off+k,none⟩=some (.int .u64 (l.getD k 0))
def xDi (l:List Int):Prop:=∀ k,k<l.length→0≤l.getD k 0∧l.getD k 0≤18446744073709551615
def encs:List Int→List Int
 | []=>[]
 | x :: t=>enc x++encs t
theorem xgI (l:List Int) (x:Int):encs (l++[x])=encs l++enc x:=by
 induction l with
 | nil=>simp[encs]
 | cons y t ih=>simp[encs,ih]
theorem xm5 (l:List Int):(encs l).length≤10*l.length:=by
 induction l with
 | nil=>simp[encs]
 | cons y t ih =>
  have:=xeb y
  simp only[encs,List.length_append,List.length_cons];omega
theorem xgR (l:List Int) (k:Nat) (h:k<l.length):l.take (k+1)=l.take k++[l.getD k 0]:=by
 rw[List.take_succ_eq_append_getElem h];simp[h]
theorem xjY (l:List Int) (k:Nat) (h:k<l.length):encs (l.take (k+1))=encs (l.take k)++enc (l.getD k 0):=by
 rw[xgR l k h,xgI]
theorem xpf (a b:List Int):str a++str b=str (a++b):=by
 apply ByteArray.ext
 apply Array.ext'
 rw[ByteArray.data_append,Array.toList_append,xbF,xbF,xbF,List.map_append]
theorem xlt (m:Nat) (W:World) (h:m≤1000100):(Instr.makeSlice 23 (.int .i64 0) (.int .i64 (m:Int))).run Tryz.prog W=.ok (.slice (some ⟨W.heap.size,0,none⟩) 0 m) (W.alloc (.cells (madeCells #[.int .u8 0] m) 5)):=by
 have:=xom 0 m W (by omega)
 simpa using this
theorem xt2 (w:World) (m:Nat) (h:m≤1000100):Own (w.alloc (.cells (madeCells #[.int .u8 0] m) 5)) w.heap.size (.slice (some ⟨w.heap.size,0,none⟩) 0 m) []:=by
 have:=xc4 (w2:=w.alloc (.cells (madeCells #[.int .u8 0] m) 5)) (g:=w.heap.size) (m:=m) (l:=[]) (by
  rw[heap_alloc_new]
  have:=toList_madeCells_one (.int .u8 0) m
  simp[splice,← this]) (by simp;unfold maxLen;omega)
 simpa using this
end Go.Proofs.YtjkgkmmkehnggaaGreatDoor
