/- bRn bMB bMG bMH. -/
import Derived.Test.YtjkgkmmkehnggaaGreatDoorVa3
import Derived.Lib.SlBytesConst
namespace Go.Proofs.YtjkgkmmkehnggaaGreatDoor
set_option linter.unusedVariables false
set_option linter.unusedSimpArgs false
open Go.RowKit Go.Shelf
set_option maxRecDepth 20000
def OffBb (S:Nat→Prop) (l:List En) (v:Value):Prop:=l≠[]→∀ a n c,v=.slice (some a) n c→¬ S a.block
theorem ens_lt {W:World} {v:Value} {l:List En} (he:EnsAt W v l) (hl:l≠[]) {a:Addr} {n c:Nat} (hv:v=.slice (some a) n c):a.block<W.heap.size:=by
 obtain⟨a',cap,rfl,h1,h2,hc⟩:=he
 obtain⟨g,off,ha,hg,_⟩:=hc 0 _ (List.getElem?_eq_getElem (List.length_pos_iff.2 hl))
 cases hv
 cases ha
 exact hg
theorem KeepsS.ens {S S':Nat→Prop} {W W':World} (h:KeepsS S S' W W') {v:Value} {l:List En} (hv:OffBb S l v) (he:EnsAt W v l):EnsAt W' v l:=by
 obtain⟨a,cap,rfl,h1,h2,hc⟩:=he
 refine⟨a,cap,rfl,h1,h2,fun k t ht=>?_⟩
 obtain⟨g,off,rfl,hg,c0,c1,c2,c3⟩:=hc k t ht
 have hn:¬ S g:=hv (fun h=>by rw[h] at ht;simp at ht) _ _ _ rfl
 exact⟨g,off,rfl,Nat.lt_of_lt_of_le hg h.size,h.cell hn c0,h.cell hn c1,h.cell hn c2,h.cell hn c3⟩
def BearsBb {β:Type} (T:Nat→Prop) (B:Nat) (J:β→World→Prop):Prop :=
 ∀ s X Y row,J s X→X.grownBy Y row→(∀ r,row=some r→T r∨(B≤r∧∃ o:Obj,X.heap[r]?=some o∧o.isCells=false))→J s Y
abbrev Bears2Bb (T:Nat→Prop) (B:Nat) (J:Nat→(Nat→Prop)→World→Prop):Prop:=BearsBb T B (fun(s:Nat × (Nat→Prop))=>J s.1 s.2)
theorem BearsBb.mono {β:Type} {T:Nat→Prop} {B B':Nat} {J:β→World→Prop} (h:BearsBb T B J) (hB:B≤B'):BearsBb T B' J:=fun s X Y row hs hg hr =>
 h s X Y row hs hg (fun r e=>(hr r e).imp id (fun h=>⟨Nat.le_trans hB h.1,h.2⟩))
theorem BearsBb.and {β:Type} {T:Nat→Prop} {B:Nat} {J J':β→World→Prop} (h:BearsBb T B J) (h':BearsBb T B J'):BearsBb T B (fun s W=>J s W∧J' s W):=fun s X Y row hs hg hr=>⟨h s X Y row hs.1 hg hr,h' s X Y row hs.2 hg hr⟩
theorem BearsBb.put {β:Type} {T:Nat→Prop} {B:Nat} {J:β→World→Prop} (h:BearsBb T B J) {s:β} {W:World} (hs:J s W) {l:Nat} {o:Obj} (o':Obj) (hB:B≤l) (hl:W.heap[l]?=some o) (ho:o.isCells=false):J s (W.putObj l o') :=
 h s W _ (some l) hs (grownBy_putObj' W l o') (fun r e=>by cases e;exact .inr ⟨hB,o,hl,ho⟩)
theorem BearsBb.grow {β:Type} {T:Nat→Prop} {B:Nat} {J:β→World→Prop} (h:BearsBb T B J) {s:β} {W W':World} (hs:J s W) (hb:Below W.heap.size W W'):J s W' :=
 h s W W' none hs ⟨hb.os,hb.tape,hb.output,hb.size,fun k hk _=>hb.block k hk⟩ (fun r e=>by cases e)
theorem BearsBb.alloc {β:Type} {T:Nat→Prop} {B:Nat} {J:β→World→Prop} (h:BearsBb T B J) {s:β} {W:World} (hs:J s W) (o:Obj):J s (W.alloc o):=h.grow hs ((Below.refl _ W).alloc (Nat.le_refl _) o)
theorem bears_belowBb {β:Type} {T:Nat→Prop} {n₀ B:Nat} {w₀:World} (h0:n₀≤w₀.heap.size) (hB:n₀≤B) (hT:∀ r,T r→n₀≤r):BearsBb T B (fun(_:β) W=>Below n₀ w₀ W):=fun s X Y row hs hg hr =>
 ⟨hg.os.trans hs.os,hg.tape.trans hs.tape,hg.output.trans hs.output,Nat.le_trans hs.size hg.size,fun k hk=>by
  refine(hg.block k ?_ (fun e=>?_)).trans (hs.block k hk)
  ·have:=hs.size;omega
  ·rcases hr k e.symm with h|h
   ·have:=hT k h;omega
   ·omega⟩
theorem bears_keepsBb {T S1:Nat→Prop} {B:Nat} {X:World} (hB:X.heap.size≤B) (hT:∀ r,T r→X.heap.size≤r):Bears2Bb T B (fun _ S W=>KeepsS S1 S X W):=fun s Y Z row hs hg hr =>
 ⟨Nat.le_trans hs.size hg.size,fun b o hb ho=>by
  have hY:=hs.same b o hb ho
  have hX:=hlt_of ho
  refine(hg.block b (hlt_of hY) (fun e=>?_)).trans hY
  rcases hr b e.symm with h|h
  ·have:=hT b h;omega
  ·omega,hs.own⟩
def SeqDBb (P:Program) (g:Nat) (lb:Array Value) (encs:Nat→Array Value) (N:Nat) (T V:Nat→Prop) (G:Nat→World→Prop) (Z:World→Prop) (w:World):Prop :=
 ∀ (n l:Nat) (J:Nat→(Nat→Prop)→World→Prop) (Jx:Nat→World→Prop) (S0:Nat→Prop) (W:World),Below w.heap.size w W →
  Bears2Bb T W.heap.size J→BearsBb T W.heap.size Jx→(∀ k S W1,J k S W1→G k W1∧∀ b,S b→b<W1.heap.size)→(∀ b,S0 b→b<W.heap.size∧¬ V b) →
  (∀ k S W1,J k S W1→k<N→YieldAt Fence.wide (n - 1) P l (encs k) W1 fun e W'=>(e=.returned (.bool true)∧∃ S',J (k+1) S' W'∧KeepsS S S' W1 W')∨(e=.returned (.bool false)∧Jx (k+1) W'∧∃ S',KeepsS S S' W1 W')) →
  J 0 S0 W→CallsIn Fence.wide n P g (#[.func (.yield l) #[] #[]]++lb) W fun e W'=>(∃ v,e=.returned v)∧((∃ S',J N S' W'∧Z W')∨∃ k,k≤N∧Jx k W')
def SeqYBb (P:Program) (g:Nat) (lb:Array Value) (encs:Nat→Array Value) (N:Nat) (T V:Nat→Prop) (G:Nat→World→Prop) (Y:Nat→World→Prop) (Z:World→Prop) (w:World):Prop :=
 ∀ (n l:Nat) (J:Nat→(Nat→Prop)→World→Prop) (Jx:Nat→World→Prop) (S0:Nat→Prop) (W:World),Below w.heap.size w W →
  Bears2Bb T W.heap.size J→BearsBb T W.heap.size Jx→(∀ k S W1,J k S W1→G k W1∧∀ b,S b→b<W1.heap.size)→(∀ b,S0 b→b<W.heap.size∧¬ V b) →
  (∀ k S W1,J k S W1→Y k W1→k<N→YieldAt Fence.wide (n - 1) P l (encs k) W1 fun e W'=>(e=.returned (.bool true)∧∃ S',J (k+1) S' W'∧KeepsS S S' W1 W')∨(e=.returned (.bool false)∧Jx (k+1) W'∧∃ S',KeepsS S S' W1 W')) →
  J 0 S0 W→CallsIn Fence.wide n P g (#[.func (.yield l) #[] #[]]++lb) W fun e W'=>(∃ v,e=.returned v)∧((∃ S',J N S' W'∧Z W')∨∃ k,k≤N∧Jx k W')
theorem SeqDBb.toY {P:Program} {g:Nat} {lb:Array Value} {encs:Nat→Array Value} {N:Nat} {T V:Nat→Prop} {G:Nat→World→Prop} {Z:World→Prop} {w:World} (h:SeqDBb P g lb encs N T V G Z w):SeqYBb P g lb encs N T V G (fun _ _=>True) Z w :=
 fun n l J Jx S0 W hW hJ hJx hG hS0 hY h0=>h n l J Jx S0 W hW hJ hJx hG hS0 (fun k S W1 hj hk=>hY k S W1 hj trivial hk) h0
set_option maxHeartbeats 1000000 in
theorem range_dBb {n:Nat} {P:Program} {w:World} {a:Act} {Q:Exit→Act→World→Prop} {g:Operand} {ps:Array Tmp} {assign body:Code}
  {gf:Nat} {lb:Array Value} (hg:a.eval g=.func (.func gf) #[] lb) (eg:∀ args w,(callFunc gf args).run P w=.ok (.enter gf args) w)
  {encs:Nat→Array Value} {N:Nat} {T V:Nat→Prop} {G:Nat→World→Prop} {Y:Nat→World→Prop} {Z:World→Prop} {w0:World} (hseq:SeqYBb P gf lb encs N T V G Y Z w0) (hb0:Below w0.heap.size w0 w)
  (hT:∀ r,T r→r<w.heap.size) (hV:∀ r,V r→r<w.heap.size) (hps:∀ k,(encs k).size=ps.size)
  (I:Nat→(Nat→Prop)→World→Prop) (Ix:Code→Nat→World→Prop) (hI:Bears2Bb T w.heap.size I) (hIx:∀ c,BearsBb T w.heap.size (Ix c)) (hG:∀ k S W,I k S W→G k W∧∀ b,S b→b<W.heap.size)
  (S0:Nat→Prop) (hS0:∀ b,S0 b→b<w.heap.size∧¬ V b) (h0:I 0 S0 w) (hZ:∀ (W:World) (l:Nat) (o o':Obj),Z W→w.heap.size≤l→W.heap[l]?=some o→o.isCells=false→Z (W.putObj l o'))
  (hYp:∀ (k:Nat) (W:World) (l:Nat) (o o':Obj),Y k W→w.heap.size≤l→W.heap[l]?=some o→o.isCells=false→Y k (W.putObj l o')) (Ax:Nat→Act→World→Prop) (hAx:∀ k a',BearsBb T w.heap.size (fun(_:Unit) W=>Ax k a' W))
  (hassign:∀ (l k:Nat) (S:Nat→Prop) (W:World) (K:Act→World→Prop),I k S W→Y k W→k<N→(∀ a' W' S',I k S' W'→Y k W'→KeepsS S S' W W'→Ax k a' W'→K a' W') →
   assign.wpIn (Fence.wide.inRound l) (n - 1 - 1) P (Exit.then K (fun _ _ _=>False)) { tmps:=(ps.zip (encs k)).foldl (fun t (p,v)=>t.setIfInBounds p v) a.tmps,defers:=[] } W)
  (hbody:∀ (l k:Nat) (S:Nat→Prop) (a':Act) (W:World),w.heap.size≤l→I k S W→Y k W→Ax k a' W→k<N→body.wpIn (Fence.wide.inRound l) (n - 1 - 1) P (postD I Ix (k+1) S W) a' W)
  (hdone:∀ (D:Nat) (S:Nat→Prop) (W:World),w.heap.size≤D→¬ S D→I N S W→Z W→W.heap[D]?=some (.deferred (some []))→Q .normal (markD D a) W)
  (hstop:∀ (D:Nat) (c:Code) (k:Nat) (W:World),w.heap.size≤D→k≤N→Ix c k W→W.heap[D]?=some (.deferred (some []))→c.wpIn Fence.wide n P Q (markD D a) W) :
  (Code.rangeFunc g ps assign body).wpIn Fence.wide n P Q a w:=by
 refine wpIn_rangeFunc fun fn hfn=>?_
 -- the record of the loop,and the world in which the iterator is called
 generalize hL:w.heap.size+1=L
 have hD:w.heap.size<L:=by omega
 let rec0:LoopState→Option Code→Loop:=fun st pe=>{ state:=st,pending:=pe,fn,tmps:=a.tmps,params:=ps,assign,body,defers:=w.heap.size }
 have hrec:rec0=fun st pe=>{ state:=st,pending:=pe,fn,tmps:=a.tmps,params:=ps,assign,body,defers:=w.heap.size }:=rfl
 generalize rec0=rec at hrec
 have hnew:Below w.heap.size w ((w.alloc (.deferred (some []))).alloc (.loop (rec .ready none))):=((Below.refl _ w).alloc (Nat.le_refl _) _).alloc (by simp) _
 have e1:((w.alloc (.deferred (some []))).alloc (.loop (rec .ready none))).heap[L]?=some (.loop (rec .ready none)):=by
  have:=World.alloc_heap_new (w.alloc (.deferred (some []))) (.loop (rec .ready none))
  rwa[World.size_alloc,hL] at this
 have e2:((w.alloc (.deferred (some []))).alloc (.loop (rec .ready none))).heap[w.heap.size]?=some (.deferred (some [])) :=
  (Below.heap_alloc _ _ _ (by simp)).trans (World.alloc_heap_new w _)
 have e3:((w.alloc (.deferred (some []))).alloc (.loop (rec .ready none))).heap.size=L+1:=by simp;omega
 have e4:(Instr.enterLoop fn a.tmps ps assign body Fence.wide.round).run P w=.ok (L,[{ target:=.collected w.heap.size,args:=#[] }]) ((w.alloc (.deferred (some []))).alloc (.loop (rec .ready none))):=by
  rw[hrec,← hL];exact run_enterLoop_outer _ _ _ _ _
 generalize (w.alloc (.deferred (some []))).alloc (.loop (rec .ready none))=W1 at hnew e1 e2 e3 e4
 refine⟨L,_,W1,{ target:=.fn (.func gf) lb,args:=#[.func (.yield L) #[] #[]] },W1,gf,#[.func (.yield L) #[] #[]]++lb,W1,e4,?_,fun _ _=>trivial,?_,fun h=>absurd h (by simp[Fence.wide]),?_⟩
 ·simp only[resolve,hg];simp[go_sem]
 ·simp[invoke,go_sem,eg]
 have hmonoI:Bears2Bb T (L+1) I:=hI.mono (by omega)
 refine(hseq (n - 1) L
  (fun k S W=>∃ S1,(∀ b,S b↔(S1 b∨b=L))∧I k S1 W∧(¬ S1 L∧¬ S1 w.heap.size)∧W.heap[L]?=some (.loop (rec .ready none))∧W.heap[w.heap.size]?=some (.deferred (some [])))
  (fun k W=>∃ c,Ix c k W∧W.heap[L]?=some (.loop (rec .done (some c)))∧W.heap[w.heap.size]?=some (.deferred (some [])))
  (fun b=>S0 b∨b=L) W1 (hb0.trans (hnew.mono hb0.size)) ?_ ?_ ?_ ?_ ?_ ?_).mono ?_
 ·rintro⟨k,S⟩ X Y row ⟨S1,hS,hi,hl,h1,h2⟩ hgr hr
  refine⟨S1,hS,hmonoI (k,S1) X Y row hi hgr (by rw[e3] at hr;exact hr),hl,?_,?_⟩
  ·refine(hgr.block L (hlt_of h1) (fun e=>?_)).trans h1
   rcases hr L e.symm with h|h
   ·have:=hT L h;omega
   ·omega
  ·refine(hgr.block _ (hlt_of h2) (fun e=>?_)).trans h2
   rcases hr _ e.symm with h|h
   ·have:=hT _ h;omega
   ·omega
 ·rintro k X Y row ⟨c,hi,h1,h2⟩ hgr hr
  refine⟨c,(hIx c).mono (B':=L+1) (by omega) k X Y row hi hgr (by rw[e3] at hr;exact hr),?_,?_⟩
  ·refine(hgr.block L (hlt_of h1) (fun e=>?_)).trans h1
   rcases hr L e.symm with h|h
   ·have:=hT L h;omega
   ·omega
  ·refine(hgr.block _ (hlt_of h2) (fun e=>?_)).trans h2
   rcases hr _ e.symm with h|h
   ·have:=hT _ h;omega
   ·omega
 ·rintro k S W ⟨S1,hS,hi,_,hl,_⟩
  refine⟨(hG _ _ _ hi).1,fun b hb=>?_⟩
  rcases(hS b).1 hb with h|rfl
  ·exact(hG _ _ _ hi).2 b h
  ·exact hlt_of hl
 ·rintro b (hb|rfl)
  ·have:=hS0 b hb;exact⟨by omega,this.2⟩
  ·exact⟨by omega,fun hv=>by have:=hV _ hv;omega⟩
 ·-- a round
  rintro k S W ⟨S1,hS,hi,⟨hs1,hs2⟩,hl,hk⟩ hyk hlt
  have hy:=run_yield (P:=P) (args:=encs k) hl (by rw[hrec];exact hps k)
  rw[hrec] at hy
  refine⟨fn,_,assign,body,hy,roundIn_of_wpIn hfn (hassign L k S1 W _ hi hyk hlt ?_)⟩
  clear hy
  intro a' Wa Sa hia hya hka hax
  have hla:=hka.same _ _ hs1 hl
  have hda:=hka.same _ _ hs2 hk
  have hLW:=hlt_of hl
  have hsa1:¬ Sa L:=fun h=>by rcases hka.own _ h with h|h <;> first|exact hs1 h|omega
  have hsa2:¬ Sa w.heap.size:=fun h=>by rcases hka.own _ h with h|h <;> first|exact hs2 h|omega
  refine⟨_,run_beginRound hla (by rw[hrec]),?_⟩
  have hlb:(Wa.putObj L (.loop { rec .ready none with state:=.busy })).heap[L]?=some (.loop { rec .ready none with state:=.busy }):=World.putObj_heap_same (hlt_of hla)
  have hdb:(Wa.putObj L (.loop { rec .ready none with state:=.busy })).heap[w.heap.size]?=some (.deferred (some [])):=(World.putObj_heap_other (by omega)).trans hda
  have hpb:∀ b,b≠L→(Wa.putObj L (.loop { rec .ready none with state:=.busy })).heap[b]?=Wa.heap[b]?:=fun b hb=>World.putObj_heap_other hb
  have hszb:(Wa.putObj L (.loop { rec .ready none with state:=.busy })).heap.size=Wa.heap.size:=by simp
  refine wpIn_mono (hbody L k Sa a' _ (by omega) (hI.put (s:=(k,Sa)) hia _ (by omega) hla rfl) (hYp k _ _ _ _ hya (by omega) hla rfl) ((hAx k a').put (s:=()) hax _ (by omega) hla rfl) hlt) ?_
  generalize Wa.putObj L (.loop { rec .ready none with state:=.busy })=Wb at hlb hdb hpb hszb
  -- what any way out leaves
  have fin:∀ (jump:Option Code) (W3:World) (S3:Nat→Prop),KeepsS Sa S3 Wb W3 →
    (Instr.endRound L jump).run P W3=.ok (.bool jump.isNone) (W3.putObj L (.loop (rec (if jump.isNone then .ready else .done) jump))) ∧
    W3.heap[L]?=some (.loop { rec .ready none with state:=.busy }) ∧
    (W3.putObj L (.loop (rec (if jump.isNone then .ready else .done) jump))).heap[L]?=some (.loop (rec (if jump.isNone then .ready else .done) jump)) ∧
    (W3.putObj L (.loop (rec (if jump.isNone then .ready else .done) jump))).heap[w.heap.size]?=some (.deferred (some []))∧(¬ S3 L∧¬ S3 w.heap.size)∧KeepsS S (fun b=>S3 b∨b=L) W (W3.putObj L (.loop (rec (if jump.isNone then .ready else .done) jump))):=by
   intro jump W3 S3 hk3
   have hl3:=hk3.same _ _ hsa1 hlb
   have hd3:=hk3.same _ _ hsa2 hdb
   have hLb:=hlt_of hlb
   have hr3:=run_endRound (P:=P) jump hl3
   refine⟨by rw[hrec] at hr3 ⊢;exact hr3,hl3,World.putObj_heap_same (hlt_of hl3),(World.putObj_heap_other (by omega)).trans hd3,⟨fun h=>?_,fun h=>?_⟩,?_⟩
   ·rcases hk3.own _ h with h|h <;> first|exact hsa1 h|omega
   ·rcases hk3.own _ h with h|h <;> first|exact hsa2 h|omega
   ·refine⟨?_,fun b o hb ho=>?_,fun b hb=>?_⟩
    ·have:=hka.size;have:=hk3.size;simp;omega
    ·have hb1:¬ S1 b:=fun h=>hb ((hS b).2 (.inl h))
     have hb2:b≠L:=fun h=>hb ((hS b).2 (.inr h))
     have hb3:¬ Sa b:=fun h=>by have:=hlt_of ho;rcases hka.own _ h with h|h <;> first|exact hb1 h|omega
     refine(World.putObj_heap_other hb2).trans (hk3.same _ _ hb3 ((hpb b hb2).trans (hka.same _ _ hb1 ho)))
    ·rcases hb with hb|hb
     ·rcases hk3.own _ hb with h|h
      ·exact(hka.own _ h).imp (fun h=>(hS b).2 (.inl h)) id
      ·have:=hka.size;exact .inr (by omega)
     ·exact .inl ((hS b).2 (.inr hb))
  rintro e a3 W3 hp
  cases e with
  | normal =>
   obtain⟨S3,hi3,hk3⟩:=hp
   obtain⟨hr3,hl3,hl4,hd4,hn1,hn2⟩:=fin none W3 S3 hk3
   refine⟨_,_,hr3,.inl ⟨rfl,fun b=>S3 b∨b=L,⟨S3,fun b=>Iff.rfl,hI.put (s:=(k+1,S3)) hi3 _ (by omega) hl3 rfl,hn1,hl4,hd4⟩,hn2⟩⟩
  | ret =>
   obtain⟨hi3,S3,hk3⟩:=hp
   obtain⟨hr3,hl3,hl4,hd4,hn1,hn2⟩:=fin (some .ret) W3 S3 hk3
   exact⟨_,_,hr3,.inr ⟨rfl,⟨.ret,(hIx _).put hi3 _ (by omega) hl3 rfl,hl4,hd4⟩,_,hn2⟩⟩
  | exit id =>
   obtain⟨hi3,S3,hk3⟩:=hp
   obtain⟨hr3,hl3,hl4,hd4,hn1,hn2⟩:=fin (some (.exit id)) W3 S3 hk3
   exact⟨_,_,hr3,.inr ⟨rfl,⟨.exit id,(hIx _).put hi3 _ (by omega) hl3 rfl,hl4,hd4⟩,_,hn2⟩⟩
  | goto t =>
   obtain⟨hi3,S3,hk3⟩:=hp
   obtain⟨hr3,hl3,hl4,hd4,hn1,hn2⟩:=fin (some (.goto t)) W3 S3 hk3
   exact⟨_,_,hr3,.inr ⟨rfl,⟨.goto t,(hIx _).put hi3 _ (by omega) hl3 rfl,hl4,hd4⟩,_,hn2⟩⟩
  | panic ch=>exact hp.elim
  | outgrown=>exact hp.elim
 ·have hs0L:¬ S0 L:=fun h=>by have:=(hS0 _ h).1;omega
  have hs0D:¬ S0 w.heap.size:=fun h=>by have:=(hS0 _ h).1;omega
  exact⟨S0,fun b=>Iff.rfl,hI.grow (s:=(0,S0)) h0 hnew,⟨hs0L,hs0D⟩,e1,e2⟩
 ·-- behind the iterator
  rintro e W2 ⟨⟨v,rfl⟩,(⟨S',⟨S1,hS,hi,hnD,hl,hk⟩,hz⟩|⟨k,hk1,c,hi,hl,hk⟩)⟩
  ·refine⟨none,_,by have:=run_endLoop (P:=P) hl (by rw[hrec];simp);rw[hrec] at this;exact this,?_⟩
   exact hdone _ S1 _ (Nat.le_refl _) hnD.2 (hI.put (s:=(N,S1)) hi _ (by omega) hl rfl) (hZ _ _ _ _ hz (by omega) hl rfl) ((World.putObj_heap_other (by omega)).trans hk)
  ·refine⟨some c,_,by have:=run_endLoop (P:=P) hl (by rw[hrec];simp);rw[hrec] at this;exact this,?_⟩
   exact hstop _ c k _ (Nat.le_refl _) hk1 ((hIx c).put hi _ (by omega) hl rfl) ((World.putObj_heap_other (by omega)).trans hk)
theorem range_d1Bb {n:Nat} {P:Program} {w:World} {a:Act} {Q:Exit→Act→World→Prop} {g:Operand} {assign body:Code}
  {gf:Nat} {lb:Array Value} (hg:a.eval g=.func (.func gf) #[] lb) (eg:∀ args w,(callFunc gf args).run P w=.ok (.enter gf args) w)
  {val:Nat→Value} {p:Nat} {r:Nat} {N:Nat} {T V:Nat→Prop} {G:Nat→World→Prop} {Z:World→Prop} {w0:World} (hseq:SeqDBb P gf lb (fun k=>#[val k]) N T V G Z w0) (hb0:Below w0.heap.size w0 w)
  (hT:∀ r,T r→r<w.heap.size) (hV:∀ r,V r→r<w.heap.size)
  (I:Nat→(Nat→Prop)→World→Prop) (Ix:Code→Nat→World→Prop) (hI:Bears2Bb T w.heap.size I) (hIx:∀ c,BearsBb T w.heap.size (Ix c)) (hG:∀ k S W,I k S W→G k W∧∀ b,S b→b<W.heap.size)
  (S0:Nat→Prop) (hS0:∀ b,S0 b→b<w.heap.size∧¬ V b) (h0:I 0 S0 w) (hZ:∀ (W:World) (l:Nat) (o o':Obj),Z W→w.heap.size≤l→W.heap[l]?=some o→o.isCells=false→Z (W.putObj l o'))
  (hassign:∀ (l k:Nat) (W:World) (K:Act→World→Prop),K { tmps:=(a.tmps.setIfInBounds p (val k)).setIfInBounds r (val k),defers:=[] } W→assign.wpIn (Fence.wide.inRound l) (n - 1 - 1) P (Exit.then K (fun _ _ _=>False)) { tmps:=a.tmps.setIfInBounds p (val k),defers:=[] } W)
  (hbody:∀ (l k:Nat) (S:Nat→Prop) (W:World),w.heap.size≤l→I k S W→k<N→body.wpIn (Fence.wide.inRound l) (n - 1 - 1) P (postD I Ix (k+1) S W) { tmps:=(a.tmps.setIfInBounds p (val k)).setIfInBounds r (val k),defers:=[] } W)
  (hdone:∀ (D:Nat) (S:Nat→Prop) (W:World),w.heap.size≤D→¬ S D→I N S W→Z W→W.heap[D]?=some (.deferred (some []))→Q .normal (markD D a) W)
  (hstop:∀ (D:Nat) (c:Code) (k:Nat) (W:World),w.heap.size≤D→k≤N→Ix c k W→W.heap[D]?=some (.deferred (some []))→c.wpIn Fence.wide n P Q (markD D a) W) :
  (Code.rangeFunc g #[p] assign body).wpIn Fence.wide n P Q a w :=
 range_dBb hg eg hseq.toY hb0 hT hV (fun _=>rfl) I Ix hI hIx hG S0 hS0 h0 hZ (fun _ _ _ _ _ _ _ _ _=>trivial) (fun k a' _=>a'={ tmps:=(a.tmps.setIfInBounds p (val k)).setIfInBounds r (val k),defers:=[] }) (fun k a' _ X Y row hs _ _=>hs)
  (fun l k S W K hi _ hk hK=>by
   have h:=hassign l k W K (hK _ W S hi trivial ⟨Nat.le_refl _,fun _ _ _ h=>h,fun _ h=>.inl h⟩ rfl)
   have e:Array.foldl (fun t (y:Nat × Value)=>t.setIfInBounds y.1 y.2) a.tmps (#[p].zip #[val k])=a.tmps.setIfInBounds p (val k):=by simp
   rw[← e] at h
   exact h)
  (fun l k S a' W hl hi _ hax hk=>by subst hax;exact hbody l k S W hl hi hk)
  hdone hstop
theorem range_d2Bb {n:Nat} {P:Program} {w:World} {a:Act} {Q:Exit→Act→World→Prop} {g:Operand} {assign body:Code}
  {gf:Nat} {lb:Array Value} (hg:a.eval g=.func (.func gf) #[] lb) (eg:∀ args w,(callFunc gf args).run P w=.ok (.enter gf args) w)
  {val va2:Nat→Value} {p q:Nat} {r s:Nat} {N:Nat} {T V:Nat→Prop} {G:Nat→World→Prop} {Y:Nat→World→Prop} {Z:World→Prop} {w0:World} (hseq:SeqYBb P gf lb (fun k=>#[val k,va2 k]) N T V G Y Z w0) (hb0:Below w0.heap.size w0 w)
  (hT:∀ r,T r→r<w.heap.size) (hV:∀ r,V r→r<w.heap.size)
  (I:Nat→(Nat→Prop)→World→Prop) (Ix:Code→Nat→World→Prop) (hI:Bears2Bb T w.heap.size I) (hIx:∀ c,BearsBb T w.heap.size (Ix c)) (hG:∀ k S W,I k S W→G k W∧∀ b,S b→b<W.heap.size)
  (S0:Nat→Prop) (hS0:∀ b,S0 b→b<w.heap.size∧¬ V b) (h0:I 0 S0 w) (hZ:∀ (W:World) (l:Nat) (o o':Obj),Z W→w.heap.size≤l→W.heap[l]?=some o→o.isCells=false→Z (W.putObj l o'))
  (hYp:∀ (k:Nat) (W:World) (l:Nat) (o o':Obj),Y k W→w.heap.size≤l→W.heap[l]?=some o→o.isCells=false→Y k (W.putObj l o'))
  (hassign:∀ (l k:Nat) (W:World) (K:Act→World→Prop),K { tmps:=(((a.tmps.setIfInBounds p (val k)).setIfInBounds q (va2 k)).setIfInBounds r (val k)).setIfInBounds s (va2 k),defers:=[] } W→assign.wpIn (Fence.wide.inRound l) (n - 1 - 1) P (Exit.then K (fun _ _ _=>False)) { tmps:=(a.tmps.setIfInBounds p (val k)).setIfInBounds q (va2 k),defers:=[] } W)
  (hbody:∀ (l k:Nat) (S:Nat→Prop) (W:World),w.heap.size≤l→I k S W→Y k W→k<N→body.wpIn (Fence.wide.inRound l) (n - 1 - 1) P (postD I Ix (k+1) S W) { tmps:=(((a.tmps.setIfInBounds p (val k)).setIfInBounds q (va2 k)).setIfInBounds r (val k)).setIfInBounds s (va2 k),defers:=[] } W)
  (hdone:∀ (D:Nat) (S:Nat→Prop) (W:World),w.heap.size≤D→¬ S D→I N S W→Z W→W.heap[D]?=some (.deferred (some []))→Q .normal (markD D a) W)
  (hstop:∀ (D:Nat) (c:Code) (k:Nat) (W:World),w.heap.size≤D→k≤N→Ix c k W→W.heap[D]?=some (.deferred (some []))→c.wpIn Fence.wide n P Q (markD D a) W) :
  (Code.rangeFunc g #[p,q] assign body).wpIn Fence.wide n P Q a w :=
 range_dBb hg eg hseq hb0 hT hV (fun _=>rfl) I Ix hI hIx hG S0 hS0 h0 hZ hYp (fun k a' _=>a'={ tmps:=(((a.tmps.setIfInBounds p (val k)).setIfInBounds q (va2 k)).setIfInBounds r (val k)).setIfInBounds s (va2 k),defers:=[] }) (fun k a' _ X Y row hs _ _=>hs)
  (fun l k S W K hi hy hk hK=>by
   have h:=hassign l k W K (hK _ W S hi hy ⟨Nat.le_refl _,fun _ _ _ h=>h,fun _ h=>.inl h⟩ rfl)
   have e:Array.foldl (fun t (y:Nat × Value)=>t.setIfInBounds y.1 y.2) a.tmps (#[p,q].zip #[val k,va2 k])=(a.tmps.setIfInBounds p (val k)).setIfInBounds q (va2 k):=by simp
   rw[← e] at h
   exact h)
  (fun l k S a' W hl hi hy hax hk=>by subst hax;exact hbody l k S W hl hi hy hk)
  hdone hstop
end Go.Proofs.YtjkgkmmkehnggaaGreatDoor
namespace Go.Proofs.YtjkgkmmkehnggaaGreatDoor
set_option linter.unusedVariables false
set_option linter.unusedSimpArgs false
open Go.RowKit
set_option maxRecDepth 20000
def p7:Nat→Int
 | 0=>1
 | k+1=>128*p7 k
def encF:Nat→Int→List Int
 | 0,x=>[x]
 | k+1,x=>if x<128 then [x] else (x % 128+128) :: encF k (x / 128)
def enc (x:Int):List Int:=encF 9 x
theorem p7_pos (k:Nat):1≤p7 k:=by
 induction k with
 | zero=>simp[p7]
 | succ k ih=>simp only[p7];omega
theorem p7_mono (j k:Nat) (h:j≤k):p7 j≤p7 k:=by
 induction h with
 | refl=>omega
 | step _ ih=>simp only[p7];have:=p7_pos j;omega
theorem div_lt_p7 (x:Int) (k:Nat) (h:x<p7 (k+1)):x / 128<p7 k:=by
 simp only[p7] at h;omega
theorem encF_more (k:Nat) (x:Int) (h0:0≤x) (h:x<p7 (k+1)):encF (k+1) x=encF k x:=by
 induction k generalizing x with
 | zero =>
  simp only[p7] at h
  have:x<128:=by omega
  simp[encF,this]
 | succ k ih =>
  rw[encF]
  by_cases hx:x<128
  ·rw[if_pos hx,encF,if_pos hx]
  ·rw[if_neg hx,ih (x / 128) (by omega) (div_lt_p7 x (k+1) h)]
   conv=>rhs;rw[encF,if_neg hx]
theorem p7_top:p7 10=1180591620717411303424∧p7 9=9223372036854775808:=by decide
theorem enc_lt (x:Int) (h:x<128):enc x=[x]:=by unfold enc;rw[encF,if_pos h]
theorem enc_ge (x:Int) (h:128≤x) (h1:x≤18446744073709551615):enc x=(x % 128+128) :: enc (x / 128):=by
 unfold enc
 rw[encF,if_neg (by omega),← encF_more 8 (x / 128) (by omega) (by rw[p7_top.2];omega)]
theorem encF_len (k:Nat) (x:Int):1≤(encF k x).length∧(encF k x).length≤k+1:=by
 induction k generalizing x with
 | zero=>simp[encF]
 | succ k ih =>
  rw[encF]
  split
  ·simp
  ·have:=ih (x / 128)
   simp only[List.length_cons];omega
theorem enc_len (x:Int):1≤(enc x).length∧(enc x).length≤10:=encF_len 9 x
theorem encF_up (k:Nat) (x:Int) (h:x<p7 (k+1)):x<p7 (encF k x).length:=by
 induction k generalizing x with
 | zero=>simpa[encF] using h
 | succ k ih =>
  rw[encF]
  split
  ·simp[p7];assumption
  ·have:=ih (x / 128) (div_lt_p7 x (k+1) h)
   simp only[List.length_cons,p7];omega
theorem encF_dn (k:Nat) (x:Int) (h:2≤(encF k x).length):p7 ((encF k x).length - 1)≤x:=by
 induction k generalizing x with
 | zero=>simp[encF] at h
 | succ k ih =>
  rw[encF] at h ⊢
  split at h
  ·simp at h
  ·rename_i hx
   rw[if_neg hx]
   simp only[List.length_cons] at h ⊢
   have h1:=(encF_len k (x / 128)).1
   by_cases h2:2≤(encF k (x / 128)).length
   ·have:=ih (x / 128) h2
    obtain⟨m,hm⟩:∃ m,(encF k (x / 128)).length=m+1:=⟨(encF k (x / 128)).length - 1,by omega⟩
    rw[hm] at this ⊢
    simp only[Nat.add_sub_cancel,p7] at this ⊢
    omega
   ·rw[show (encF k (x / 128)).length=1 from by omega]
    simp only[Nat.add_sub_cancel,p7];omega
theorem enc_up (x:Int) (h1:x≤18446744073709551615):x<p7 (enc x).length:=encF_up 9 x (by have:=p7_top.1;simp only[Nat.reduceAdd];omega)
theorem enc_dn (x:Int) (h:2≤(enc x).length):p7 ((enc x).length - 1)≤x:=encF_dn 9 x h
def lead:Nat→List UInt8→Nat
 | 0,_=>0
 | _+1,[]=>0
 | k+1,c :: t=>if 128≤c.toNat then lead k t+1 else 0
def numV:List UInt8→Int
 | []=>0
 | c :: t=>(c.toNat:Int) % 128+128*numV t
def errV (l:List UInt8):Int :=
 if lead 10 l=10 then 11 else if lead 10 l=l.length then 3 else if lead 10 l=9∧1<(l.getD (lead 10 l) 0).toNat then 11 else if 0<lead 10 l∧(l.getD (lead 10 l) 0).toNat=0 then 4 else 0
def cntV (l:List UInt8):Int:=(lead 10 l+1:Nat)
def valV (l:List UInt8):Int:=numV (l.take (lead 10 l+1))
theorem lead_le (k:Nat) (l:List UInt8):lead k l≤k∧lead k l≤l.length:=by
 induction k generalizing l with
 | zero=>simp[lead]
 | succ k ih =>
  cases l with
  | nil=>simp[lead]
  | cons c t =>
   rw[lead]
   have:=ih t
   split <;> simp only[List.length_cons] <;> omega
theorem lead_lt (k:Nat) (l:List UInt8) (i:Nat) (h:i<lead k l):128≤(l.getD i 0).toNat:=by
 induction k generalizing l i with
 | zero=>simp[lead] at h
 | succ k ih =>
  cases l with
  | nil=>simp[lead] at h
  | cons c t =>
   rw[lead] at h
   split at h
   ·cases i with
    | zero=>simpa
    | succ i=>simpa using ih t i (by omega)
   ·omega
theorem lead_next (k:Nat) (l:List UInt8) (i:Nat) (h:i≤lead k l) (hk:i<k) (hl:i<l.length) (hc:128≤(l.getD i 0).toNat):i+1≤lead k l:=by
 induction k generalizing l i with
 | zero=>omega
 | succ k ih =>
  cases l with
  | nil=>simp at hl
  | cons c t =>
   rw[lead] at h ⊢
   cases i with
   | zero =>
    have:128≤c.toNat:=by simpa using hc
    rw[if_pos this];omega
   | succ i =>
    split at h
    ·rename_i hh
     rw[if_pos hh]
     have:=ih t i (by omega) (by omega) (by simpa using hl) (by simpa using hc)
     omega
    ·omega
theorem lead_at (l:List UInt8) (i:Nat) (h:i≤lead 10 l) (hs:i=10∨i=l.length∨(l.getD i 0).toNat<128):lead 10 l=i:=by
 have h1:=lead_le 10 l
 by_cases he:i=lead 10 l
 ·exact he.symm
 ·have:=lead_lt 10 l i (by omega)
  omega
theorem byte_lt (c:UInt8):c.toNat<256:=c.toNat_lt
theorem numV_bd (l:List UInt8):0≤numV l∧numV l<p7 l.length:=by
 induction l with
 | nil=>simp[numV,p7]
 | cons c t ih =>
  simp only[numV,p7,List.length_cons]
  omega
theorem numV_snoc (l:List UInt8) (c:UInt8):numV (l++[c])=numV l+(c.toNat:Int) % 128*p7 l.length:=by
 induction l with
 | nil=>simp[numV,p7]
 | cons d t ih =>
  rw[List.cons_append]
  simp only[numV,ih,p7,List.length_cons]
  rw[Int.mul_add,← Int.mul_assoc,Int.mul_comm 128 ((c.toNat:Int) % 128),Int.mul_assoc,Int.add_assoc]
theorem numV_take (l:List UInt8) (i:Nat) (h:i<l.length):numV (l.take (i+1))=numV (l.take i)+((l.getD i 0).toNat:Int) % 128*p7 i:=by
 rw[List.take_succ_eq_append_getElem h,numV_snoc]
 simp[h,Nat.min_eq_left (Nat.le_of_lt h)]
theorem valV_bd (l:List UInt8) (h:errV l=0):0≤valV l∧valV l≤18446744073709551615:=by
 have h1:=lead_le 10 l
 unfold errV at h
 split at h
 ·cases h
 rename_i a
 split at h
 ·cases h
 rename_i b
 split at h
 ·cases h
 rename_i c
 unfold valV
 refine⟨(numV_bd _).1,?_⟩
 by_cases h9:lead 10 l=9
 ·rw[numV_take l _ (by omega)]
  have h2:=(numV_bd (l.take (lead 10 l))).2
  rw[h9] at h2 c ⊢
  have h3:(l.take 9).length=9:=by simp;omega
  rw[h3] at h2
  have h4:=p7_top.2
  rw[h4] at h2 ⊢
  have:(l.getD 9 0).toNat≤1:=by omega
  omega
 ·have h2:=(numV_bd (l.take (lead 10 l+1))).2
  have h3:=p7_mono (l.take (lead 10 l+1)).length 9 (by simp;omega)
  have h4:=p7_top.2
  omega
def ub (n:Int):UInt8:=UInt8.ofNat n.toNat
theorem ub_back (c:UInt8):ub (c.toNat:Int)=c:=by unfold ub;simp
theorem read_enc (k:Nat) (l:List UInt8) (hk:l.length≤k+1) (h:∀ i,i+1<l.length→128≤(l.getD i 0).toNat) (h1:0<l.length) (h2:(l.getD (l.length - 1) 0).toNat<128) (h3:1<l.length→(l.getD (l.length - 1) 0).toNat≠0):encF k (numV l)=l.map (fun c=>(c.toNat:Int))∧(1<l.length→1≤numV l)∧(l.length=1→numV l=(l.getD 0 0).toNat):=by
 induction l generalizing k with
 | nil=>simp at h1
 | cons c t ih =>
  cases t with
  | nil =>
   have hc:c.toNat<128:=by simpa using h2
   have e:numV [c]=c.toNat:=by simp only[numV];omega
   refine⟨?_,by simp,fun _=>by rw[e];simp⟩
   rw[e]
   cases k with
   | zero=>simp[encF]
   | succ k=>rw[encF,if_pos (by omega)];simp
  | cons d t =>
   have hc:128≤c.toNat:=by simpa using h 0 (by simp)
   have hc':=byte_lt c
   cases k with
   | zero=>simp at hk
   | succ k =>
    have hh:=ih k (by simpa using hk) (fun i hi=>by simpa using h (i+1) (by simpa using hi)) (by simp) (by simpa using h2) (fun _=>by simpa using h3 (by simp))
    have hl:(d.toNat≠0∨1<(d :: t).length):=by
     cases t with
     | nil=>left;simpa using h3 (by simp)
     | cons _ _=>right;simp
    have h1':1≤numV (d :: t):=by
     by_cases hq:1<(d :: t).length
     ·exact hh.2.1 hq
     ·have:=hh.2.2 (by simp at hq ⊢;exact hq)
      rw[this]
      simp only[List.getD_cons_zero]
      omega
    have e:numV (c :: d :: t)=(c.toNat:Int) % 128+128*numV (d :: t):=rfl
    refine⟨?_,fun _=>by omega,by simp⟩
    rw[e,encF,if_neg (by omega),List.map_cons,show ((c.toNat:Int) % 128+128*numV (d :: t)) / 128=numV (d :: t) from by omega,hh.1]
    congr 1
    omega
theorem errV_ok (l:List UInt8) (h:errV l=0):lead 10 l≤9∧lead 10 l<l.length∧(lead 10 l=9→(l.getD (lead 10 l) 0).toNat≤1)∧(0<lead 10 l→(l.getD (lead 10 l) 0).toNat≠0)∧(l.getD (lead 10 l) 0).toNat<128:=by
 have h1:=lead_le 10 l
 unfold errV at h
 split at h
 ·cases h
 rename_i a
 split at h
 ·cases h
 rename_i b
 split at h
 ·cases h
 rename_i c
 split at h
 ·cases h
 rename_i d
 refine⟨by omega,by omega,fun h=>by omega,fun h=>by omega,?_⟩
 by_cases hx:(l.getD (lead 10 l) 0).toNat<128
 ·exact hx
 ·have:=lead_next 10 l (lead 10 l) (Nat.le_refl _) (by omega) (by omega) (by omega)
  omega
theorem read_back (l:List UInt8) (h:errV l=0):enc (valV l)=(l.take (lead 10 l+1)).map (fun c=>(c.toNat:Int)):=by
 obtain⟨h1,h2,h3,h4,h5⟩:=errV_ok l h
 have hl:(l.take (lead 10 l+1)).length=lead 10 l+1:=by simp;omega
 have hg:∀ i,i<lead 10 l+1→(l.take (lead 10 l+1)).getD i 0=l.getD i 0:=by
  intro i hi
  simp[hi]
 refine(read_enc 9 (l.take (lead 10 l+1)) (by omega) ?_ (by omega) ?_ ?_).1
 ·intro i hi
  rw[hg i (by omega)]
  exact lead_lt 10 l i (by omega)
 ·rw[hl,Nat.add_sub_cancel,hg _ (by omega)];exact h5
 ·intro hx
  rw[hl,Nat.add_sub_cancel,hg _ (by omega)];exact h4 (by omega)
theorem or_one (x:Int) (x0:0≤x) (x1:x≤18446744073709551615):bits BinOp.or IntKind.u64 x 1=2*(x / 2)+1:=by
 rw[u64_or _ _ (by omega) (by omega) (by omega) (by omega)]
 have h:x.toNat ||| (1:Int).toNat=2*(x.toNat / 2)+1:=by
  rcases Nat.mod_two_eq_zero_or_one x.toNat with h|h
  ·rw[show (1:Int).toNat=1 from rfl,nat_join 1 _ _ (by omega) (by omega)];omega
  ·have e:x.toNat=(2*(x.toNat / 2)) ||| 1:=by rw[nat_join 1 _ _ (by omega) (by omega)];omega
   rw[show (1:Int).toNat=1 from rfl]
   conv=>lhs;rw[e,Nat.or_assoc,Nat.or_self]
   rw[nat_join 1 _ _ (by omega) (by omega)]
 rw[h];omega
theorem two7 (m:Nat):((2 ^ (7*m):Nat):Int)=p7 m:=by
 induction m with
 | zero=>rfl
 | succ m ih =>
  rw[show 7*(m+1)=7*m+7 from by omega,Nat.pow_add,p7,← ih]
  simp only[Nat.reducePow];omega
theorem len_size (x:Int) (n:Nat) (x0:0≤x) (x1:x≤18446744073709551615) (h:Len n (2*(x / 2)+1)):(n+6) / 7=(enc x).length:=by
 obtain⟨h64,h⟩:=h
 have hu:=enc_up x x1
 have hd:=enc_dn x
 have hl:=enc_len x
 generalize (enc x).length=m at *
 rcases h with ⟨rfl,h⟩|⟨hn,ha,hb⟩
 ·omega
 have h1:n≤7*m:=by
  rcases Nat.lt_or_ge (7*m) n with hc|hc
  ·have:=Nat.pow_le_pow_right (by omega:0<2) (by omega:7*m≤n - 1)
   have e:=two7 m
   have ev:p7 m % 2=0:=by
    obtain⟨k,rfl⟩:∃ k,m=k+1:=⟨m - 1,by omega⟩
    rw[p7];omega
   omega
  ·exact hc
 have h2:7*(m - 1)<n:=by
  rcases Nat.lt_or_ge (7*(m - 1)) n with hc|hc
  ·exact hc
  ·have:=Nat.pow_le_pow_right (by omega:0<2) hc
   have e:=two7 (m - 1)
   by_cases hm:2≤m
   ·have:=hd hm
    omega
   ·omega
 omega
theorem size_any (x:Int) (w:World) (x0:0≤x) (x1:x≤18446744073709551615):Calls Tryz.prog 142 #[.int .u64 x] w fun e w'=>e=.returned (.int .i64 (enc x).length)∧w=w':=by
 have ho:=or_one x x0 x1
 go_enter Tryz.func142,Tryz.ntmps142
 go_wp2_with fail
 refine(len64_any _ _ (by omega) (by omega)).mono ?_
 rintro e w' ⟨⟨n,rfl,hn⟩,rfl⟩
 have hs:=len_size x n x0 x1 hn
 have h64:=hn.1
 clear hn ho
 go_wp2
 go_ret
 refine⟨ret_int ?_,rfl⟩
 omega
theorem infoU8:(Tryz.prog.info? 5).map (fun i=>(i.zero,i.size,i.bytes))=some (some (.int .u8 0),1,1):=by kernel_rfl
theorem add_block (x:Addr) (j:Nat):(x.add j).block=x.block:=by unfold Addr.add;split <;> rfl
def BytesAt (w:World) (v:Value) (l:List Int):Prop :=
 ∃ a cap,v=.slice a l.length cap∧l.length≤cap∧cap≤maxLen∧(0<l.length→∃ x:Addr,a=some x∧x.block<w.heap.size∧∀ i,i<l.length→w.cell? (x.add i)=some (.int .u8 (l.getD i 0)))
def Own (w:World) (B:Nat) (v:Value) (l:List Int):Prop:=w.ownsRow B 5 1 v l.length (l.map (Value.int .u8))
theorem Own.snoc {w':World} {B:Nat} {v':Value} {l:List Int} {c:Int} (hs:w'.ownsRow B 5 1 v' (l.length+1) (l.map (Value.int .u8)++[.int .u8 c])):Own w' B v' (l++[c]):=by
 unfold Own
 rw[List.length_append,List.map_append]
 exact hs
theorem own_of_splice {w2:World} {g m:Nat} {l:List Int} (h:w2.heap[g]?=some (.cells (splice (List.replicate (l.length+m) (Value.int .u8 0)) 0 (l.map (Value.int .u8))).toArray 5 (0,0))) (hl:l.length+m≤maxLen):Own w2 g (.slice (some ⟨g,0,none⟩) l.length (l.length+m)) l:=by
 refine⟨by simp,.inr ⟨g,l.length+m,_,rfl,Nat.le_refl _,h,by omega,hl,?_,?_⟩⟩
 ·rw[List.size_toArray,length_splice _ _ _ (by simp)];simp
 ·simp[splice]
def PutEndBb (w:World) (l:List Int) (e:Ending) (w':World):Prop:=∃ v,e=.returned v∧Own w' w.heap.size v l∧Below w.heap.size w w'
theorem or_more (y:Int) (y0:0≤y):bits BinOp.or IntKind.u8 (y % 256) 128=y % 128+128:=by
 rw[u8_or _ _ (by omega) (by omega) (by omega) (by omega)]
 have h:(y % 256).toNat ||| (128:Int).toNat=128+(y % 128).toNat:=by
  have e:(y % 256).toNat=(if y % 256<128 then 0 else 128) ||| (y % 128).toNat:=by
   split
   ·rw[Nat.zero_or];omega
   ·rw[nat_join 7 _ _ (by omega) (by omega)];omega
  rw[e,show (128:Int).toNat=128 from rfl]
  split
  ·rw[Nat.zero_or,Nat.or_comm,nat_join 7 _ _ (by omega) (by omega)]
  ·rw[Nat.or_comm,← Nat.or_assoc,Nat.or_self,nat_join 7 _ _ (by omega) (by omega)]
 rw[h];omega
def LayEnd (B:Nat) (w:World) (l:List Int) (e:Ending) (w':World):Prop:=∃ v,e=.returned v∧Own w' B v l∧Below B w w'
theorem lay_anyBb (B:Nat) (v:Value) (l:List Int) (x:Int) (w:World) (ho:Own w B v l) (hB:B≤w.heap.size) (hl:l.length≤1000000) (x0:0≤x) (x1:x≤18446744073709551615) :
  Calls Tryz.prog 145 #[v,.int .u64 x] w (LayEnd B w (l++enc x)):=by
 obtain⟨i0,hi,hz0,hz1,hz2⟩:=info_parts infoU8
 go_enter Tryz.func145,Tryz.ntmps145
 go_wp2
 go_loopw [0,1] (fun v x' wr=>∃ (pre:List Int) (y:Int),x'=.int .u64 y∧0≤y∧y≤18446744073709551615∧Hid (enc x=pre++enc y)∧Own wr B v (l++pre)∧Below B w wr) (fun _ x' _=>(intOf x').toNat)
 case atStart=>exact⟨[],x,rfl,x0,x1,rfl,by simpa using ho,Below.refl _ _⟩
 case round =>
  obtain⟨pre,y,rfl,y0,y1,HY,hown,hbw⟩:=hrel
  have hlen:(l++pre).length≤l.length+10:=by
   have:=congrArg List.length HY.out
   have:=enc_len x
   simp only[List.length_append] at *
   omega
  have hsz:=hbw.size
  have hlm:(l++pre).length≤1000010:=by omega
  clear hlen
  generalize hL:(l++pre)=L at *
  have HL:=Lib.hid hL;clear hL
  by_cases hlt:128≤y
  ·have hor:=or_more y y0
   have HE:Hid (enc x=(pre++[y % 128+128])++enc (y / 128)):=by
    have:=HY.out
    rw[enc_ge y hlt y1] at this
    exact Lib.hid (by simpa using this)
   go_wp2_with (first|(at_builtin;refine wpList_append_own _ rfl _ _ 23 rfl B 5 i0 (.int .u8 0) 1 1 Tryz.underlying23 hi hz0 hz1 hz2 rfl (by decide) _ _ _ rfl (World.ownsRow.alloc hown _) ⟨wr.heap.size,0,none⟩ 1 1 [.int .u8 (y % 128+128)] rfl rfl ?c1 ?c2 ?c3 ?c4 ?c5 ?_)|fail)
   case c1 =>
    intro j u hj
    match j,hj with
    | 0,hj=>simp at hj;subst hj;simp[Addr.add]
   case c2=>intro u hu;simp at hu;subst hu;rfl
   case c3=>unfold maxLen;omega
   case c4=>omega
   case c5=>rw[World.size_alloc];omega
   intro v' w1 hown' hgrow _
   have hbel:Below B w w1:=(hbw.alloc (by omega) _).grown hgrow (by rw[World.size_alloc];omega) (fun g hg=>(World.ownsRow.lt hown g hg).1)
   have hO':Own w1 B v' (l++(pre++[y % 128+128])):=by
    rw[← List.append_assoc,HL.out]
    exact Own.snoc (by simpa using hown')
   clear hown' hgrow hown hbw HY hor
   go_wp2
   go_roundw
   case rel=>exact⟨_,y / 128,rfl,by omega,by omega,HE,hO',hbel⟩
   case measure=>simp[intOf];omega
  ·have hmod:y % 256=y:=by omega
   have HE:Hid (enc x=pre++[y]):=by
    have:=HY.out
    rw[enc_lt y (by omega)] at this
    exact Lib.hid this
   go_wp2_with (first|(at_builtin;refine wpList_append_own _ rfl _ _ 23 rfl B 5 i0 (.int .u8 0) 1 1 Tryz.underlying23 hi hz0 hz1 hz2 rfl (by decide) _ _ _ rfl (World.ownsRow.alloc hown _) ⟨wr.heap.size,0,none⟩ 1 1 [.int .u8 y] rfl rfl ?c1 ?c2 ?c3 ?c4 ?c5 ?_)|fail)
   case c2=>rfl
   case c3=>unfold maxLen;omega
   case c4=>omega
   case c5=>omega
   intro v' w1 hown' hgrow _
   have hbel:Below B w w1:=(hbw.alloc (by omega) _).grown hgrow (by rw[World.size_alloc];omega) (fun g hg=>(World.ownsRow.lt hown g hg).1)
   have hO':Own w1 B v' (l++enc x):=by
    rw[HE.out,← List.append_assoc,HL.out]
    exact Own.snoc (by simpa using hown')
   clear hown' hgrow hown hbw HY
   go_wp2
   go_ret
   exact⟨_,rfl,hO',hbel⟩
theorem make_bytes (L m:Nat) (W:World) (h:L+m≤1000100):(Instr.makeSlice 23 (.int .i64 (L:Int)) (.int .i64 ((L:Int)+(m:Int)))).run Tryz.prog W=.ok (.slice (some ⟨W.heap.size,0,none⟩) L (L+m)) (W.alloc (.cells (madeCells #[.int .u8 0] (L+m)) 5)):=by
 obtain⟨i0,hi,hz0,hz1,hz2⟩:=info_parts infoU8
 have:=run_make (P:=Tryz.prog) W 23 5 i0 (.int .u8 0) Tryz.underlying23 hi hz0 .i64 .i64 (L:Int) ((L:Int)+(m:Int)) (by omega) (by omega) (by rw[hz2];omega) (by omega)
 rw[this,hz1]
 simp only[Int.toNat_natCast]
 rw[show ((L:Int)+(m:Int)).toNat=L+m from by omega,Nat.mul_one]
 rfl
def str (l:List Int):ByteArray:=l.foldl (fun r n=>r.push (UInt8.ofNat n.toNat)) ByteArray.empty
theorem str_data (l:List Int) (r:ByteArray):(l.foldl (fun r n=>r.push (UInt8.ofNat n.toNat)) r).data.toList=r.data.toList++l.map (fun n=>UInt8.ofNat n.toNat):=by
 induction l generalizing r with
 | nil=>simp
 | cons n l ih=>rw[List.foldl_cons,ih];simp[ByteArray.push]
theorem str_list (l:List Int):(str l).data.toList=l.map (fun n=>UInt8.ofNat n.toNat):=by
 unfold str;rw[str_data];simp
theorem str_size (l:List Int):(str l).size=l.length:=by
 have:=congrArg List.length (str_list l)
 simpa using this
theorem run_str (w:World) (v:Value) (l:List Int) (h:BytesAt w v l):(convert 23 9 v).run Tryz.prog w=.ok (.string (str l)) w:=by
 obtain⟨a,cap,rfl,h1,h2,hc⟩:=h
 rw[run_convert_bytes_string w 23 9 5 a l.length cap Tryz.underlying23 Tryz.underlying5 Tryz.underlying9]
 by_cases h0:0<l.length
 ·obtain⟨x,rfl,hb,hx⟩:=hc h0
  refine run_bytesToString w x l.length cap l ?_
  have:=run_loadCells_list (P:=Tryz.prog) (w:=w) x (l.map (Value.int .u8)) (by
   intro j v hj
   have hjl:j<l.length:=by have:=(List.getElem?_eq_some_iff.1 hj).1;simpa using this
   rw[hx j hjl]
   simpa[hjl] using hj)
  simpa using this
 ·obtain rfl:l=[]:=List.eq_nil_of_length_eq_zero (by omega)
  cases a with
  | none=>rfl
  | some x =>
   have:=run_loadCells_list (P:=Tryz.prog) (w:=w) x [] (by intro j v hj;simp at hj)
   exact run_bytesToString w x 0 cap [] (by simpa using this)
theorem Own.bytesAt {w:World} {B:Nat} {v:Value} {l:List Int} (h:Own w B v l):BytesAt w v l:=by
 have hlt:=World.ownsRow.lt h
 have h':=h
 obtain⟨hx,hv⟩:=h'
 rcases hv with ⟨rfl,hn⟩|⟨g,cap,cur,rfl,hB,hh,hle,hm,hcs,htk⟩
 ·obtain rfl:l=[]:=List.eq_nil_of_length_eq_zero hn
  exact⟨none,0,rfl,Nat.le_refl _,by simp,fun h=>by simp at h⟩
 ·refine⟨_,cap,rfl,hle,hm,fun _=>⟨_,rfl,(hlt g rfl).2,fun i hi=>?_⟩⟩
  have:=World.ownsRow.cellAt h i (by omega)
  have e:(⟨g,0,none⟩:Addr).add i=⟨g,i,none⟩:=by simp[Addr.add];omega
  rw[e]
  simpa[hi] using this
theorem BytesAt.below {w w':World} {v:Value} {l:List Int} (h:BytesAt w v l) (hb:Below w.heap.size w w'):BytesAt w' v l:=by
 obtain⟨a,cap,rfl,h1,h2,hc⟩:=h
 refine⟨a,cap,rfl,h1,h2,fun h0=>?_⟩
 obtain⟨x,rfl,hx,hcell⟩:=hc h0
 refine⟨x,rfl,Nat.lt_of_lt_of_le hx hb.size,fun i hi=>?_⟩
 rw[← hcell i hi]
 exact hb.cell (p:=x.add i) (by rw[add_block];exact hx)
theorem Own.below {w w':World} {B:Nat} {v:Value} {l:List Int} (h:Own w B v l) (hb:Below w.heap.size w w'):Own w' B v l:=by
 have hlt:=World.ownsRow.lt h
 obtain⟨h1,h2⟩:=h
 refine⟨h1,?_⟩
 rcases h2 with h2|⟨g,cap,cur,hv,hg,hh,r⟩
 ·exact .inl h2
 ·refine .inr ⟨g,cap,cur,hv,hg,?_,r⟩
  rw[hb.block g (hlt g (by rw[hv];rfl)).2];exact hh
def WordsAt (w:World) (v:Value) (l:List Int):Prop :=
 ∃ a cap,v=.slice a l.length cap∧∀ k,k<l.length→∃ b off,a=some ⟨b,off,none⟩∧b<w.heap.size∧w.cell? ⟨b,off+k,none⟩=some (.int .u64 (l.getD k 0))
def Wide (l:List Int):Prop:=∀ k,k<l.length→0≤l.getD k 0∧l.getD k 0≤18446744073709551615
def encs:List Int→List Int
 | []=>[]
 | x :: t=>enc x++encs t
theorem encs_snoc (l:List Int) (x:Int):encs (l++[x])=encs l++enc x:=by
 induction l with
 | nil=>simp[encs]
 | cons y t ih=>simp[encs,ih]
theorem encs_len (l:List Int):(encs l).length≤10*l.length:=by
 induction l with
 | nil=>simp[encs]
 | cons y t ih =>
  have:=enc_len y
  simp only[encs,List.length_append,List.length_cons];omega
theorem take_snocBb (l:List Int) (k:Nat) (h:k<l.length):l.take (k+1)=l.take k++[l.getD k 0]:=by
 rw[List.take_succ_eq_append_getElem h];simp[h]
theorem encs_take (l:List Int) (k:Nat) (h:k<l.length):encs (l.take (k+1))=encs (l.take k)++enc (l.getD k 0):=by
 rw[take_snocBb l k h,encs_snoc]
theorem str_append (a b:List Int):str a++str b=str (a++b):=by
 apply ByteArray.ext
 apply Array.ext'
 rw[ByteArray.data_append,Array.toList_append,str_list,str_list,str_list,List.map_append]
theorem make_bytes0 (m:Nat) (W:World) (h:m≤1000100):(Instr.makeSlice 23 (.int .i64 0) (.int .i64 (m:Int))).run Tryz.prog W=.ok (.slice (some ⟨W.heap.size,0,none⟩) 0 m) (W.alloc (.cells (madeCells #[.int .u8 0] m) 5)):=by
 have:=make_bytes 0 m W (by omega)
 simpa using this
theorem own_made (w:World) (m:Nat) (h:m≤1000100):Own (w.alloc (.cells (madeCells #[.int .u8 0] m) 5)) w.heap.size (.slice (some ⟨w.heap.size,0,none⟩) 0 m) []:=by
 have:=own_of_splice (w2:=w.alloc (.cells (madeCells #[.int .u8 0] m) 5)) (g:=w.heap.size) (m:=m) (l:=[]) (by
  rw[heap_alloc_new]
  have:=toList_madeCells_one (.int .u8 0) m
  simp[splice,← this]) (by simp;unfold maxLen;omega)
 simpa using this
end Go.Proofs.YtjkgkmmkehnggaaGreatDoor
namespace Go.Proofs.YtjkgkmmkehnggaaGreatDoor
set_option linter.unusedVariables false
set_option linter.unusedSimpArgs false
def gE (l:List En) (k:Nat):En:=l.getD k zeroE
def nxE (l:List En) (k:Nat):Int:=((gE l k).off+(gE l k).ln) % 18446744073709551616
def colN (l:List En) (c k:Nat):Int :=
 if c=0 then (if k=0 then (gE l 0).id else ((gE l k).id - (gE l (k - 1)).id) % 18446744073709551616)
 else if c=1 then (gE l k).rn else if c=2 then (gE l k).ln
 else if 0<k∧(gE l k).off=nxE l (k - 1) then 0 else ((gE l k).off+1) % 18446744073709551616
def wrgN (l:List En) (c k:Nat) (x:Int):Int :=
 if c=0∧0<k∧18446744073709551616≤(gE l (k - 1)).id+x then 11
 else if (c=1∨c=2)∧4294967295<x then 11
 else if c=3∧k=0∧x=0 then 4
 else if c=3∧0<k∧0<x∧x - 1=nxE l (k - 1) then 4 else 0
def putF (l:List En) (c k:Nat) (x:Int):En :=
 if c=0 then { gE l k with id:=if 0<k then ((gE l (k - 1)).id+x) % 18446744073709551616 else x }
 else if c=1 then { gE l k with rn:=x % 4294967296 }
 else if c=2 then { gE l k with ln:=x % 4294967296 }
 else { gE l k with off:=if x=0 then nxE l (k - 1) else x - 1 }
def putN (l:List En) (c k:Nat) (x:Int):List En:=l.set k (putF l c k x)
theorem putN_len (l:List En) (c k:Nat) (x:Int):(putN l c k x).length=l.length:=by simp[putN]
theorem gE_put (l:List En) (c k:Nat) (x:Int) (j:Nat) (hk:k<l.length):gE (putN l c k x) j=if j=k then putF l c k x else gE l j:=by
 unfold gE putN
 rw[List.getD_eq_getElem?_getD,List.getD_eq_getElem?_getD,List.getElem?_set]
 by_cases h:j=k
 ·subst h;simp[hk]
 ·rw[if_neg (fun e=>h e.symm),if_neg h]
theorem col0 (l:List En) (k:Nat):colN l 0 k=if k=0 then (gE l 0).id else ((gE l k).id - (gE l (k - 1)).id) % 18446744073709551616:=by simp[colN]
theorem col1 (l:List En) (k:Nat):colN l 1 k=(gE l k).rn:=by simp[colN]
theorem col2 (l:List En) (k:Nat):colN l 2 k=(gE l k).ln:=by simp[colN]
theorem col3 (l:List En) (k:Nat):colN l 3 k=if 0<k∧(gE l k).off=nxE l (k - 1) then 0 else ((gE l k).off+1) % 18446744073709551616:=by simp[colN]
theorem put0 (l:List En) (k:Nat) (x:Int):putF l 0 k x={ gE l k with id:=if 0<k then ((gE l (k - 1)).id+x) % 18446744073709551616 else x }:=by simp[putF]
theorem put1 (l:List En) (k:Nat) (x:Int):putF l 1 k x={ gE l k with rn:=x % 4294967296 }:=by simp[putF]
theorem put2 (l:List En) (k:Nat) (x:Int):putF l 2 k x={ gE l k with ln:=x % 4294967296 }:=by simp[putF]
theorem put3 (l:List En) (k:Nat) (x:Int):putF l 3 k x={ gE l k with off:=if x=0 then nxE l (k - 1) else x - 1 }:=by simp[putF]
def Agr (n:Nat) (l m:List En) (i:Nat):Prop:=∀ j,j<n→(j<i→(gE l j).id=(gE m j).id)∧(n+j<i→(gE l j).rn=(gE m j).rn)∧(2*n+j<i→(gE l j).ln=(gE m j).ln)∧(3*n+j<i→(gE l j).off=(gE m j).off)
theorem cases4 {n i:Nat} (h:i<4*n):(i / n=0∧i % n=i∧i<n)∨(i / n=1∧i=n+i % n∧i % n<n)∨(i / n=2∧i=2*n+i % n∧i % n<n)∨(i / n=3∧i=3*n+i % n∧i % n<n):=by
 have hn:0<n:=by omega
 have h1:i / n<4:=(Nat.div_lt_iff_lt_mul hn).2 h
 have h2:=Nat.mod_lt i hn
 have h3:=Nat.div_add_mod i n
 generalize i / n=c at h1 h3 ⊢
 generalize i % n=k at h2 h3 ⊢
 rcases(show c=0∨c=1∨c=2∨c=3 by omega) with rfl|rfl|rfl|rfl
 ·exact .inl ⟨rfl,by omega,by omega⟩
 ·exact .inr (.inl ⟨rfl,by omega,h2⟩)
 ·exact .inr (.inr (.inl ⟨rfl,by omega,h2⟩))
 ·exact .inr (.inr (.inr ⟨rfl,by omega,h2⟩))
theorem col_agr {n:Nat} {l m:List En} {i j:Nat} (h:Agr n l m i) (hj:j<i) (hi:j<4*n):colN l (j / n) (j % n)=colN m (j / n) (j % n):=by
 rcases cases4 hi with ⟨hc,hk,h1⟩|⟨hc,hk,h1⟩|⟨hc,hk,h1⟩|⟨hc,hk,h1⟩ <;> rw[hc] <;> generalize j % n=k at *
 ·rw[col0,col0,(h 0 (by omega)).1 (by omega),(h k (by omega)).1 (by omega),(h (k - 1) (by omega)).1 (by omega)]
 ·rw[col1,col1];exact(h k h1).2.1 (by omega)
 ·rw[col2,col2];exact(h k h1).2.2.1 (by omega)
 ·rw[col3,col3,(h k h1).2.2.2 (by omega)]
  by_cases h0:0<k
  ·have e:nxE l (k - 1)=nxE m (k - 1):=by
    unfold nxE
    rw[(h (k - 1) (by omega)).2.2.2 (by omega),(h (k - 1) (by omega)).2.2.1 (by omega)]
   rw[e]
  ·simp[h0]
theorem put_agr {n:Nat} {l:List En} (x:Int) {i:Nat} (hl:l.length=n) (hi:i<4*n):Agr n l (putN l (i / n) (i % n) x) i:=by
 intro j hj
 have hk:i % n<l.length:=by rw[hl];exact Nat.mod_lt _ (by omega)
 rw[gE_put _ _ _ _ _ hk]
 by_cases e:j=i % n
 ·rw[if_pos e]
  rcases cases4 hi with ⟨hc,h0,h1⟩|⟨hc,h0,h1⟩|⟨hc,h0,h1⟩|⟨hc,h0,h1⟩ <;> rw[hc] <;> generalize i % n=k at*<;> subst e <;> simp only[putF] <;> refine⟨fun a=>?_,fun a=>?_,fun a=>?_,fun a=>?_⟩ <;> first|rfl|omega|simp
 ·rw[if_neg e]
  exact⟨fun _=>rfl,fun _=>rfl,fun _=>rfl,fun _=>rfl⟩
theorem gE_mem (l:List En) (j:Nat) (hj:j<l.length):gE l j ∈ l:=by
 unfold gE
 rw[List.getD_eq_getElem?_getD,List.getElem?_eq_getElem hj]
 exact List.getElem_mem hj
theorem col_bd {n:Nat} {m:List En} {i:Nat} (hi:i<4*n) (hm:∀ j,j<n→MayN (gE m j)):0≤colN m (i / n) (i % n)∧colN m (i / n) (i % n)≤18446744073709551615:=by
 unfold MayN at hm
 rcases cases4 hi with ⟨hc,h0,hk⟩|⟨hc,h0,hk⟩|⟨hc,h0,hk⟩|⟨hc,h0,hk⟩ <;> rw[hc] <;> generalize i % n=k at *
 ·rw[col0]
  have:=hm 0 (by omega)
  split <;> omega
 ·rw[col1];have:=hm k hk;omega
 ·rw[col2];have:=hm k hk;omega
 ·rw[col3];split <;> omega
theorem put_col {n:Nat} {l:List En} {i:Nat} {x:Int} (hl:l.length=n) (hi:i<4*n) (hm:∀ j,j<n→MayN (gE l j)) (hx:0≤x∧x≤18446744073709551615) (h:wrgN l (i / n) (i % n) x=0):colN (putN l (i / n) (i % n) x) (i / n) (i % n)=x:=by
 have hk':i % n<l.length:=by rw[hl];exact Nat.mod_lt _ (by omega)
 have he:=fun j=>gE_put l (i / n) (i % n) x j hk'
 generalize putN l (i / n) (i % n) x=l' at *
 unfold MayN at hm
 rcases cases4 hi with ⟨hc,h0,hk⟩|⟨hc,h0,hk⟩|⟨hc,h0,hk⟩|⟨hc,h0,hk⟩ <;> rw[hc] at h he ⊢ <;> generalize i % n=k at*<;> unfold wrgN at h <;> have e1:=he k <;> rw[if_pos rfl] at e1
 ·rw[col0]
  rw[put0] at e1
  by_cases z:k=0
  ·rw[if_pos z]
   subst z
   rw[e1]
   simp
  ·have e2:=he (k - 1)
   rw[if_neg (show ¬ (k - 1=k) by omega)] at e2
   rw[if_neg z,e1,e2]
   simp only
   have:=hm (k - 1) (by omega)
   rw[if_pos (show 0<k by omega)]
   split at h
   ·omega
   ·omega
 ·rw[col1,e1,put1]
  simp only
  split at h
  ·omega
  split at h
  ·omega
  omega
 ·rw[col2,e1,put2]
  simp only
  split at h
  ·omega
  split at h
  ·omega
  omega
 ·rw[put3] at e1
  rw[col3,e1]
  simp only
  split at h
  ·omega
  split at h
  ·omega
  split at h
  ·omega
  rename_i g3
  split at h
  ·omega
  rename_i g4
  by_cases z:0<k
  ·have e:nxE l' (k - 1)=nxE l (k - 1):=by
    have e2:=he (k - 1)
    rw[if_neg (show ¬ (k - 1=k) by omega)] at e2
    unfold nxE
    rw[e2]
   rw[e]
   by_cases z1:x=0
   ·rw[if_pos z1,if_pos ⟨z,rfl⟩,z1]
   ·rw[if_neg z1,if_neg (by rintro⟨-,q⟩;exact g4 ⟨rfl,z,by omega,q⟩)]
    omega
  ·rw[if_neg (by rintro⟨q,-⟩;exact z q),if_neg (by omega)]
   omega
theorem put_may {n:Nat} {l:List En} {i:Nat} {x:Int} (hl:l.length=n) (hi:i<4*n) (hm:∀ j,j<n→MayN (gE l j)) (hx:0≤x∧x≤18446744073709551615):∀ j,j<n→MayN (gE (putN l (i / n) (i % n) x) j):=by
 intro j hj
 have hk':i % n<l.length:=by rw[hl];exact Nat.mod_lt _ (by omega)
 rw[gE_put _ _ _ _ _ hk']
 split
 ·have a:=hm (i % n) (by omega)
  unfold MayN at a ⊢
  rcases cases4 hi with ⟨hc,h0,hk⟩|⟨hc,h0,hk⟩|⟨hc,h0,hk⟩|⟨hc,h0,hk⟩ <;> rw[hc] <;> generalize i % n=k at *
  ·rw[put0];simp only;split <;> omega
  ·rw[put1];simp only;omega
  ·rw[put2];simp only;omega
  ·rw[put3];simp only;unfold nxE;split <;> omega
 ·exact hm j hj
def encU (x:Int):List UInt8:=(enc x).map ub
theorem encU_len (x:Int):1≤(encU x).length∧(encU x).length≤10:=by
 unfold encU;rw[List.length_map];exact enc_len x
def tailT (L:List En) (n:Nat):Nat→Nat→List UInt8
 | 0,_=>[]
 | m+1,i=>encU (colN L (i / n) (i % n))++tailT L n m (i+1)
theorem tailT_len (L:List En) (n m i:Nat):(tailT L n m i).length≤10*m:=by
 induction m generalizing i with
 | zero=>simp[tailT]
 | succ m ih =>
  rw[tailT,List.length_append]
  have:=ih (i+1)
  have:=encU_len (colN L (i / n) (i % n))
  omega
def textD (l:List En):List UInt8:=encU l.length++tailT l l.length (4*l.length) 0
def goD (t:List UInt8) (n:Nat):Nat→Nat→List En→Nat→List En × Nat × Int
 | 0,_,l,a=>(l,a,0)
 | m+1,i,l,a =>
  if errV (t.drop a)≠0 then ([],a,errV (t.drop a)) else
  if wrgN l (i / n) (i % n) (valV (t.drop a))≠0 then ([],a,wrgN l (i / n) (i % n) (valV (t.drop a))) else
  goD t n m (i+1) (putN l (i / n) (i % n) (valV (t.drop a))) (a+(lead 10 (t.drop a)+1))
theorem goD_bad (t:List UInt8) (n:Nat):∀ (m i:Nat) (l:List En) (a:Nat),a≤t.length →
  ((goD t n m i l a).2.2≠0→(goD t n m i l a).1=[])∧a≤(goD t n m i l a).2.1∧(goD t n m i l a).2.1≤t.length:=by
 intro m
 induction m with
 | zero=>intro i l a ha;simp[goD];exact ha
 | succ m ih =>
  intro i l a ha
  rw[goD]
  split
  ·simp;exact ha
  ·rename_i he
   split
   ·simp;exact ha
   ·have hk:=(errV_ok _ (by simpa using he)).2.1
    rw[List.length_drop] at hk
    have:=ih (i+1) (putN l (i / n) (i % n) (valV (t.drop a))) (a+(lead 10 (t.drop a)+1)) (by omega)
    refine⟨this.1,by omega,this.2.2⟩
theorem goD_back (t:List UInt8) (n:Nat):∀ (m i:Nat) (l:List En) (a:Nat),i+m=4*n→l.length=n→(∀ j,j<n→MayN (gE l j))→a≤t.length→(goD t n m i l a).2.2=0 →
  Agr n l (goD t n m i l a).1 i∧(goD t n m i l a).1.length=n∧(∀ j,j<n→MayN (gE (goD t n m i l a).1 j))∧a≤(goD t n m i l a).2.1∧(goD t n m i l a).2.1≤t.length∧(t.drop a).take ((goD t n m i l a).2.1 - a)=tailT (goD t n m i l a).1 n m i:=by
 intro m
 induction m with
 | zero =>
  intro i l a hi hl hm ha h
  simp[goD,tailT,hl,ha]
  exact⟨fun j _=>⟨fun _=>rfl,fun _=>rfl,fun _=>rfl,fun _=>rfl⟩,hm⟩
 | succ m ih =>
  intro i l a hi hl hm ha h
  rw[goD] at h ⊢
  by_cases he:¬ errV (t.drop a)=0
  ·rw[if_pos he] at h;exact absurd h he
  have he:=Classical.not_not.1 he
  rw[if_neg (by simpa using he)] at h ⊢
  by_cases hw:¬ wrgN l (i / n) (i % n) (valV (t.drop a))=0
  ·rw[if_pos hw] at h;exact absurd h hw
  have hw:=Classical.not_not.1 hw
  rw[if_neg (by simpa using hw)] at h ⊢
  have hx:=valV_bd _ he
  have hk:=(errV_ok _ he).2.1
  rw[List.length_drop] at hk
  have hp:=put_col hl (by omega) hm hx hw
  have q:=ih (i+1) (putN l (i / n) (i % n) (valV (t.drop a))) (a+(lead 10 (t.drop a)+1)) (by omega) (by rw[putN_len,hl]) (put_may hl (by omega) hm hx) (by omega) h
  generalize goD t n m (i+1) (putN l (i / n) (i % n) (valV (t.drop a))) (a+(lead 10 (t.drop a)+1))=R at q ⊢
  obtain⟨L,b,e⟩:=R
  obtain⟨q1,q2,q3,q4,q5,q6⟩:=q
  simp only at q1 q2 q3 q4 q5 q6 ⊢
  have hA:=put_agr (valV (t.drop a)) hl (show i<4*n by omega)
  refine⟨fun j hj=>?_,q2,q3,by omega,q5,?_⟩
  ·have u:=hA j hj
   have v:=q1 j hj
   exact⟨fun z=>(u.1 z).trans (v.1 (by omega)),fun z=>(u.2.1 z).trans (v.2.1 (by omega)),fun z=>(u.2.2.1 z).trans (v.2.2.1 (by omega)),fun z=>(u.2.2.2 z).trans (v.2.2.2 (by omega))⟩
  ·have hc:=col_agr q1 (Nat.lt_succ_self i) (show i<4*n by omega)
   rw[tailT,← hc,hp,← q6]
   have hen:encU (valV (t.drop a))=(t.drop a).take (lead 10 (t.drop a)+1):=by
    unfold encU
    rw[read_back _ he,List.map_map]
    conv=>rhs;rw[← List.map_id ((t.drop a).take (lead 10 (t.drop a)+1))]
    exact List.map_congr_left fun c _=>ub_back c
   rw[hen,← List.drop_drop]
   generalize t.drop a=T at *
   rw[show b - a=(lead 10 T+1)+(b - (a+(lead 10 T+1))) from by omega,List.take_add]
def zerosE (n:Nat):List En:=List.replicate n zeroE
theorem gE_zeros (n j:Nat):gE (zerosE n) j=zeroE:=by
 unfold gE zerosE
 rw[List.getD_eq_getElem?_getD,List.getElem?_replicate]
 split <;> rfl
theorem zeros_may (n:Nat):∀ j,j<n→MayN (gE (zerosE n) j):=by
 intro j _
 rw[gE_zeros]
 unfold MayN zeroE
 simp
def decD (t:List UInt8):List En × Nat × Int :=
 if 65536<t.length then ([],0,5) else
 if errV t≠0 then ([],0,errV t) else
 if 4096<valV t then ([],0,21) else
 if (goD t (valV t).toNat (4*(valV t).toNat) 0 (zerosE (valV t).toNat) (lead 10 t+1)).2.2≠0 then goD t (valV t).toNat (4*(valV t).toNat) 0 (zerosE (valV t).toNat) (lead 10 t+1) else
 if (goD t (valV t).toNat (4*(valV t).toNat) 0 (zerosE (valV t).toNat) (lead 10 t+1)).2.1<t.length then ([],(goD t (valV t).toNat (4*(valV t).toNat) 0 (zerosE (valV t).toNat) (lead 10 t+1)).2.1,4) else
 if rowN (goD t (valV t).toNat (4*(valV t).toNat) 0 (zerosE (valV t).toNat) (lead 10 t+1)).1≠0 then ([],t.length,rowN (goD t (valV t).toNat (4*(valV t).toNat) 0 (zerosE (valV t).toNat) (lead 10 t+1)).1) else
 ((goD t (valV t).toNat (4*(valV t).toNat) 0 (zerosE (valV t).toNat) (lead 10 t+1)).1,t.length,0)
theorem textD_len (l:List En):1≤(textD l).length∧(textD l).length≤10+40*l.length:=by
 unfold textD
 rw[List.length_append]
 have:=encU_len l.length
 have:=tailT_len l l.length (4*l.length) 0
 omega
theorem rowN_len {l:List En} (h:rowN l=0):l.length≤4096:=by
 unfold rowN at h
 split at h <;> omega
theorem decD_back (t:List UInt8) (h:(decD t).2.2=0):rowN (decD t).1=0∧(∀ e ∈ (decD t).1,MayN e)∧textD (decD t).1=t∧(decD t).2.1=t.length∧t.length≤65536:=by
 unfold decD at h ⊢
 by_cases h1:65536<t.length
 ·rw[if_pos h1] at h;simp at h
 rw[if_neg h1] at h ⊢
 by_cases h2:¬ errV t=0
 ·rw[if_pos h2] at h;exact absurd h h2
 have h2:=Classical.not_not.1 h2
 rw[if_neg (by simpa using h2)] at h ⊢
 by_cases h3:4096<valV t
 ·rw[if_pos h3] at h;simp at h
 rw[if_neg h3] at h ⊢
 have hx:=valV_bd _ h2
 have hk:=(errV_ok _ h2).2.1
 have hb:=read_back _ h2
 obtain⟨n,hn⟩:∃ n:Nat,valV t=n:=⟨(valV t).toNat,by omega⟩
 rw[hn] at h ⊢
 rw[hn] at hb
 simp only[Int.toNat_natCast] at h ⊢
 have q:=goD_back t n (4*n) 0 (zerosE n) (lead 10 t+1) (by omega) (by simp[zerosE]) (zeros_may n) (by omega)
 generalize goD t n (4*n) 0 (zerosE n) (lead 10 t+1)=R at *
 obtain⟨L,b,e⟩:=R
 simp only at h q ⊢
 by_cases h4:¬ e=0
 ·rw[if_pos h4] at h;exact absurd h h4
 have h4:=Classical.not_not.1 h4
 rw[if_neg (by simpa using h4)] at h ⊢
 by_cases h5:b<t.length
 ·rw[if_pos h5] at h;simp at h
 rw[if_neg h5] at h ⊢
 by_cases h6:¬ rowN L=0
 ·rw[if_pos h6] at h;exact absurd h h6
 have h6:=Classical.not_not.1 h6
 rw[if_neg (by simpa using h6)]
 obtain⟨q1,q2,q3,q4,q5,q6⟩:=q h4
 refine⟨h6,?_,?_,rfl,by omega⟩
 ·intro x hx'
  change x ∈ L at hx'
  obtain⟨j,hj,rfl⟩:=List.getElem_of_mem hx'
  have:=q3 j (by omega)
  unfold gE at this
  rwa[List.getD_eq_getElem?_getD,List.getElem?_eq_getElem hj] at this
 ·simp only
  unfold textD
  rw[q2,← q6]
  have hen:encU (n:Int)=t.take (lead 10 t+1):=by
   unfold encU
   rw[hb,List.map_map]
   conv=>rhs;rw[← List.map_id (t.take (lead 10 t+1))]
   exact List.map_congr_left fun c _=>ub_back c
  have hd:(t.drop (lead 10 t+1)).take (b - (lead 10 t+1))=t.drop (lead 10 t+1):=List.take_of_length_le (by rw[List.length_drop];omega)
  rw[hen,hd,List.take_append_drop]
theorem decD_bad (t:List UInt8):((decD t).2.2≠0→(decD t).1=[])∧(decD t).2.1≤t.length:=by
 unfold decD
 split
 ·simp
 split
 ·simp
 rename_i h2
 split
 ·simp
 have hk:=(errV_ok t (by simpa using h2)).2.1
 have q:=goD_bad t (valV t).toNat (4*(valV t).toNat) 0 (zerosE (valV t).toNat) (lead 10 t+1) (by omega)
 generalize goD t (valV t).toNat (4*(valV t).toNat) 0 (zerosE (valV t).toNat) (lead 10 t+1)=R at *
 split
 ·exact⟨q.1,q.2.2⟩
 split
 ·exact⟨fun _=>rfl,q.2.2⟩
 split
 ·exact⟨fun _=>rfl,Nat.le_refl _⟩
 ·exact⟨fun h=>absurd rfl h,Nat.le_refl _⟩
def colsI (l:List En) (c:Nat):Nat→List Int
 | 0=>[]
 | k+1=>colsI l c k++enc (colN l c k)
def textI (l:List En):List Int:=enc l.length++(colsI l 0 l.length++(colsI l 1 l.length++(colsI l 2 l.length++colsI l 3 l.length)))
theorem tailT_add (L:List En) (n m1 m2 i:Nat):tailT L n (m1+m2) i=tailT L n m1 i++tailT L n m2 (i+m1):=by
 induction m1 generalizing i with
 | zero=>simp[tailT]
 | succ m ih =>
  rw[show m+1+m2=(m+m2)+1 from by omega,tailT,tailT,ih,List.append_assoc,show i+1+m=i+(m+1) from by omega]
theorem tailT_cols (L:List En) (n c m:Nat) (hm:m≤n):tailT L n m (c*n)=(colsI L c m).map ub:=by
 induction m with
 | zero=>rfl
 | succ m ih =>
  rw[tailT_add,ih (by omega),colsI,List.map_append]
  have e1:(c*n+m) / n=c:=by rw[Nat.mul_comm,Nat.mul_add_div (by omega),Nat.div_eq_of_lt (by omega)];omega
  have e2:(c*n+m) % n=m:=by rw[Nat.mul_comm,Nat.mul_add_mod,Nat.mod_eq_of_lt (by omega)]
  simp only[tailT,e1,e2,List.append_nil]
  rfl
theorem textD_cols (l:List En):textD l=(textI l).map ub:=by
 unfold textD textI
 have h0:=tailT_cols l l.length 0 l.length (Nat.le_refl _)
 have h1:=tailT_cols l l.length 1 l.length (Nat.le_refl _)
 have h2:=tailT_cols l l.length 2 l.length (Nat.le_refl _)
 have h3:=tailT_cols l l.length 3 l.length (Nat.le_refl _)
 rw[show 4*l.length=l.length+(l.length+(l.length+l.length)) from by omega,tailT_add,tailT_add,tailT_add]
 simp only[Nat.zero_mul,Nat.one_mul,Nat.zero_add] at h0 h1 ⊢
 rw[show l.length+l.length=2*l.length from by omega,show 2*l.length+l.length=3*l.length from by omega,h0,h1,h2,h3]
 simp only[List.map_append]
 rfl
theorem textI_len (l:List En):(textI l).length=(textD l).length:=by rw[textD_cols,List.length_map]
end Go.Proofs.YtjkgkmmkehnggaaGreatDoor
namespace Go.Proofs.YtjkgkmmkehnggaaGreatDoor
set_option linter.unusedVariables false
set_option linter.unusedSimpArgs false
open Go.RowKit
set_option maxRecDepth 20000
open Go.RowKit
set_option maxRecDepth 20000
def encB (l:List En):Int:=if rowN l=0 then (if 65536<(textI l).length then 5 else 0) else rowN l
def encT (l:List En):ByteArray:=if encB l=0 then str (textI l) else ByteArray.mk #[]
def sizD (l:List En):Int:=if rowN l=0 then (textI l).length else 0
end Go.Proofs.YtjkgkmmkehnggaaGreatDoor
