/- bMK bUg bUh. -/
import Derived.Test.YtjinnigjfopbcaaGreatDoorJs
import Derived.Test.YtjinnigjfopbcaaGreatDoorJb5
set_option maxHeartbeats 16000000
namespace Go.Proofs.YtjinnigjfopbcaaGreatDoor
set_option linter.unusedVariables false
set_option linter.unusedSimpArgs false
def stq (t:List UInt8) (c:Nat) (l:List En) (a:Nat):Nat→List En × Nat
 | 0=>(l,a)
 | k+1=>(xeI (stq t c l a k).1 c k (xaW (t.drop (stq t c l a k).2)),(stq t c l a k).2+(xaG 10 (t.drop (stq t c l a k).2)+1))
def xq (t:List UInt8) (c:Nat) (l:List En) (a k:Nat):Int:=xaW (t.drop (stq t c l a k).2)
def xhA (t:List UInt8) (c:Nat) (l:List En) (a k:Nat):Int :=
 if xbo (t.drop (stq t c l a k).2)≠0 then xbo (t.drop (stq t c l a k).2) else xcv (stq t c l a k).1 c k (xq t c l a k)
theorem xgF (t:List UInt8) (c:Nat) (l:List En) (a k:Nat):stq t c l a (k+1)=(xeI (stq t c l a k).1 c k (xq t c l a k),(stq t c l a k).2+(xaG 10 (t.drop (stq t c l a k).2)+1)):=rfl
theorem xjG {t:List UInt8} {c:Nat} {l:List En} {a k:Nat} (h:xhA t c l a k=0):xbo (t.drop (stq t c l a k).2)=0∧xcv (stq t c l a k).1 c k (xq t c l a k)=0:=by
 unfold xhA at h
 by_cases h1:xbo (t.drop (stq t c l a k).2)=0
 ·rw[if_neg (fun h=>h h1)] at h;exact⟨h1,h⟩
 ·rw[if_pos h1] at h;exact absurd h h1
theorem xud (t:List UInt8) (c:Nat) (l:List En) (a n:Nat):∃ N,N≤n∧(∀ k,k<N→xhA t c l a k=0)∧(N<n→xhA t c l a N≠0):=by
 induction n with
 | zero=>exact⟨0,Nat.le_refl _,fun k h=>by omega,fun h=>by omega⟩
 | succ n ih =>
  obtain⟨N,h1,h2,h3⟩:=ih
  by_cases hN:N<n
  ·exact⟨N,by omega,h2,fun _=>h3 hN⟩
  ·obtain rfl:N=n:=by omega
   by_cases he:xhA t c l a N=0
   ·exact⟨N+1,Nat.le_refl _,fun k hk=>by by_cases hk':k<N;exact h2 k hk';obtain rfl:k=N:=(by omega);exact he,fun h=>by omega⟩
   ·exact⟨N,by omega,h2,fun _=>he⟩
theorem xj2 {n c k:Nat} (hk:k<n):(c*n+k) / n=c∧(c*n+k) % n=k:=by
 have hn:0<n:=by omega
 rw[Nat.mul_comm,Nat.add_comm]
 constructor
 ·rw[Nat.add_mul_div_left _ _ hn,Nat.div_eq_of_lt hk,Nat.zero_add]
 ·rw[Nat.add_mul_mod_self_left,Nat.mod_eq_of_lt hk]
theorem xu2 {n c k:Nat} (hc:c<4) (hk:k<n):c*n+k<4*n:=by
 have:c*n+n≤4*n:=by rw[← Nat.succ_mul];exact Nat.mul_le_mul_right _ (by omega)
 omega
theorem xhz {t:List UInt8} {c n:Nat} {l:List En} {a:Nat} (hc:c<4) (hl:l.length=n) (hm:∀ j,j<n→xaO (gE l j)) (ha:a≤t.length):∀ k,k≤n→(∀ j,j<k→xhA t c l a j=0) →
  (stq t c l a k).1.length=n∧(∀ j,j<n→xaO (gE (stq t c l a k).1 j))∧(stq t c l a k).2≤t.length:=by
 intro k
 induction k with
 | zero=>exact fun _ _=>⟨hl,hm,ha⟩
 | succ k ih =>
  intro hk he
  obtain⟨h1,h2,h3⟩:=ih (by omega) (fun j hj=>he j (by omega))
  obtain⟨e1,e2⟩:=xjG (he k (by omega))
  have hb:=xdl _ e1
  obtain⟨d1,d2⟩:=xj2 (c:=c) (n:=n) (k:=k) (by omega)
  have hp:=xiI (x:=xq t c l a k) h1 (xu2 hc (by omega:k<n)) h2 hb
  rw[d1,d2] at hp
  rw[xgF]
  refine⟨by rw[xcp,h1],hp,?_⟩
  have:=(xcM _ e1).2.1
  rw[List.length_drop] at this
  show _+(_+1)≤_
  omega
theorem xmU {t:List UInt8} {c n r:Nat} {l:List En} {a:Nat}:∀ N,N≤n→(∀ k,k<N→xhA t c l a k=0) →
  goD t n (n+r) (c*n) l a=goD t n (n - N+r) (c*n+N) (stq t c l a N).1 (stq t c l a N).2:=by
 intro N
 induction N with
 | zero=>intro _ _;rfl
 | succ N ih =>
  intro hN he
  rw[ih (by omega) (fun k hk=>he k (by omega))]
  obtain⟨e1,e2⟩:=xjG (he N (by omega))
  obtain⟨d1,d2⟩:=xj2 (c:=c) (n:=n) (k:=N) (by omega)
  rw[show n - N+r=(n - (N+1)+r)+1 from by omega,goD,d1,d2,if_neg (fun h=>h e1)]
  have e2':xcv (stq t c l a N).1 c N (xaW (t.drop (stq t c l a N).2))=0:=e2
  rw[if_neg (fun h=>h e2')]
  rfl
theorem xpY {t:List UInt8} {c n r:Nat} {l:List En} {a N:Nat} (hN:N<n) (he:∀ k,k<N→xhA t c l a k=0) (hn:xhA t c l a N≠0):goD t n (n+r) (c*n) l a=([],(stq t c l a N).2,xhA t c l a N):=by
 rw[xmU N (by omega) he]
 obtain⟨d1,d2⟩:=xj2 (c:=c) (n:=n) (k:=N) hN
 rw[show n - N+r=(n - (N+1)+r)+1 from by omega,goD,d1,d2]
 unfold xhA at hn ⊢
 by_cases h1:xbo (t.drop (stq t c l a N).2)=0
 ·have hc:¬ (xbo (t.drop (stq t c l a N).2)≠0):=fun h=>h h1
  rw[if_neg hc] at hn
  have hn':xcv (stq t c l a N).1 c N (xaW (t.drop (stq t c l a N).2))≠0:=hn
  rw[if_neg hc,if_pos hn',if_neg hc]
  rfl
 ·rw[if_pos h1,if_pos h1]
def xk8 (t:List UInt8) (c n:Nat) (l:List En) (a:Nat) (q:Int) (l':List En) (a':Nat) (q':Int):Prop :=
 (q≠0∧l'=l∧a'=a∧q'=q)∨(q=0∧∃ N,N≤n∧(∀ k,k<N→xhA t c l a k=0)∧(N<n→xhA t c l a N≠0)∧l'=(stq t c l a N).1∧a'=(stq t c l a N).2∧q'=if N<n then xhA t c l a N else 0)
def xpt (t:List UInt8) (n r c:Nat) (l:List En) (a:Nat) (q:Int):List En × Nat × Int:=if q≠0 then ([],a,q) else goD t n r (c*n) l a
theorem xd0 {t:List UInt8} {n r c:Nat} {l l':List En} {a a':Nat} {q q':Int} (h:xk8 t c n l a q l' a' q'):xpt t n (n+r) c l a q=xpt t n r (c+1) l' a' q':=by
 unfold xpt
 rcases h with ⟨h1,rfl,rfl,rfl⟩|⟨rfl,N,h1,h2,h3,rfl,rfl,rfl⟩
 ·rw[if_pos h1,if_pos h1]
 ·rw[if_neg (fun h=>h rfl)]
  by_cases hN:N<n
  ·rw[if_pos hN,if_pos (h3 hN)]
   exact xpY hN h2 (h3 hN)
  ·obtain rfl:N=n:=by omega
   rw[if_neg hN,if_neg (fun h=>h rfl),xmU N (Nat.le_refl _) h2,Nat.sub_self,Nat.zero_add,Nat.succ_mul]
open Go.RowKit Go.Shelf
set_option maxRecDepth 20000
theorem xmM (t:ByteArray) (a:Nat) (ha:a≤t.size):xbc t (a:Int) 0=0:=by
 have h:xaK t (a:Int)=0:=by
  unfold xaK
  rw[if_pos (by omega)]
 simp[xbc,xaH,h]
theorem xl5 (t:ByteArray) (a:Nat) (q:Int) (hq:q≠0):xbc t (a:Int) q=q:=by
 unfold xbc xaH
 simp[hq]
theorem xnw (t:ByteArray) (a:Nat) (q:Int) (w:World) (hm:t.size≤maxLen) (hq:q≠0):Calls Tryz.prog 195 #[.agg #[.string t,.int .i64 (a:Int),.int .i64 q]] w (xeF t 0 (a:Int) q w) :=
 xwn t a q q w hm (xl5 t a q hq) hq
theorem xjY (t:ByteArray) (a:Nat) (r:Int) (w:World) (hm:t.size≤maxLen) (ha:a≤t.size) (hr:xbo (t.data.toList.drop a)=r) (h:r≠0):Calls Tryz.prog 195 #[.agg #[.string t,.int .i64 (a:Int),.int .i64 0]] w (xeF t 0 (a:Int) r w) :=
 xwE t a 0 r w hm (xmM t a ha) (by rw[xjl];exact hr) h
theorem xhP (t:ByteArray) (a:Nat) (w:World) (hm:t.size≤maxLen) (ha:a≤t.size) (hr:xbo (t.data.toList.drop a)=0):Calls Tryz.prog 195 #[.agg #[.string t,.int .i64 (a:Int),.int .i64 0]] w (xeF t (xaW (t.data.toList.drop a)) ((a+(xaG 10 (t.data.toList.drop a)+1):Nat):Int) 0 w):=by
 have:=xwz t a 0 _ _ w hm (xmM t a ha) (by rw[xjl];exact hr) rfl rfl
 rw[xjl] at this
 unfold xjF at this
 have e:(a:Int)+((xaG 10 (t.data.toList.drop a)+1:Nat):Int)=((a+(xaG 10 (t.data.toList.drop a)+1):Nat):Int):=by omega
 rw[e] at this
 exact this
def xbC (W:World) (b:Nat) (t:ByteArray) (a q:Int) (v:Value):Prop:=xe6 W b t a q∧W.cell? ⟨b,3,none⟩=some v
theorem xbC.later {w w':World} {b:Nat} {t:ByteArray} {a q:Int} {v:Value} (h:xbC w b t a q v) (hb:Below w.heap.size w w'):xbC w' b t a q v:=⟨h.1.later hb,xaa hb h.2⟩
theorem xbC.lt {w:World} {b:Nat} {t:ByteArray} {a q:Int} {v:Value} (h:xbC w b t a q v):b<w.heap.size:=xba (a:=⟨b,3,none⟩) h.2
theorem xcK {X Y:World} {b:Nat} (h:Y.heap[b]?=X.heap[b]?) (o:Nat):Y.cell? ⟨b,o,none⟩=X.cell? ⟨b,o,none⟩∧Y.frozen? ⟨b,o,none⟩=X.frozen? ⟨b,o,none⟩:=by
 simp[World.cell?,World.frozen?,h]
theorem xbC.heap {w w':World} {b:Nat} {t:ByteArray} {a q:Int} {v:Value} (h:xbC w b t a q v) (hb:w'.heap[b]?=w.heap[b]?):xbC w' b t a q v:=by
 obtain⟨⟨c0,c1,c2,f⟩,c3⟩:=h
 exact⟨⟨(xcK hb 0).1.trans c0,(xcK hb 1).1.trans c1,(xcK hb 2).1.trans c2,fun o=>(xcK hb o).2.trans (f o)⟩,(xcK hb 3).1.trans c3⟩
theorem xtS {w:World} {b:Nat} {t t':ByteArray} {a a' q q':Int} {v:Value} (h:xbC w b t a q v):xbC (((w.setCell ⟨b,0,none⟩ (.string t')).setCell ⟨b,1,none⟩ (.int .i64 a')).setCell ⟨b,2,none⟩ (.int .i64 q')) b t' a' q' v:=by
 refine⟨xnc h.1,?_⟩
 obtain⟨⟨c0,c1,c2,f⟩,c3⟩:=h
 simp[go_sem,c3]
theorem xjg {w:World} {b:Nat} {t:ByteArray} {a q q':Int} {v:Value} (h:xbC w b t a q v):xbC (w.setCell ⟨b,2,none⟩ (.int .i64 q')) b t a q' v:=by
 obtain⟨⟨c0,c1,c2,f⟩,c3⟩:=h
 exact⟨⟨by simp[go_sem,c0],by simp[go_sem,c1],by simp[go_sem,c2],fun o=>by simp[go_sem,f]⟩,by simp[go_sem,c3]⟩
theorem xkR (W:World) (b o:Nat) (v:Value):W.grownBy (W.setCell ⟨b,o,none⟩ v) (some b) :=
 ⟨rfl,rfl,rfl,(KeepsWalks.setCell W _ v).size,fun k _ hk=>Below.heap_setCell _ _ _ k (fun e=>hk (by rw[e]))⟩
theorem xbz.cell {β:Type} {T:Nat→Prop} {B:Nat} {J:β→World→Prop} (h:xbz T B J) {s:β} {W:World} (hs:J s W) (b o:Nat) (v:Value) (hb:T b):J s (W.setCell ⟨b,o,none⟩ v) :=
 h s W _ (some b) hs (xkR W b o v) (fun r e=>by cases e;exact .inl hb)
def wfN (c:Nat):Nat:=if c=0 then 118 else if c=3 then 120 else 119
def wbN (c:Nat) (v:Value):Array Value:=if c=0∨c=3 then #[v] else #[]
theorem xkO (c:Nat) (args:Array Value) (W:World):(callFunc (wfN c) args).run Tryz.prog W=.ok (.enter (wfN c) args) W:=by
 unfold wfN
 split
 ·exact enters_of Tryz.func118 (by kernel_rfl) rfl args W
 split
 ·exact enters_of Tryz.func120 (by kernel_rfl) rfl args W
 ·exact enters_of Tryz.func119 (by kernel_rfl) rfl args W
theorem xus (c:Nat) (hc:c<4) (v:Value) (l:List En) (hm:xay l) (W:World) (i:Nat) (x:Int) (hv:xak W v l) (hi:i<l.length) (hx:0≤x∧x≤18446744073709551615) :
  Calls Tryz.prog (wfN c) (wbN c v++#[.int .i64 (i:Int),.int .u64 x]) W fun y w'=>y=.returned (.tuple #[.int .u64 (if xcv l c i x=0 then xdk l c i x else 0),.int .i64 (xcv l c i x)])∧Below W.heap.size W w':=by
 rcases(by omega:c=0∨c=1∨c=2∨c=3) with rfl|rfl|rfl|rfl
 ·exact xqy v l W i x hv hm hi hx
 ·exact xhG l 1 i x W (.inl rfl) hx
 ·exact xhG l 2 i x W (.inr rfl) hx
 ·exact xqc v l W i x hv hm hi hx
attribute [local go_sem] Oper.semAt_some
theorem xdT (b k:Nat) (bd:Array Value) (w:World):Calls Tryz.prog 117 #[.pointer (some ⟨b,0,none⟩),.func (.func k) bd #[]] w fun x w'=>x=.returned (.func (.func 196) #[] #[.pointer (some ⟨w.heap.size,0,none⟩),.pointer (some ⟨w.heap.size+1,0,none⟩)])∧w'=(w.alloc (.cells #[.pointer (some ⟨b,0,none⟩)] 315)).alloc (.cells #[.func (.func k) bd #[]] 212):=by
 go_enter Tryz.func117,Tryz.ntmps117
 go_wp2_with fail
 go_ret
 exact⟨rfl,rfl⟩
def xeK (t:List UInt8) (c:Nat) (l:List En) (a:Nat) (q:Int) (k:Nat):Int:=if q≠0 then q else xhA t c l a k
def xrr (N n:Nat) (e q:Int):Int:=if N<n then e else q
def TK (B1 B2 BT f:Nat) (bd:Array Value) (t:ByteArray) (a q:Int) (v:Value) (S:Nat→Prop) (W:World):Prop :=
 W.cell? ⟨B1,0,none⟩=some (.pointer (some ⟨BT,0,none⟩))∧W.cell? ⟨B2,0,none⟩=some (.func (.func f) bd #[])∧xbC W BT t a q v∧¬ S B1∧¬ S B2∧¬ S BT
theorem TK.later {B1 B2 BT f:Nat} {bd:Array Value} {t:ByteArray} {a q:Int} {v:Value} {S:Nat→Prop} {W W':World} (h:TK B1 B2 BT f bd t a q v S W) (hb:Below W.heap.size W W'):TK B1 B2 BT f bd t a q v S W' :=
 ⟨xaa hb h.1,xaa hb h.2.1,h.2.2.1.later hb,h.2.2.2⟩
theorem TK.keeps {B1 B2 BT f:Nat} {bd:Array Value} {t:ByteArray} {a q:Int} {v:Value} {S S':Nat→Prop} {W W':World} (h:TK B1 B2 BT f bd t a q v S W) (hk:KeepsS S S' W W'):TK B1 B2 BT f bd t a q v S' W':=by
 obtain⟨h1,h2,h3,n1,n2,n3⟩:=h
 have l1:=xba h1
 have l2:=xba h2
 have l3:=h3.lt
 dsimp only at l1 l2
 refine⟨hk.cell (p:=⟨B1,0,none⟩) n1 h1,hk.cell (p:=⟨B2,0,none⟩) n2 h2,h3.heap (hk.heap n3 l3),fun h=>?_,fun h=>?_,fun h=>?_⟩
 ·rcases hk.own _ h with h|h;exact n1 h;omega
 ·rcases hk.own _ h with h|h;exact n2 h;omega
 ·rcases hk.own _ h with h|h;exact n3 h;omega
theorem TK.set {B1 B2 BT f:Nat} {bd:Array Value} {t:ByteArray} {a q a' q':Int} {v:Value} {S:Nat→Prop} {W:World} (h:TK B1 B2 BT f bd t a q v S W) (e1:B1≠BT) (e2:B2≠BT):TK B1 B2 BT f bd t a' q' v S (((W.setCell ⟨BT,0,none⟩ (.string t)).setCell ⟨BT,1,none⟩ (.int .i64 a')).setCell ⟨BT,2,none⟩ (.int .i64 q')):=by
 obtain⟨h1,h2,h3,n⟩:=h
 refine⟨?_,?_,xtS h3,n⟩
 ·rw[World.cell?_setCell_far _ _ _ _ (fun e=>e1 e.symm),World.cell?_setCell_far _ _ _ _ (fun e=>e1 e.symm),World.cell?_setCell_far _ _ _ _ (fun e=>e1 e.symm)];exact h1
 ·rw[World.cell?_setCell_far _ _ _ _ (fun e=>e2 e.symm),World.cell?_setCell_far _ _ _ _ (fun e=>e2 e.symm),World.cell?_setCell_far _ _ _ _ (fun e=>e2 e.symm)];exact h2
set_option maxRecDepth 100000 in
theorem xly (f c n:Nat) (bd:Array Value) (al:Option Addr) (cap:Nat) (t:ByteArray) (l:List En) (a:Nat) (q:Int) (B1 B2 BT N:Nat) (w:World) (hfe:∀ args W,(callFunc f args).run Tryz.prog W=.ok (.enter f args) W)
  (hf:∀ W (L:List En) (k:Nat) (x:Int),xak W (.slice al n cap) L→L.length=n→xay L→k<n→0≤x∧x≤18446744073709551615→Calls Tryz.prog f (bd++#[.int .i64 (k:Int),.int .u64 x]) W fun y w'=>y=.returned (.tuple #[.int .u64 (if xcv L c k x=0 then xdk L c k x else 0),.int .i64 (xcv L c k x)])∧Below W.heap.size W w')
  (hc:c<4) (hl:l.length=n) (hm:xay l) (hn:n≤4096) (hsz:t.size≤65536) (ha:a≤t.size) (hN:N≤n) (hk:∀ k,k<N→xeK t.data.toList c l a q k=0) (hke:N<n→xeK t.data.toList c l a q N≠0)
  (h1:w.cell? ⟨B1,0,none⟩=some (.pointer (some ⟨BT,0,none⟩))) (h2:w.cell? ⟨B2,0,none⟩=some (.func (.func f) bd #[])) (hT:xbC w BT t (a:Int) q (.slice al n cap)) (e1:B1≠BT) (e2:B2≠BT) :
  xwb Tryz.prog 196 #[.pointer (some ⟨B1,0,none⟩),.pointer (some ⟨B2,0,none⟩)] (fun k=>#[.int .i64 (k:Int),.int .u64 (xdk (stq t.data.toList c l a k).1 c k (xq t.data.toList c l a k))]) N (fun b=>b=BT) (fun b=>b=B1∨b=B2∨b=BT)
   (fun k W=>xak W (.slice al n cap) (stq t.data.toList c l a k).1) (fun k W=>xbC W BT t ((stq t.data.toList c l a (k+1)).2:Int) 0 (.slice al n cap))
   (fun W=>xbC W BT t ((stq t.data.toList c l a N).2:Int) (xrr N n (xeK t.data.toList c l a q N) q) (.slice al n cap)) w:=by
 intro m lp J Jx S0 W hW hJ hJx hG hS0 hY h0
 have hTK:TK B1 B2 BT f bd t a q (.slice al n cap) S0 W:=⟨xaa hW h1,xaa hW h2,hT.later hW,fun h=>(hS0 _ h).2 (.inl rfl),fun h=>(hS0 _ h).2 (.inr (.inl rfl)),fun h=>(hS0 _ h).2 (.inr (.inr rfl))⟩
 have hmx:t.size≤maxLen:=by unfold maxLen;omega
 have hst:=fun k (hkN:k≤N) (hq:q=0)=>xhz (t:=t.data.toList) hc hl ((xec hl).1 hm) (by simpa using ha) k (by omega) (fun j hj=>by have:=hk j (by omega);unfold xeK at this;rw[if_neg (fun h=>h hq)] at this;exact this)
 have HST:=lH hst
 have HF:=lH hf
 have HJ:=lH hJ
 have HY:=lH hY
 have HG:=lH hG
 have HK:=lH (And.intro hN (And.intro hk hke))
 have HE:=lH (And.intro e1 e2)
 have HM:=lH (And.intro hl (And.intro hm (And.intro ha hmx)))
 have HTK:=lH hTK
 obtain⟨g1,g2,⟨⟨g3,g4,g5,g6⟩,g7⟩,_⟩:=hTK
 clear hst hf hJ hY hG hk hke hN e1 e2 hl hm ha hmx hT h1 h2 hS0 hJx hsz
 refine callsIn_of_wp Tryz.func196 rfl trivial ?_ rfl
 simp only[Tryz.ntmps196,List.size_toArray,List.length_cons,List.length_nil,Nat.reduceAdd,Nat.reduceSub,Array.replicate_succ,Array.replicate_zero,List.push_toArray,List.append_toArray,List.nil_append,List.cons_append]
 gi_wp2
 clear g1 g2 g3 g4 g5 g6 g7
 gi_loopw [13] (fun i wr=>∃ k:Nat,k≤N∧i=.int .i64 k∧∃ S,Hid (J k S wr)∧Hid (TK B1 B2 BT f bd t ((stq t.data.toList c l a k).2:Int) q (.slice al n cap) S wr)∧Hid (0<k→q=0)) (fun i _=>N+1 - (intOf i).toNat)
 case atStart=>exact⟨0,Nat.zero_le _,rfl,S0,lH h0,HTK,lH (fun h=>by omega)⟩
 case round =>
  obtain⟨k,hk,rfl,S,HJs,HT,HQ⟩:=hrel
  by_cases hlt:k<n
  ·have hi2:(k:Int)<(n:Int):=by omega
   obtain⟨g1,g2,⟨⟨g3,g4,g5,g6⟩,g7⟩,_⟩:=HT.out
   by_cases hq:q=0
   ·obtain⟨p1,p2,p3⟩:=HST.out k hk hq
    subst hq
    obtain⟨ak,hak⟩:∃ b,(stq t.data.toList c l a k).2=b:=⟨_,rfl⟩
    obtain⟨Lk,hLk⟩:∃ b,(stq t.data.toList c l a k).1=b:=⟨_,rfl⟩
    obtain⟨X,hX⟩:∃ b,xq t.data.toList c l a k=b:=⟨_,rfl⟩
    have hq0:xeK t.data.toList c l a 0 k=if xbo (t.data.toList.drop ak)≠0 then xbo (t.data.toList.drop ak) else xcv Lk c k X:=by
     unfold xeK xhA
     rw[if_neg (fun h=>h rfl),hak,hLk,hX]
    have hXv:xaW (t.data.toList.drop ak)=X:=by rw[← hX];unfold xq;rw[hak]
    have hnx:(stq t.data.toList c l a (k+1)).2=ak+(xaG 10 (t.data.toList.drop ak)+1):=by rw[xgF,hak]
    rw[hak] at g4 p3 HT
    rw[hLk] at p1 p2
    have hak':ak≤t.size:=by simpa using p3
    have HEn:=lH ((HG.out k S wr HJs.out).1)
    rw[hLk] at HEn
    have HML:Hid (xay Lk):=lH ((xec p1).2 p2)
    have HP1:=lH p1
    have hX0:=lH hX
    clear p1 p2 p3 hX
    have HEQ:=lH (And.intro hak (And.intro hLk hnx))
    by_cases he:xbo (t.data.toList.drop ak)=0
    ·have HGet:=lH (xhP t ak wr HM.out.2.2.2 hak' he)
     rw[hXv] at HGet
     have hXb:0≤X∧X≤18446744073709551615:=by rw[← hXv];exact xdl _ he
     rw[if_neg (fun h=>h he)] at hq0
     have HQ0:=lH hq0
     clear hq0 hXv hak hLk hnx he hak'
     generalize ak+(xaG 10 (t.data.toList.drop ak)+1)=an at *
     gi_wp2
     refine⟨trivial,xbn,(callsIn_wide.2 HGet.out).mono ?_⟩
     rintro x w1 ⟨rfl,hb⟩
     have HT1:=lH (HT.out.later hb)
     have HJ1:=lH (HJ.out.grow (s:=(k,S)) HJs.out hb)
     have HE1:=lH (HEn.out.below hb)
     obtain⟨g1,g2,⟨⟨g3,g4,g5,g6⟩,g7⟩,_⟩:=HT1.out
     have hb2:Below w1.heap.size w1 (w1.alloc (.cells #[.string t,.int .i64 (an:Int),.int .i64 0] 204)):=(Below.refl _ _).alloc (Nat.le_refl _) _
     have HT2:=lH (HT1.out.later hb2)
     have HJ2:=lH (HJ.out.grow (s:=(k,S)) HJ1.out hb2)
     have HE2:=lH (HE1.out.below hb2)
     have q0:(w1.alloc (.cells #[.string t,.int .i64 (an:Int),.int .i64 0] 204)).cell? ⟨w1.heap.size,0,none⟩=some (.string t):=by rw[World.cell?_alloc_mark];rfl
     have q1:(w1.alloc (.cells #[.string t,.int .i64 (an:Int),.int .i64 0] 204)).cell? ⟨w1.heap.size,1,none⟩=some (.int .i64 (an:Int)):=by rw[World.cell?_alloc_mark];rfl
     have q2:(w1.alloc (.cells #[.string t,.int .i64 (an:Int),.int .i64 0] 204)).cell? ⟨w1.heap.size,2,none⟩=some (.int .i64 0):=by rw[World.cell?_alloc_mark];rfl
     have HQQ:=lH (And.intro q0 (And.intro q1 q2))
     obtain⟨j1,j2,⟨⟨j3,j4,j5,j6⟩,j7⟩,_⟩:=HT2.out
     have HW:=lH (fun W' (h:xak W' (.slice al n cap) Lk)=>HF.out W' Lk k X h HP1.out HML.out hlt hXb)
     have hfx:=hfe (bd++#[.int .i64 (k:Int),.int .u64 X])
     clear hb hb2 q0 q1 q2 HGet
     by_cases hw:xcv Lk c k X=0
     ·have hkN:k<N:=by
       rcases Nat.lt_or_ge k N with h|h
       ·exact h
       ·have hkk:k=N:=by omega
        exact absurd (by rw[← hkk,HQ0.out];exact hw) (HK.out.2.2 (by omega))
      rw[hw,if_pos rfl] at HW
      clear hw
      obtain⟨Y,hY0⟩:∃ b,xdk Lk c k X=b:=⟨_,rfl⟩
      rw[hY0] at HW
      gi_wp2
      refine⟨trivial,xbn,(callsIn_wide.2 (HW.out _ HE2.out)).mono ?_⟩
      rintro x w3 ⟨rfl,hb3⟩
      have HT3:=lH (HT2.out.later hb3)
      have HJ3:=lH (HJ.out.grow (s:=(k,S)) HJ2.out hb3)
      have c0:=xaa hb3 HQQ.out.1
      have c1:=xaa hb3 HQQ.out.2.1
      have c2:=xaa hb3 HQQ.out.2.2
      clear g1 g2 g3 g4 g5 g6 g7 j1 j2 j3 j4 j5 j6 j7
      obtain⟨g1,g2,⟨⟨g3,g4,g5,g6⟩,g7⟩,_⟩:=HT3.out
      have hJ4:=HJ.out.cell (s:=(k,S)) (HJ.out.cell (s:=(k,S)) (HJ.out.cell (s:=(k,S)) HJ3.out BT 0 (.string t) rfl) BT 1 (.int .i64 (an:Int)) rfl) BT 2 (.int .i64 0) rfl
      have hT4:=HT3.out.set (a':=(an:Int)) (q':=0) HE.out.1 HE.out.2
      obtain⟨fn,tmps,assign,body,hy,hR⟩:=HY.out k S _ hJ4 (by show xbC _ _ _ _ _ _;rw[HEQ.out.2.2];exact hT4.2.2.1) hkN
      try dsimp only at hy
      rw[HEQ.out.2.1,hX0.out,hY0] at hy
      have HR:=lH hR
      have HT4:=lH hT4
      clear hR hT4 hJ4 hb3
      gi_wp2
      refine⟨xbn,HR.out.mono ?_⟩
      rintro x W5 (⟨rfl,S',hJ5,hk5⟩|⟨rfl,hJ5,_⟩)
      ·have HJ5:=lH hJ5
       have HT5:=lH (HT4.out.keeps hk5)
       clear hJ5 hk5
       gi_wp2
       go_roundw
       case rel=>exact⟨k+1,by omega,by go_num,S',HJ5,by rw[HEQ.out.2.2];exact HT5,lH (by simp)⟩
       case measure=>simp[intOf];omega
      ·have HJ5:=lH hJ5
       clear hJ5
       gi_wp2
       refine bodyPost_ret (results_none rfl _ _ _) rfl ?_
       exact⟨⟨_,rfl⟩,.inr ⟨k+1,by omega,HJ5.out⟩⟩
     ·have hkN:k=N:=by
       rcases Nat.lt_or_ge k N with h|h
       ·exact absurd (by rw[← HQ0.out];exact HK.out.2.1 k h) hw
       ·omega
      have HKN:=lH hkN
      clear hkN
      rw[if_neg hw] at HW
      have hne:(xcv Lk c k X == 0)=false:=by simpa using hw
      generalize hrw:xcv Lk c k X=r at *
      gi_wp2
      refine⟨trivial,xbn,(callsIn_wide.2 (HW.out _ HE2.out)).mono ?_⟩
      rintro x w3 ⟨rfl,hb3⟩
      have HT3:=lH (HT2.out.later hb3)
      have HJ3:=lH (HJ.out.grow (s:=(k,S)) HJ2.out hb3)
      clear g1 g2 g3 g4 g5 g6 g7 hb3 j1 j2 j3 j4 j5 j6 j7
      obtain⟨g1,g2,⟨⟨g3,g4,g5,g6⟩,g7⟩,_⟩:=HT3.out
      gi_wp2
      refine bodyPost_ret (results_none rfl _ _ _) rfl ?_
      refine⟨⟨_,rfl⟩,.inl ⟨S,by rw[← HKN.out];exact HJ.out.cell (s:=(k,S)) HJ3.out BT 2 _ rfl,?_⟩⟩
      show xbC _ _ _ _ _ _
      rw[← HKN.out,HEQ.out.1,HQ0.out]
      unfold xrr
      rw[if_pos hlt]
      exact xjg HT3.out.2.2.1
    ·have HGet:=lH (xjY t ak _ wr HM.out.2.2.2 hak' rfl he)
     have hkN:k=N:=by
      rcases Nat.lt_or_ge k N with h|h
      ·exact absurd (HK.out.2.1 k h) (by rw[hq0,if_pos he];exact he)
      ·omega
     have HKN:=lH hkN
     clear hkN
     rw[if_pos he] at hq0
     have HQ0:=lH hq0
     have hne:(xbo (t.data.toList.drop ak) == 0)=false:=by simpa using he
     clear hq0 hXv hak hLk hnx hak'
     generalize hre:xbo (t.data.toList.drop ak)=r at *
     gi_wp2
     refine⟨trivial,xbn,(callsIn_wide.2 HGet.out).mono ?_⟩
     rintro x w1 ⟨rfl,hb⟩
     have HT1:=lH (HT.out.later hb)
     have HJ1:=lH (HJ.out.grow (s:=(k,S)) HJs.out hb)
     clear g1 g2 g3 g4 g5 g6 g7 hb
     obtain⟨g1,g2,⟨⟨g3,g4,g5,g6⟩,g7⟩,_⟩:=HT1.out
     have hb2:Below w1.heap.size w1 (w1.alloc (.cells #[.string t,.int .i64 (ak:Int),.int .i64 r] 204)):=(Below.refl _ _).alloc (Nat.le_refl _) _
     have HT2:=lH (HT1.out.later hb2)
     have HJ2:=lH (HJ.out.grow (s:=(k,S)) HJ1.out hb2)
     obtain⟨j1,j2,⟨⟨j3,j4,j5,j6⟩,j7⟩,_⟩:=HT2.out
     clear hb2
     gi_wp2
     refine bodyPost_ret (results_none rfl _ _ _) rfl ?_
     refine⟨⟨_,rfl⟩,.inl ⟨S,by rw[← HKN.out];exact HJ.out.cell (s:=(k,S)) HJ2.out BT 2 _ rfl,?_⟩⟩
     show xbC _ _ _ _ _ _
     rw[← HKN.out,HEQ.out.1,HQ0.out]
     unfold xrr
     rw[if_pos hlt]
     exact xjg HT2.out.2.2.1
   ·obtain rfl:k=0:=by
     rcases Nat.eq_zero_or_pos k with h|h
     ·exact h
     ·exact absurd (HQ.out h) hq
    have e0:xeK t.data.toList c l a q 0=q:=by unfold xeK;rw[if_pos hq]
    have hkN:0=N:=by
     rcases Nat.eq_zero_or_pos N with h|h
     ·exact h.symm
     ·exact absurd (HK.out.2.1 0 h) (by rw[e0];exact hq)
    have HKN:=lH hkN
    clear hkN
    have HE0:=lH e0
    have hst0:(stq t.data.toList c l a 0).2=a:=rfl
    rw[hst0] at g4 HT
    have HGet:=lH (xnw t a q wr HM.out.2.2.2 hq)
    have hne:(q == 0)=false:=by simpa using hq
    clear e0 hst0
    gi_wp2
    refine⟨trivial,xbn,(callsIn_wide.2 HGet.out).mono ?_⟩
    rintro x w1 ⟨rfl,hb⟩
    have HT1:=lH (HT.out.later hb)
    have HJ1:=lH (HJ.out.grow (s:=(0,S)) HJs.out hb)
    clear g1 g2 g3 g4 g5 g6 g7 hb
    obtain⟨g1,g2,⟨⟨g3,g4,g5,g6⟩,g7⟩,_⟩:=HT1.out
    have hb2:Below w1.heap.size w1 (w1.alloc (.cells #[.string t,.int .i64 (a:Int),.int .i64 q] 204)):=(Below.refl _ _).alloc (Nat.le_refl _) _
    have HT2:=lH (HT1.out.later hb2)
    have HJ2:=lH (HJ.out.grow (s:=(0,S)) HJ1.out hb2)
    obtain⟨j1,j2,⟨⟨j3,j4,j5,j6⟩,j7⟩,_⟩:=HT2.out
    clear hb2
    gi_wp2
    refine bodyPost_ret (results_none rfl _ _ _) rfl ?_
    refine⟨⟨_,rfl⟩,.inl ⟨S,by rw[← HKN.out];exact HJ.out.cell (s:=(0,S)) HJ2.out BT 2 _ rfl,?_⟩⟩
    show xbC _ _ _ _ _ _
    rw[← HKN.out,HE0.out]
    unfold xrr
    rw[if_pos hlt]
    exact xjg HT2.out.2.2.1
  ·obtain rfl:k=n:=by have:=HK.out.1;omega
   have HKN:=lH (show k=N by have:=HK.out.1;omega)
   gi_wp2
   go_end0
   have z1:J N S wr:=by rw[← HKN.out];exact HJs.out
   have z2:xbC wr BT t ((stq t.data.toList c l a N).2:Int) (xrr N k (xeK t.data.toList c l a q N) q) (.slice al k cap):=by
    rw[← HKN.out]
    unfold xrr
    rw[if_neg (by omega)]
    exact HT.out.2.2.1
   refine⟨⟨_,rfl⟩,.inl ?_⟩
   first|exact⟨S,z1,z2⟩|exact⟨⟨S,z1⟩,z2⟩
end Go.Proofs.YtjinnigjfopbcaaGreatDoor
namespace Go.Proofs.YtjinnigjfopbcaaGreatDoor
set_option linter.unusedVariables false
set_option linter.unusedSimpArgs false
open Go.RowKit
set_option maxRecDepth 20000
def xf2 (D:List En × Int) (w:World) (x:Ending) (w':World):Prop:=∃ v',x=.returned (.tuple #[v',.int .i64 D.2])∧xak w' v' D.1∧Below w.heap.size w w'
theorem xfc {e:En} {d:ByteArray} (h:(d.size:Int)<e.off+e.ln):xa5 e d=([],8):=by unfold xa5;rw[if_pos h]
theorem xhp {e:En} {d:ByteArray} {D:List En × Nat × Int} (h:¬ (d.size:Int)<e.off+e.ln) (hD:xbR (d.extract e.off.toNat (e.off+e.ln).toNat).data.toList=D) (h1:D.2.2≠0):xa5 e d=([],D.2.2):=by unfold xa5;rw[if_neg h,hD,if_pos h1]
theorem xf8 {e:En} {d:ByteArray} {D:List En × Nat × Int} (h:¬ (d.size:Int)<e.off+e.ln) (hD:xbR (d.extract e.off.toNat (e.off+e.ln).toNat).data.toList=D) (h1:D.2.2=0) (h2:xaj D.1≠[]):xa5 e d=([],20):=by unfold xa5;rw[if_neg h,hD,if_neg (by simpa using h1),if_pos h2]
theorem xdt {e:En} {d:ByteArray} {D:List En × Nat × Int} (h:¬ (d.size:Int)<e.off+e.ln) (hD:xbR (d.extract e.off.toNat (e.off+e.ln).toNat).data.toList=D) (h1:D.2.2=0) (h2:xaj D.1=[]) (h3:D.1=[]∨(gS D.1 0).id≠e.id):xa5 e d=([],10):=by unfold xa5;rw[if_neg h,hD,if_neg (by simpa using h1),if_neg (by simpa using h2),if_pos h3]
theorem xf6 {e:En} {d:ByteArray} {D:List En × Nat × Int} (h:¬ (d.size:Int)<e.off+e.ln) (hD:xbR (d.extract e.off.toNat (e.off+e.ln).toNat).data.toList=D) (h1:D.2.2=0) (h2:xaj D.1=[]) (h3:¬ (D.1=[]∨(gS D.1 0).id≠e.id)):xa5 e d=(D.1,0):=by unfold xa5;rw[if_neg h,hD,if_neg (by simpa using h1),if_neg (by simpa using h2),if_neg h3]
theorem Below.drewNs {w W:World} (h:Below w.heap.size w W) (n:Nat):Below w.heap.size w (W.drewN n):=h.trans (show Below w.heap.size W (W.drewN n) from ⟨rfl,rfl,rfl,Nat.le_refl _,fun _ _=>rfl⟩)
theorem xak.drewNs {W:World} {v:Value} {l:List En} (h:xak W v l) (n:Nat):xak (W.drewN n) v l:=h.below ⟨rfl,rfl,rfl,Nat.le_refl _,fun _ _=>rfl⟩
theorem xhs (e:En) (d:ByteArray):(xa5 e d).1.length≤4096∧xay (xa5 e d).1:=by
 by_cases h1:(d.size:Int)<e.off+e.ln
 ·rw[xfc h1];exact⟨by simp,fun e h=>by simp at h⟩
 obtain⟨D,hD⟩:∃ D,xbR (d.extract e.off.toNat (e.off+e.ln).toNat).data.toList=D:=⟨_,rfl⟩
 by_cases h2:D.2.2=0
 ·by_cases h3:xaj D.1=[]
  ·by_cases h4:D.1=[]∨(gS D.1 0).id≠e.id
   ·rw[xdt h1 hD h2 h3 h4];exact⟨by simp,fun e h=>by simp at h⟩
   ·rw[xf6 h1 hD h2 h3 h4]
    have hb:=xcH (d.extract e.off.toNat (e.off+e.ln).toNat).data.toList
    rw[hD] at hb
    obtain⟨b1,b2,_⟩:=hb h2
    exact⟨xdP b1,b2⟩
  ·rw[xf8 h1 hD h2 h3];exact⟨by simp,fun e h=>by simp at h⟩
 ·rw[xhp h1 hD h2];exact⟨by simp,fun e h=>by simp at h⟩
theorem xkq (l:List En) (k:Nat) (e:En) (d:ByteArray) (out:List En) (h:l[k]?=some e):goJ (l.drop k) d out=if 0<e.rn then goJ (l.drop (k+1)) d (out++[e]) else if (xa5 e d).2≠0 then ([],(xa5 e d).2) else goJ (l.drop (k+1)) d (out++(xa5 e d).1):=by
 obtain⟨hk,rfl⟩:=List.getElem?_eq_some_iff.1 h
 rw[List.drop_eq_getElem_cons hk,goJ]
theorem xqF {root:List En} {d:ByteArray} (h:xaC root=0):xcr root d=if (goJ root d []).2≠0 then ([],(goJ root d []).2) else if xaC (goJ root d []).1≠0 then ([],xaC (goJ root d []).1) else ((goJ root d []).1,0):=by
 unfold xcr;rw[if_neg (by simpa using h)]
theorem xjI {a b:List En} (ha:xay a) (hb:xay b):xay (a++b):=fun e he=>by
 rcases List.mem_append.1 he with h|h
 ·exact ha e h
 ·exact hb e h
end Go.Proofs.YtjinnigjfopbcaaGreatDoor
