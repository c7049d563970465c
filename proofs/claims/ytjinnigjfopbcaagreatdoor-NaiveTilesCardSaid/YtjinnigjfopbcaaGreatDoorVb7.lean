/- bMK bUd bUe. -/
import Derived.Test.YtjinnigjfopbcaaGreatDoorVs
import Derived.Test.YtjinnigjfopbcaaGreatDoorVb6
set_option maxHeartbeats 16000000
namespace Go.Proofs.YtjinnigjfopbcaaGreatDoor
set_option linter.unusedVariables false
set_option linter.unusedSimpArgs false
def stq (t:List UInt8) (c:Nat) (l:List En) (a:Nat):Nat→List En × Nat
 | 0=>(l,a)
 | k+1=>(xdW (stq t c l a k).1 c k (xaZ (t.drop (stq t c l a k).2)),(stq t c l a k).2+(xaK 10 (t.drop (stq t c l a k).2)+1))
def xq (t:List UInt8) (c:Nat) (l:List En) (a k:Nat):Int:=xaZ (t.drop (stq t c l a k).2)
def xiA (t:List UInt8) (c:Nat) (l:List En) (a k:Nat):Int :=
 if xbj (t.drop (stq t c l a k).2)≠0 then xbj (t.drop (stq t c l a k).2) else xbo (stq t c l a k).1 c k (xq t c l a k)
theorem xhy (t:List UInt8) (c:Nat) (l:List En) (a k:Nat):stq t c l a (k+1)=(xdW (stq t c l a k).1 c k (xq t c l a k),(stq t c l a k).2+(xaK 10 (t.drop (stq t c l a k).2)+1)):=rfl
theorem xli {t:List UInt8} {c:Nat} {l:List En} {a k:Nat} (h:xiA t c l a k=0):xbj (t.drop (stq t c l a k).2)=0∧xbo (stq t c l a k).1 c k (xq t c l a k)=0:=by
 unfold xiA at h
 by_cases h1:xbj (t.drop (stq t c l a k).2)=0
 ·rw[if_neg (fun h=>h h1)] at h;exact⟨h1,h⟩
 ·rw[if_pos h1] at h;exact absurd h h1
theorem xvM (t:List UInt8) (c:Nat) (l:List En) (a n:Nat):∃ N,N≤n∧(∀ k,k<N→xiA t c l a k=0)∧(N<n→xiA t c l a N≠0):=by
 induction n with
 | zero=>exact⟨0,Nat.le_refl _,fun k h=>by omega,fun h=>by omega⟩
 | succ n ih =>
  obtain⟨N,h1,h2,h3⟩:=ih
  by_cases hN:N<n
  ·exact⟨N,by omega,h2,fun _=>h3 hN⟩
  ·obtain rfl:N=n:=by omega
   by_cases he:xiA t c l a N=0
   ·exact⟨N+1,Nat.le_refl _,fun k hk=>by by_cases hk':k<N;exact h2 k hk';obtain rfl:k=N:=(by omega);exact he,fun h=>by omega⟩
   ·exact⟨N,by omega,h2,fun _=>he⟩
theorem xme {n c k:Nat} (hk:k<n):(c*n+k) / n=c∧(c*n+k) % n=k:=by
 have hn:0<n:=by omega
 rw[Nat.mul_comm,Nat.add_comm]
 constructor
 ·rw[Nat.add_mul_div_left _ _ hn,Nat.div_eq_of_lt hk,Nat.zero_add]
 ·rw[Nat.add_mul_mod_self_left,Nat.mod_eq_of_lt hk]
theorem xxk {n c k:Nat} (hc:c<4) (hk:k<n):c*n+k<4*n:=by
 have:c*n+n≤4*n:=by rw[← Nat.succ_mul];exact Nat.mul_le_mul_right _ (by omega)
 omega
theorem xjk {t:List UInt8} {c n:Nat} {l:List En} {a:Nat} (hc:c<4) (hl:l.length=n) (hm:∀ j,j<n→xaY (gE l j)) (ha:a≤t.length):∀ k,k≤n→(∀ j,j<k→xiA t c l a j=0) →
  (stq t c l a k).1.length=n∧(∀ j,j<n→xaY (gE (stq t c l a k).1 j))∧(stq t c l a k).2≤t.length:=by
 intro k
 induction k with
 | zero=>exact fun _ _=>⟨hl,hm,ha⟩
 | succ k ih =>
  intro hk he
  obtain⟨h1,h2,h3⟩:=ih (by omega) (fun j hj=>he j (by omega))
  obtain⟨e1,e2⟩:=xli (he k (by omega))
  have hb:=xct _ e1
  obtain⟨d1,d2⟩:=xme (c:=c) (n:=n) (k:=k) (by omega)
  have hp:=xh3 (x:=xq t c l a k) h1 (xxk hc (by omega:k<n)) h2 hb
  rw[d1,d2] at hp
  rw[xhy]
  refine⟨by rw[xcQ,h1],hp,?_⟩
  have:=(xde _ e1).2.1
  rw[List.length_drop] at this
  show _+(_+1)≤_
  omega
theorem xrA {t:List UInt8} {c n r:Nat} {l:List En} {a:Nat}:∀ N,N≤n→(∀ k,k<N→xiA t c l a k=0) →
  goD t n (n+r) (c*n) l a=goD t n (n - N+r) (c*n+N) (stq t c l a N).1 (stq t c l a N).2:=by
 intro N
 induction N with
 | zero=>intro _ _;rfl
 | succ N ih =>
  intro hN he
  rw[ih (by omega) (fun k hk=>he k (by omega))]
  obtain⟨e1,e2⟩:=xli (he N (by omega))
  obtain⟨d1,d2⟩:=xme (c:=c) (n:=n) (k:=N) (by omega)
  rw[show n - N+r=(n - (N+1)+r)+1 from by omega,goD,d1,d2,if_neg (fun h=>h e1)]
  have e2':xbo (stq t c l a N).1 c N (xaZ (t.drop (stq t c l a N).2))=0:=e2
  rw[if_neg (fun h=>h e2')]
  rfl
theorem xsA {t:List UInt8} {c n r:Nat} {l:List En} {a N:Nat} (hN:N<n) (he:∀ k,k<N→xiA t c l a k=0) (hn:xiA t c l a N≠0):goD t n (n+r) (c*n) l a=([],(stq t c l a N).2,xiA t c l a N):=by
 rw[xrA N (by omega) he]
 obtain⟨d1,d2⟩:=xme (c:=c) (n:=n) (k:=N) hN
 rw[show n - N+r=(n - (N+1)+r)+1 from by omega,goD,d1,d2]
 unfold xiA at hn ⊢
 by_cases h1:xbj (t.drop (stq t c l a N).2)=0
 ·have hc:¬ (xbj (t.drop (stq t c l a N).2)≠0):=fun h=>h h1
  rw[if_neg hc] at hn
  have hn':xbo (stq t c l a N).1 c N (xaZ (t.drop (stq t c l a N).2))≠0:=hn
  rw[if_neg hc,if_pos hn',if_neg hc]
  rfl
 ·rw[if_pos h1,if_pos h1]
def xnR (t:List UInt8) (c n:Nat) (l:List En) (a:Nat) (q:Int) (l':List En) (a':Nat) (q':Int):Prop :=
 (q≠0∧l'=l∧a'=a∧q'=q)∨(q=0∧∃ N,N≤n∧(∀ k,k<N→xiA t c l a k=0)∧(N<n→xiA t c l a N≠0)∧l'=(stq t c l a N).1∧a'=(stq t c l a N).2∧q'=if N<n then xiA t c l a N else 0)
def xsX (t:List UInt8) (n r c:Nat) (l:List En) (a:Nat) (q:Int):List En × Nat × Int:=if q≠0 then ([],a,q) else goD t n r (c*n) l a
theorem xd3 {t:List UInt8} {n r c:Nat} {l l':List En} {a a':Nat} {q q':Int} (h:xnR t c n l a q l' a' q'):xsX t n (n+r) c l a q=xsX t n r (c+1) l' a' q':=by
 unfold xsX
 rcases h with ⟨h1,rfl,rfl,rfl⟩|⟨rfl,N,h1,h2,h3,rfl,rfl,rfl⟩
 ·rw[if_pos h1,if_pos h1]
 ·rw[if_neg (fun h=>h rfl)]
  by_cases hN:N<n
  ·rw[if_pos hN,if_pos (h3 hN)]
   exact xsA hN h2 (h3 hN)
  ·obtain rfl:N=n:=by omega
   rw[if_neg hN,if_neg (fun h=>h rfl),xrA N (Nat.le_refl _) h2,Nat.sub_self,Nat.zero_add,Nat.succ_mul]
open Go.RowKit Go.Shelf
set_option maxRecDepth 20000
theorem xoV (t:ByteArray) (a:Nat) (ha:a≤t.size):xbq t (a:Int) 0=0:=by
 have h:xaN t (a:Int)=0:=by
  unfold xaN
  rw[if_pos (by omega)]
 simp[xbq,xaM,h]
theorem xm4 (t:ByteArray) (a:Nat) (q:Int) (hq:q≠0):xbq t (a:Int) q=q:=by
 unfold xbq xaM
 simp[hq]
theorem xpq (t:ByteArray) (a:Nat) (q:Int) (w:World) (hm:t.size≤maxLen) (hq:q≠0):Calls Tryz.prog 195 #[.agg #[.string t,.int .i64 (a:Int),.int .i64 q]] w (xcX t 0 (a:Int) q w) :=
 xzo t a q q w hm (xm4 t a q hq) hq
theorem xmC (t:ByteArray) (a:Nat) (r:Int) (w:World) (hm:t.size≤maxLen) (ha:a≤t.size) (hr:xbj (t.data.toList.drop a)=r) (h:r≠0):Calls Tryz.prog 195 #[.agg #[.string t,.int .i64 (a:Int),.int .i64 0]] w (xcX t 0 (a:Int) r w) :=
 xzv t a 0 r w hm (xoV t a ha) (by rw[xeN];exact hr) h
theorem xju (t:ByteArray) (a:Nat) (w:World) (hm:t.size≤maxLen) (ha:a≤t.size) (hr:xbj (t.data.toList.drop a)=0):Calls Tryz.prog 195 #[.agg #[.string t,.int .i64 (a:Int),.int .i64 0]] w (xcX t (xaZ (t.data.toList.drop a)) ((a+(xaK 10 (t.data.toList.drop a)+1):Nat):Int) 0 w):=by
 have:=xyF t a 0 _ _ w hm (xoV t a ha) (by rw[xeN];exact hr) rfl rfl
 rw[xeN] at this
 unfold xl0 at this
 have e:(a:Int)+((xaK 10 (t.data.toList.drop a)+1:Nat):Int)=((a+(xaK 10 (t.data.toList.drop a)+1):Nat):Int):=by omega
 rw[e] at this
 exact this
def xbY (W:World) (b:Nat) (t:ByteArray) (a q:Int) (v:Value):Prop:=xdF W b t a q∧W.cell? ⟨b,3,none⟩=some v
theorem xbY.later {w w':World} {b:Nat} {t:ByteArray} {a q:Int} {v:Value} (h:xbY w b t a q v) (hb:Below w.heap.size w w'):xbY w' b t a q v:=⟨h.1.later hb,xad hb h.2⟩
theorem xbY.lt {w:World} {b:Nat} {t:ByteArray} {a q:Int} {v:Value} (h:xbY w b t a q v):b<w.heap.size:=xbz (a:=⟨b,3,none⟩) h.2
theorem xc9 {X Y:World} {b:Nat} (h:Y.heap[b]?=X.heap[b]?) (o:Nat):Y.cell? ⟨b,o,none⟩=X.cell? ⟨b,o,none⟩∧Y.frozen? ⟨b,o,none⟩=X.frozen? ⟨b,o,none⟩:=by
 simp[World.cell?,World.frozen?,h]
theorem xbY.heap {w w':World} {b:Nat} {t:ByteArray} {a q:Int} {v:Value} (h:xbY w b t a q v) (hb:w'.heap[b]?=w.heap[b]?):xbY w' b t a q v:=by
 obtain⟨⟨c0,c1,c2,f⟩,c3⟩:=h
 exact⟨⟨(xc9 hb 0).1.trans c0,(xc9 hb 1).1.trans c1,(xc9 hb 2).1.trans c2,fun o=>(xc9 hb o).2.trans (f o)⟩,(xc9 hb 3).1.trans c3⟩
theorem xv3 {w:World} {b:Nat} {t t':ByteArray} {a a' q q':Int} {v:Value} (h:xbY w b t a q v):xbY (((w.setCell ⟨b,0,none⟩ (.string t')).setCell ⟨b,1,none⟩ (.int .i64 a')).setCell ⟨b,2,none⟩ (.int .i64 q')) b t' a' q' v:=by
 refine⟨xja h.1,?_⟩
 obtain⟨⟨c0,c1,c2,f⟩,c3⟩:=h
 simp[go_sem,c3]
theorem xk2 {w:World} {b:Nat} {t:ByteArray} {a q q':Int} {v:Value} (h:xbY w b t a q v):xbY (w.setCell ⟨b,2,none⟩ (.int .i64 q')) b t a q' v:=by
 obtain⟨⟨c0,c1,c2,f⟩,c3⟩:=h
 exact⟨⟨by simp[go_sem,c0],by simp[go_sem,c1],by simp[go_sem,c2],fun o=>by simp[go_sem,f]⟩,by simp[go_sem,c3]⟩
theorem xnl (W:World) (b o:Nat) (v:Value):W.grownBy (W.setCell ⟨b,o,none⟩ v) (some b) :=
 ⟨rfl,rfl,rfl,(KeepsWalks.setCell W _ v).size,fun k _ hk=>Below.heap_setCell _ _ _ k (fun e=>hk (by rw[e]))⟩
theorem xbV.cell {β:Type} {T:Nat→Prop} {B:Nat} {J:β→World→Prop} (h:xbV T B J) {s:β} {W:World} (hs:J s W) (b o:Nat) (v:Value) (hb:T b):J s (W.setCell ⟨b,o,none⟩ v) :=
 h s W _ (some b) hs (xnl W b o v) (fun r e=>by cases e;exact .inl hb)
def wfN (c:Nat):Nat:=if c=0 then 118 else if c=3 then 120 else 119
def wbN (c:Nat) (v:Value):Array Value:=if c=0∨c=3 then #[v] else #[]
theorem xmN (c:Nat) (args:Array Value) (W:World):(callFunc (wfN c) args).run Tryz.prog W=.ok (.enter (wfN c) args) W:=by
 unfold wfN
 split
 ·exact enters_of Tryz.func118 (by kernel_rfl) rfl args W
 split
 ·exact enters_of Tryz.func120 (by kernel_rfl) rfl args W
 ·exact enters_of Tryz.func119 (by kernel_rfl) rfl args W
theorem xv8 (c:Nat) (hc:c<4) (v:Value) (l:List En) (hm:xas l) (W:World) (i:Nat) (x:Int) (hv:xaj W v l) (hi:i<l.length) (hx:0≤x∧x≤18446744073709551615) :
  Calls Tryz.prog (wfN c) (wbN c v++#[.int .i64 (i:Int),.int .u64 x]) W fun y w'=>y=.returned (.tuple #[.int .u64 (if xbo l c i x=0 then xdV l c i x else 0),.int .i64 (xbo l c i x)])∧Below W.heap.size W w':=by
 rcases(by omega:c=0∨c=1∨c=2∨c=3) with rfl|rfl|rfl|rfl
 ·exact xtz v l W i x hv hm hi hx
 ·exact xj4 l 1 i x W (.inl rfl) hx
 ·exact xj4 l 2 i x W (.inr rfl) hx
 ·exact xss v l W i x hv hm hi hx
attribute [local go_sem] Oper.semAt_some
theorem xeq (b k:Nat) (bd:Array Value) (w:World):Calls Tryz.prog 117 #[.pointer (some ⟨b,0,none⟩),.func (.func k) bd #[]] w fun x w'=>x=.returned (.func (.func 196) #[] #[.pointer (some ⟨w.heap.size,0,none⟩),.pointer (some ⟨w.heap.size+1,0,none⟩)])∧w'=(w.alloc (.cells #[.pointer (some ⟨b,0,none⟩)] 315)).alloc (.cells #[.func (.func k) bd #[]] 212):=by
 go_enter Tryz.func117,Tryz.ntmps117
 go_wp2_with fail
 go_ret
 exact⟨rfl,rfl⟩
def xfh (t:List UInt8) (c:Nat) (l:List En) (a:Nat) (q:Int) (k:Nat):Int:=if q≠0 then q else xiA t c l a k
def xsv (N n:Nat) (e q:Int):Int:=if N<n then e else q
def TK (B1 B2 BT f:Nat) (bd:Array Value) (t:ByteArray) (a q:Int) (v:Value) (S:Nat→Prop) (W:World):Prop :=
 W.cell? ⟨B1,0,none⟩=some (.pointer (some ⟨BT,0,none⟩))∧W.cell? ⟨B2,0,none⟩=some (.func (.func f) bd #[])∧xbY W BT t a q v∧¬ S B1∧¬ S B2∧¬ S BT
theorem TK.later {B1 B2 BT f:Nat} {bd:Array Value} {t:ByteArray} {a q:Int} {v:Value} {S:Nat→Prop} {W W':World} (h:TK B1 B2 BT f bd t a q v S W) (hb:Below W.heap.size W W'):TK B1 B2 BT f bd t a q v S W' :=
 ⟨xad hb h.1,xad hb h.2.1,h.2.2.1.later hb,h.2.2.2⟩
theorem TK.keeps {B1 B2 BT f:Nat} {bd:Array Value} {t:ByteArray} {a q:Int} {v:Value} {S S':Nat→Prop} {W W':World} (h:TK B1 B2 BT f bd t a q v S W) (hk:KeepsS S S' W W'):TK B1 B2 BT f bd t a q v S' W':=by
 obtain⟨h1,h2,h3,n1,n2,n3⟩:=h
 have l1:=xbz h1
 have l2:=xbz h2
 have l3:=h3.lt
 dsimp only at l1 l2
 refine⟨hk.cell (p:=⟨B1,0,none⟩) n1 h1,hk.cell (p:=⟨B2,0,none⟩) n2 h2,h3.heap (hk.heap n3 l3),fun h=>?_,fun h=>?_,fun h=>?_⟩
 ·rcases hk.own _ h with h|h;exact n1 h;omega
 ·rcases hk.own _ h with h|h;exact n2 h;omega
 ·rcases hk.own _ h with h|h;exact n3 h;omega
theorem TK.set {B1 B2 BT f:Nat} {bd:Array Value} {t:ByteArray} {a q a' q':Int} {v:Value} {S:Nat→Prop} {W:World} (h:TK B1 B2 BT f bd t a q v S W) (e1:B1≠BT) (e2:B2≠BT):TK B1 B2 BT f bd t a' q' v S (((W.setCell ⟨BT,0,none⟩ (.string t)).setCell ⟨BT,1,none⟩ (.int .i64 a')).setCell ⟨BT,2,none⟩ (.int .i64 q')):=by
 obtain⟨h1,h2,h3,n⟩:=h
 refine⟨?_,?_,xv3 h3,n⟩
 ·rw[World.cell?_setCell_far _ _ _ _ (fun e=>e1 e.symm),World.cell?_setCell_far _ _ _ _ (fun e=>e1 e.symm),World.cell?_setCell_far _ _ _ _ (fun e=>e1 e.symm)];exact h1
 ·rw[World.cell?_setCell_far _ _ _ _ (fun e=>e2 e.symm),World.cell?_setCell_far _ _ _ _ (fun e=>e2 e.symm),World.cell?_setCell_far _ _ _ _ (fun e=>e2 e.symm)];exact h2
set_option maxRecDepth 100000 in
theorem xnx (f c n:Nat) (bd:Array Value) (al:Option Addr) (cap:Nat) (t:ByteArray) (l:List En) (a:Nat) (q:Int) (B1 B2 BT N:Nat) (w:World) (hfe:∀ args W,(callFunc f args).run Tryz.prog W=.ok (.enter f args) W)
  (hf:∀ W (L:List En) (k:Nat) (x:Int),xaj W (.slice al n cap) L→L.length=n→xas L→k<n→0≤x∧x≤18446744073709551615→Calls Tryz.prog f (bd++#[.int .i64 (k:Int),.int .u64 x]) W fun y w'=>y=.returned (.tuple #[.int .u64 (if xbo L c k x=0 then xdV L c k x else 0),.int .i64 (xbo L c k x)])∧Below W.heap.size W w')
  (hc:c<4) (hl:l.length=n) (hm:xas l) (hn:n≤4096) (hsz:t.size≤65536) (ha:a≤t.size) (hN:N≤n) (hk:∀ k,k<N→xfh t.data.toList c l a q k=0) (hke:N<n→xfh t.data.toList c l a q N≠0)
  (h1:w.cell? ⟨B1,0,none⟩=some (.pointer (some ⟨BT,0,none⟩))) (h2:w.cell? ⟨B2,0,none⟩=some (.func (.func f) bd #[])) (hT:xbY w BT t (a:Int) q (.slice al n cap)) (e1:B1≠BT) (e2:B2≠BT) :
  xyz Tryz.prog 196 #[.pointer (some ⟨B1,0,none⟩),.pointer (some ⟨B2,0,none⟩)] (fun k=>#[.int .i64 (k:Int),.int .u64 (xdV (stq t.data.toList c l a k).1 c k (xq t.data.toList c l a k))]) N (fun b=>b=BT) (fun b=>b=B1∨b=B2∨b=BT)
   (fun k W=>xaj W (.slice al n cap) (stq t.data.toList c l a k).1) (fun k W=>xbY W BT t ((stq t.data.toList c l a (k+1)).2:Int) 0 (.slice al n cap))
   (fun W=>xbY W BT t ((stq t.data.toList c l a N).2:Int) (xsv N n (xfh t.data.toList c l a q N) q) (.slice al n cap)) w:=by
 intro m lp J Jx S0 W hW hJ hJx hG hS0 hY h0
 have hTK:TK B1 B2 BT f bd t a q (.slice al n cap) S0 W:=⟨xad hW h1,xad hW h2,hT.later hW,fun h=>(hS0 _ h).2 (.inl rfl),fun h=>(hS0 _ h).2 (.inr (.inl rfl)),fun h=>(hS0 _ h).2 (.inr (.inr rfl))⟩
 have hmx:t.size≤maxLen:=by unfold maxLen;omega
 have hst:=fun k (hkN:k≤N) (hq:q=0)=>xjk (t:=t.data.toList) hc hl ((xc5 hl).1 hm) (by simpa using ha) k (by omega) (fun j hj=>by have:=hk j (by omega);unfold xfh at this;rw[if_neg (fun h=>h hq)] at this;exact this)
 have HST:=lH hst
 have HF:=lH hf
 have HJ:=lH hJ
 have HY:=lH hY
 have HG:=lH hG
 have HK:=lH (And.intro hN (And.intro hk hke))
 have HE:=lH (And.intro e1 e2)
 have HM:=lH (And.intro hl (And.intro hm (And.intro ha hmx)))
 have HTK:=lH hTK
 obtain⟨g1,g2,⟨⟨g3,g4,g5,g6⟩,g7⟩,_⟩:=hTK
 clear hst hf hJ hY hG hk hke hN e1 e2 hl hm ha hmx hT h1 h2 hS0 hJx hsz
 refine callsIn_of_wp Tryz.func196 rfl trivial ?_ rfl
 simp only[Tryz.ntmps196,List.size_toArray,List.length_cons,List.length_nil,Nat.reduceAdd,Nat.reduceSub,Array.replicate_succ,Array.replicate_zero,List.push_toArray,List.append_toArray,List.nil_append,List.cons_append]
 gi_wp2
 clear g1 g2 g3 g4 g5 g6 g7
 gi_loopw [13] (fun i wr=>∃ k:Nat,k≤N∧i=.int .i64 k∧∃ S,Hid (J k S wr)∧Hid (TK B1 B2 BT f bd t ((stq t.data.toList c l a k).2:Int) q (.slice al n cap) S wr)∧Hid (0<k→q=0)) (fun i _=>N+1 - (intOf i).toNat)
 case atStart=>exact⟨0,Nat.zero_le _,rfl,S0,lH h0,HTK,lH (fun h=>by omega)⟩
 case round =>
  obtain⟨k,hk,rfl,S,HJs,HT,HQ⟩:=hrel
  by_cases hlt:k<n
  ·have hi2:(k:Int)<(n:Int):=by omega
   obtain⟨g1,g2,⟨⟨g3,g4,g5,g6⟩,g7⟩,_⟩:=HT.out
   by_cases hq:q=0
   ·obtain⟨p1,p2,p3⟩:=HST.out k hk hq
    subst hq
    obtain⟨ak,hak⟩:∃ b,(stq t.data.toList c l a k).2=b:=⟨_,rfl⟩
    obtain⟨Lk,hLk⟩:∃ b,(stq t.data.toList c l a k).1=b:=⟨_,rfl⟩
    obtain⟨X,hX⟩:∃ b,xq t.data.toList c l a k=b:=⟨_,rfl⟩
    have hq0:xfh t.data.toList c l a 0 k=if xbj (t.data.toList.drop ak)≠0 then xbj (t.data.toList.drop ak) else xbo Lk c k X:=by
     unfold xfh xiA
     rw[if_neg (fun h=>h rfl),hak,hLk,hX]
    have hXv:xaZ (t.data.toList.drop ak)=X:=by rw[← hX];unfold xq;rw[hak]
    have hnx:(stq t.data.toList c l a (k+1)).2=ak+(xaK 10 (t.data.toList.drop ak)+1):=by rw[xhy,hak]
    rw[hak] at g4 p3 HT
    rw[hLk] at p1 p2
    have hak':ak≤t.size:=by simpa using p3
    have HEn:=lH ((HG.out k S wr HJs.out).1)
    rw[hLk] at HEn
    have HML:Hid (xas Lk):=lH ((xc5 p1).2 p2)
    have HP1:=lH p1
    have hX0:=lH hX
    clear p1 p2 p3 hX
    have HEQ:=lH (And.intro hak (And.intro hLk hnx))
    by_cases he:xbj (t.data.toList.drop ak)=0
    ·have HGet:=lH (xju t ak wr HM.out.2.2.2 hak' he)
     rw[hXv] at HGet
     have hXb:0≤X∧X≤18446744073709551615:=by rw[← hXv];exact xct _ he
     rw[if_neg (fun h=>h he)] at hq0
     have HQ0:=lH hq0
     clear hq0 hXv hak hLk hnx he hak'
     generalize ak+(xaK 10 (t.data.toList.drop ak)+1)=an at *
     gi_wp2
     refine⟨trivial,xbX,(callsIn_wide.2 HGet.out).mono ?_⟩
     rintro x w1 ⟨rfl,hb⟩
     have HT1:=lH (HT.out.later hb)
     have HJ1:=lH (HJ.out.grow (s:=(k,S)) HJs.out hb)
     have HE1:=lH (HEn.out.below hb)
     obtain⟨g1,g2,⟨⟨g3,g4,g5,g6⟩,g7⟩,_⟩:=HT1.out
     have hb2:Below w1.heap.size w1 (w1.alloc (.cells #[.string t,.int .i64 (an:Int),.int .i64 0] 204)):=(Below.refl _ _).alloc (Nat.le_refl _) _
     have HT2:=lH (HT1.out.later hb2)
     have HJ2:=lH (HJ.out.grow (s:=(k,S)) HJ1.out hb2)
     have HE2:=lH (HE1.out.below hb2)
     have q0:(w1.alloc (.cells #[.string t,.int .i64 (an:Int),.int .i64 0] 204)).cell? ⟨w1.heap.size,0,none⟩=some (.string t):=by rw[World.cell?_alloc_mark];rfl
     have q1:(w1.alloc (.cells #[.string t,.int .i64 (an:Int),.int .i64 0] 204)).cell? ⟨w1.heap.size,1,none⟩=some (.int .i64 (an:Int)):=by rw[World.cell?_alloc_mark];rfl
     have q2:(w1.alloc (.cells #[.string t,.int .i64 (an:Int),.int .i64 0] 204)).cell? ⟨w1.heap.size,2,none⟩=some (.int .i64 0):=by rw[World.cell?_alloc_mark];rfl
     have HQQ:=lH (And.intro q0 (And.intro q1 q2))
     obtain⟨j1,j2,⟨⟨j3,j4,j5,j6⟩,j7⟩,_⟩:=HT2.out
     have HW:=lH (fun W' (h:xaj W' (.slice al n cap) Lk)=>HF.out W' Lk k X h HP1.out HML.out hlt hXb)
     have hfx:=hfe (bd++#[.int .i64 (k:Int),.int .u64 X])
     clear hb hb2 q0 q1 q2 HGet
     by_cases hw:xbo Lk c k X=0
     ·have hkN:k<N:=by
       rcases Nat.lt_or_ge k N with h|h
       ·exact h
       ·have hkk:k=N:=by omega
        exact absurd (by rw[← hkk,HQ0.out];exact hw) (HK.out.2.2 (by omega))
      rw[hw,if_pos rfl] at HW
      clear hw
      obtain⟨Y,hY0⟩:∃ b,xdV Lk c k X=b:=⟨_,rfl⟩
      rw[hY0] at HW
      gi_wp2
      refine⟨trivial,xbX,(callsIn_wide.2 (HW.out _ HE2.out)).mono ?_⟩
      rintro x w3 ⟨rfl,hb3⟩
      have HT3:=lH (HT2.out.later hb3)
      have HJ3:=lH (HJ.out.grow (s:=(k,S)) HJ2.out hb3)
      have c0:=xad hb3 HQQ.out.1
      have c1:=xad hb3 HQQ.out.2.1
      have c2:=xad hb3 HQQ.out.2.2
      clear g1 g2 g3 g4 g5 g6 g7 j1 j2 j3 j4 j5 j6 j7
      obtain⟨g1,g2,⟨⟨g3,g4,g5,g6⟩,g7⟩,_⟩:=HT3.out
      have hJ4:=HJ.out.cell (s:=(k,S)) (HJ.out.cell (s:=(k,S)) (HJ.out.cell (s:=(k,S)) HJ3.out BT 0 (.string t) rfl) BT 1 (.int .i64 (an:Int)) rfl) BT 2 (.int .i64 0) rfl
      have hT4:=HT3.out.set (a':=(an:Int)) (q':=0) HE.out.1 HE.out.2
      obtain⟨fn,tmps,assign,body,hy,hR⟩:=HY.out k S _ hJ4 (by show xbY _ _ _ _ _ _;rw[HEQ.out.2.2];exact hT4.2.2.1) hkN
      try dsimp only at hy
      rw[HEQ.out.2.1,hX0.out,hY0] at hy
      have HR:=lH hR
      have HT4:=lH hT4
      clear hR hT4 hJ4 hb3
      gi_wp2
      refine⟨xbX,HR.out.mono ?_⟩
      rintro x W5 (⟨rfl,S',hJ5,hk5⟩|⟨rfl,hJ5,_⟩)
      ·have HJ5:=lH hJ5
       have HT5:=lH (HT4.out.keeps hk5)
       clear hJ5 hk5
       gi_wp2
       go_roundw
       case rel=>exact⟨k+1,by omega,by go_num,S',HJ5,by rw[HEQ.out.2.2];exact HT5,lH (by simp)⟩
       case measure=>simp[intOf];omega
      ·have HJ5:=lH hJ5
       clear hJ5
       gi_wp2
       refine bodyPost_ret (results_none rfl _ _ _) rfl ?_
       exact⟨⟨_,rfl⟩,.inr ⟨k+1,by omega,HJ5.out⟩⟩
     ·have hkN:k=N:=by
       rcases Nat.lt_or_ge k N with h|h
       ·exact absurd (by rw[← HQ0.out];exact HK.out.2.1 k h) hw
       ·omega
      have HKN:=lH hkN
      clear hkN
      rw[if_neg hw] at HW
      have hne:(xbo Lk c k X == 0)=false:=by simpa using hw
      generalize hrw:xbo Lk c k X=r at *
      gi_wp2
      refine⟨trivial,xbX,(callsIn_wide.2 (HW.out _ HE2.out)).mono ?_⟩
      rintro x w3 ⟨rfl,hb3⟩
      have HT3:=lH (HT2.out.later hb3)
      have HJ3:=lH (HJ.out.grow (s:=(k,S)) HJ2.out hb3)
      clear g1 g2 g3 g4 g5 g6 g7 hb3 j1 j2 j3 j4 j5 j6 j7
      obtain⟨g1,g2,⟨⟨g3,g4,g5,g6⟩,g7⟩,_⟩:=HT3.out
      gi_wp2
      refine bodyPost_ret (results_none rfl _ _ _) rfl ?_
      refine⟨⟨_,rfl⟩,.inl ⟨S,by rw[← HKN.out];exact HJ.out.cell (s:=(k,S)) HJ3.out BT 2 _ rfl,?_⟩⟩
      show xbY _ _ _ _ _ _
      rw[← HKN.out,HEQ.out.1,HQ0.out]
      unfold xsv
      rw[if_pos hlt]
      exact xk2 HT3.out.2.2.1
    ·have HGet:=lH (xmC t ak _ wr HM.out.2.2.2 hak' rfl he)
     have hkN:k=N:=by
      rcases Nat.lt_or_ge k N with h|h
      ·exact absurd (HK.out.2.1 k h) (by rw[hq0,if_pos he];exact he)
      ·omega
     have HKN:=lH hkN
     clear hkN
     rw[if_pos he] at hq0
     have HQ0:=lH hq0
     have hne:(xbj (t.data.toList.drop ak) == 0)=false:=by simpa using he
     clear hq0 hXv hak hLk hnx hak'
     generalize hre:xbj (t.data.toList.drop ak)=r at *
     gi_wp2
     refine⟨trivial,xbX,(callsIn_wide.2 HGet.out).mono ?_⟩
     rintro x w1 ⟨rfl,hb⟩
     have HT1:=lH (HT.out.later hb)
     have HJ1:=lH (HJ.out.grow (s:=(k,S)) HJs.out hb)
     clear g1 g2 g3 g4 g5 g6 g7 hb
     obtain⟨g1,g2,⟨⟨g3,g4,g5,g6⟩,g7⟩,_⟩:=HT1.out
     have hb2:Below w1.heap.size w1 (w1.alloc (.cells #[.string t,.int .i64 (ak:Int),.int .i64 r] 204)):=(Below.refl _ _).alloc (Nat.le_refl _) _
     have HT2:=lH (HT1.out.later hb2)
     have HJ2:=lH (HJ.out.grow (s:=(k,S)) HJ1.out hb2)
     obtain⟨j1,j2,⟨⟨j3,j4,j5,j6⟩,j7⟩,_⟩:=HT2.out
     clear hb2
     gi_wp2
     refine bodyPost_ret (results_none rfl _ _ _) rfl ?_
     refine⟨⟨_,rfl⟩,.inl ⟨S,by rw[← HKN.out];exact HJ.out.cell (s:=(k,S)) HJ2.out BT 2 _ rfl,?_⟩⟩
     show xbY _ _ _ _ _ _
     rw[← HKN.out,HEQ.out.1,HQ0.out]
     unfold xsv
     rw[if_pos hlt]
     exact xk2 HT2.out.2.2.1
   ·obtain rfl:k=0:=by
     rcases Nat.eq_zero_or_pos k with h|h
     ·exact h
     ·exact absurd (HQ.out h) hq
    have e0:xfh t.data.toList c l a q 0=q:=by unfold xfh;rw[if_pos hq]
    have hkN:0=N:=by
     rcases Nat.eq_zero_or_pos N with h|h
     ·exact h.symm
     ·exact absurd (HK.out.2.1 0 h) (by rw[e0];exact hq)
    have HKN:=lH hkN
    clear hkN
    have HE0:=lH e0
    have hst0:(stq t.data.toList c l a 0).2=a:=rfl
    rw[hst0] at g4 HT
    have HGet:=lH (xpq t a q wr HM.out.2.2.2 hq)
    have hne:(q == 0)=false:=by simpa using hq
    clear e0 hst0
    gi_wp2
    refine⟨trivial,xbX,(callsIn_wide.2 HGet.out).mono ?_⟩
    rintro x w1 ⟨rfl,hb⟩
    have HT1:=lH (HT.out.later hb)
    have HJ1:=lH (HJ.out.grow (s:=(0,S)) HJs.out hb)
    clear g1 g2 g3 g4 g5 g6 g7 hb
    obtain⟨g1,g2,⟨⟨g3,g4,g5,g6⟩,g7⟩,_⟩:=HT1.out
    have hb2:Below w1.heap.size w1 (w1.alloc (.cells #[.string t,.int .i64 (a:Int),.int .i64 q] 204)):=(Below.refl _ _).alloc (Nat.le_refl _) _
    have HT2:=lH (HT1.out.later hb2)
    have HJ2:=lH (HJ.out.grow (s:=(0,S)) HJ1.out hb2)
    obtain⟨j1,j2,⟨⟨j3,j4,j5,j6⟩,j7⟩,_⟩:=HT2.out
    clear hb2
    gi_wp2
    refine bodyPost_ret (results_none rfl _ _ _) rfl ?_
    refine⟨⟨_,rfl⟩,.inl ⟨S,by rw[← HKN.out];exact HJ.out.cell (s:=(0,S)) HJ2.out BT 2 _ rfl,?_⟩⟩
    show xbY _ _ _ _ _ _
    rw[← HKN.out,HE0.out]
    unfold xsv
    rw[if_pos hlt]
    exact xk2 HT2.out.2.2.1
  ·obtain rfl:k=n:=by have:=HK.out.1;omega
   have HKN:=lH (show k=N by have:=HK.out.1;omega)
   gi_wp2
   go_end0
   have z1:J N S wr:=by rw[← HKN.out];exact HJs.out
   have z2:xbY wr BT t ((stq t.data.toList c l a N).2:Int) (xsv N k (xfh t.data.toList c l a q N) q) (.slice al k cap):=by
    rw[← HKN.out]
    unfold xsv
    rw[if_neg (by omega)]
    exact HT.out.2.2.1
   refine⟨⟨_,rfl⟩,.inl ?_⟩
   first|exact⟨S,z1,z2⟩|exact⟨⟨S,z1⟩,z2⟩
end Go.Proofs.YtjinnigjfopbcaaGreatDoor
namespace Go.Proofs.YtjinnigjfopbcaaGreatDoor
set_option linter.unusedVariables false
set_option linter.unusedSimpArgs false
open Go.RowKit
set_option maxRecDepth 20000
theorem xae {w:World} {v:Value} {l:List En} (h:xaj w v l):∃ a cap,v=.slice a l.length cap:=by
 obtain⟨a,cap,e,_⟩:=h
 exact⟨a,cap,e⟩
theorem xiF (w:World) (e:En) (T:TypeId):xaj (w.alloc (.cells (eC e) T)) (.slice (some ⟨w.heap.size,0,none⟩) 1 1) [e]:=by
 refine⟨_,1,rfl,by simp,by unfold maxLen;omega,fun k t ht=>?_⟩
 cases k with
 | zero =>
  simp at ht
  subst ht
  obtain⟨h0,h1,h2,h3⟩:=EAt.made w e T
  exact⟨w.heap.size,0,rfl,by simp,by simpa using h0,by simpa using h1,by simpa using h2,by simpa using h3⟩
 | succ k=>simp at ht
end Go.Proofs.YtjinnigjfopbcaaGreatDoor
