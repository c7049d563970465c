/- bML bPs bNd bNe. -/
import Derived.Test.YtjinnigjfopbcaaGreatDoorJs
import Derived.Test.YtjinnigjfopbcaaGreatDoorJb6
set_option maxHeartbeats 16000000
namespace Go.Proofs.YtjinnigjfopbcaaGreatDoor
set_option linter.unusedVariables false
set_option linter.unusedSimpArgs false
open Go.RowKit Go.Shelf
set_option maxRecDepth 20000
theorem xoL:(Tryz.prog.info? 74).map (fun i=>(i.zero,i.size,i.bytes))=some (some (.agg #[.int .u64 0,.int .u64 0,.int .u32 0,.int .u32 0]),4,24):=by kernel_rfl
theorem xpO (n:Nat) (W:World) (h:n≤4096):(Instr.makeSlice 205 (.int .u64 (n:Int)) (.int .u64 (n:Int))).run Tryz.prog W=.ok (.slice (some ⟨W.heap.size,0,none⟩) n n) (W.alloc (.cells (madeCells (eC xcT) (n*4)) 74)):=by
 obtain⟨i0,hi,hz0,hz1,hz2⟩:=xao xoL
 have:=run_make (P:=Tryz.prog) W 205 74 i0 _ Tryz.underlying205 hi hz0 .u64 .u64 (n:Int) (n:Int) (by omega) (by omega) (by rw[hz2];omega) (by omega)
 rw[this,hz1]
 simp only[Int.toNat_natCast]
 rfl
theorem xse (w:World) (n:Nat) (h:n≤4096):xa1 (w.alloc (.cells (madeCells (eC xcT) (n*4)) 74)) w.heap.size 74 (.slice (some ⟨w.heap.size,0,none⟩) n n) (xax n):=by
 have:=World.ownsRow_lit (e:=74) (size:=4) w (madeCells (eC xcT) (n*4)) n (Nat.le_refl _) (by unfold maxLen;omega) (size_madeCells _ _)
 exact xbQ this (by simp[xax]) (xk9 n).symm
def bgD (t:List UInt8):Nat × Nat × Int:=if xbo t≠0 then (0,0,xbo t) else if 4096<xaW t then (0,0,21) else ((xaW t).toNat,xaG 10 t+1,0)
def xts (t:ByteArray) (D:Nat × Nat × Int) (w:World) (x:Ending) (w':World):Prop:=∃ al cap,x=.returned (.agg #[.string t,.int .i64 (D.2.1:Int),.int .i64 D.2.2,.slice al D.1 cap])∧xa1 w' w.heap.size 74 (.slice al D.1 cap) (xax D.1)∧Below w.heap.size w w'
set_option maxRecDepth 100000 in
theorem xkJ (t:ByteArray) (n p:Nat) (q:Int) (w:World) (hn:n≤4096) (hget:∀ W,Calls Tryz.prog 195 #[.agg #[.string t,.int .i64 0,.int .i64 0]] W (xeF t (n:Int) (p:Int) q W)):Calls Tryz.prog 116 #[.string t] w (xts t (n,p,q) w):=by
 have HG:=lH hget
 have hmk:=fun W=>xpO n W hn
 have hd:decide (4096<(n:Int))=false:=by simp;omega
 have hd2:decide (4096<n)=false:=by simp;omega
 clear hget
 go_enter Tryz.func116,Tryz.ntmps116
 go_wp2_with fail
 refine(HG.out _).mono ?_
 rintro y w1 ⟨rfl,hb⟩
 have hz:w.heap.size+2≤w1.heap.size:=by have:=hb.size;simp at this;omega
 have hbw:Below w.heap.size w w1:=Below.trans (by go_grown) (hb.mono (by simp;omega))
 have f0:∀ o,w1.frozen? ⟨w.heap.size,o,none⟩=false:=fun o=>((xaf hb).2 _ _ (by simp;omega)).trans (by simp[go_sem])
 have c0:w1.cell? ⟨w.heap.size,0,none⟩=some (.string { data:=#[] }):=((xaf hb).1 _ _ (by simp;omega)).trans (by simp[go_sem])
 have c1:w1.cell? ⟨w.heap.size,1,none⟩=some (.int .i64 0):=((xaf hb).1 _ _ (by simp;omega)).trans (by simp[go_sem])
 have c2:w1.cell? ⟨w.heap.size,2,none⟩=some (.int .i64 0):=((xaf hb).1 _ _ (by simp;omega)).trans (by simp[go_sem])
 have c3:w1.cell? ⟨w.heap.size,3,none⟩=some (.slice none 0 0):=((xaf hb).1 _ _ (by simp;omega)).trans (by simp[go_sem])
 clear hb
 have hW2:Below w1.heap.size w1 ((w1.alloc (.cells #[.string t,.int .i64 (p:Int),.int .i64 q] 204)).alloc (.cells (madeCells (eC xcT) (n*4)) 74)):=((Below.refl _ _).alloc (Nat.le_refl _) _).alloc (by simp) _
 have hlt:w.heap.size<w1.heap.size:=by omega
 have k0:=(hW2.cell (p:=⟨w.heap.size,0,none⟩) hlt).trans c0
 have k1:=(hW2.cell (p:=⟨w.heap.size,1,none⟩) hlt).trans c1
 have k2:=(hW2.cell (p:=⟨w.heap.size,2,none⟩) hlt).trans c2
 have k3:=(hW2.cell (p:=⟨w.heap.size,3,none⟩) hlt).trans c3
 have kf:∀ o,((w1.alloc (.cells #[.string t,.int .i64 (p:Int),.int .i64 q] 204)).alloc (.cells (madeCells (eC xcT) (n*4)) 74)).frozen? ⟨w.heap.size,o,none⟩=false:=fun o=>(xbX hW2 hlt).trans (f0 o)
 have hO:=xse (w1.alloc (.cells #[.string t,.int .i64 (p:Int),.int .i64 q] 204)) n hn
 rw[World.size_alloc] at hO
 have HH:=lH (And.intro (hbw.trans (hW2.mono hbw.size)) (And.intro hO (And.intro hz hlt)))
 clear hbw hW2 hO c0 c1 c2 c3 f0 hz hlt
 go_wp2_with fail
 go_region
 all_goals
  go_wp2
  refine bodyPost_ret (v:=.agg #[.string t,.int .i64 (p:Int),.int .i64 q,.slice (some ⟨w1.heap.size+1,0,none⟩) n n]) (by simp[results,Tryz.results116,go_sem,k0,k1,k2,k3]) rfl ⟨_,_,rfl,?_,?_⟩
  ·obtain⟨h1,h2,h3,h4⟩:=HH.out
   have hB:(w1.heap.size+1) ≥ w.heap.size+1:=by omega
   refine xa1.mono (B:=w.heap.size+1) ?_ (by omega)
   exact xa1.setCell (xa1.setCell (xa1.setCell (xa1.setCell (xa1.mono h2 hB) _ _ (Nat.lt_succ_self _)) _ _ (Nat.lt_succ_self _)) _ _ (Nat.lt_succ_self _)) _ _ (Nat.lt_succ_self _)
  ·obtain⟨h1,h2,h3,h4⟩:=HH.out
   exact(((h1.drew.setCell (p:=⟨w.heap.size,0,none⟩) (Nat.le_refl _) _).setCell (p:=⟨w.heap.size,1,none⟩) (Nat.le_refl _) _).setCell (p:=⟨w.heap.size,2,none⟩) (Nat.le_refl _) _).setCell (p:=⟨w.heap.size,3,none⟩) (Nat.le_refl _) _
set_option maxRecDepth 100000 in
theorem xqN (t:ByteArray) (n:Int) (p:Nat) (w:World) (hn:4096<n) (hget:∀ W,Calls Tryz.prog 195 #[.agg #[.string t,.int .i64 0,.int .i64 0]] W (xeF t n (p:Int) 0 W)):Calls Tryz.prog 116 #[.string t] w (xts t (0,0,21) w):=by
 have HG:=lH hget
 have hd:decide (4096<n)=true:=by simp;omega
 clear hget hn
 go_enter Tryz.func116,Tryz.ntmps116
 go_wp2_with fail
 refine(HG.out _).mono ?_
 rintro y w1 ⟨rfl,hb⟩
 have hz:w.heap.size+2≤w1.heap.size:=by have:=hb.size;simp at this;omega
 have hbw:Below w.heap.size w w1:=Below.trans (by go_grown) (hb.mono (by simp;omega))
 have f0:∀ o,w1.frozen? ⟨w.heap.size,o,none⟩=false:=fun o=>((xaf hb).2 _ _ (by simp;omega)).trans (by simp[go_sem])
 have f1:∀ o,w1.frozen? ⟨w.heap.size+1,o,none⟩=false:=fun o=>((xaf hb).2 _ _ (by simp)).trans (by simp[go_sem])
 have c0:w1.cell? ⟨w.heap.size,0,none⟩=some (.string { data:=#[] }):=((xaf hb).1 _ _ (by simp;omega)).trans (by simp[go_sem])
 have c1:w1.cell? ⟨w.heap.size,1,none⟩=some (.int .i64 0):=((xaf hb).1 _ _ (by simp;omega)).trans (by simp[go_sem])
 have c2:w1.cell? ⟨w.heap.size,2,none⟩=some (.int .i64 0):=((xaf hb).1 _ _ (by simp;omega)).trans (by simp[go_sem])
 have c3:w1.cell? ⟨w.heap.size,3,none⟩=some (.slice none 0 0):=((xaf hb).1 _ _ (by simp;omega)).trans (by simp[go_sem])
 have e0:w1.cell? ⟨w.heap.size+1,0,none⟩=some (.string t):=((xaf hb).1 _ _ (by simp)).trans (by simp[go_sem])
 have e1:w1.cell? ⟨w.heap.size+1,1,none⟩=some (.int .i64 0):=((xaf hb).1 _ _ (by simp)).trans (by simp[go_sem])
 have e2:w1.cell? ⟨w.heap.size+1,2,none⟩=some (.int .i64 0):=((xaf hb).1 _ _ (by simp)).trans (by simp[go_sem])
 clear hb
 have hW2:Below w1.heap.size w1 (w1.alloc (.cells #[.string t,.int .i64 (p:Int),.int .i64 0] 204)):=(Below.refl _ _).alloc (Nat.le_refl _) _
 have hlt:w.heap.size<w1.heap.size:=by omega
 have hlt1:w.heap.size+1<w1.heap.size:=by omega
 have k0:=(hW2.cell (p:=⟨w.heap.size,0,none⟩) hlt).trans c0
 have k1:=(hW2.cell (p:=⟨w.heap.size,1,none⟩) hlt).trans c1
 have k2:=(hW2.cell (p:=⟨w.heap.size,2,none⟩) hlt).trans c2
 have k3:=(hW2.cell (p:=⟨w.heap.size,3,none⟩) hlt).trans c3
 have kf:∀ o,(w1.alloc (.cells #[.string t,.int .i64 (p:Int),.int .i64 0] 204)).frozen? ⟨w.heap.size,o,none⟩=false:=fun o=>(xbX hW2 hlt).trans (f0 o)
 have k4:=(hW2.cell (p:=⟨w.heap.size+1,0,none⟩) hlt1).trans e0
 have k5:=(hW2.cell (p:=⟨w.heap.size+1,1,none⟩) hlt1).trans e1
 have k6:=(hW2.cell (p:=⟨w.heap.size+1,2,none⟩) hlt1).trans e2
 have kg:∀ o,(w1.alloc (.cells #[.string t,.int .i64 (p:Int),.int .i64 0] 204)).frozen? ⟨w.heap.size+1,o,none⟩=false:=fun o=>(xbX hW2 hlt1).trans (f1 o)
 have HH:=lH (hbw.trans (hW2.mono hbw.size))
 clear hbw hW2 c0 c1 c2 c3 f0 f1 e0 e1 e2 hz hlt hlt1
 go_wp2_with fail
 refine bodyPost_ret (v:=.agg #[.string t,.int .i64 0,.int .i64 21,.slice none 0 0]) (by simp[results,Tryz.results116,go_sem,k0,k1,k2,k3]) rfl ⟨none,0,rfl,xbG _ _ _,?_⟩
 exact((((HH.out.setCell (p:=⟨w.heap.size+1,2,none⟩) (Nat.le_succ _) _).setCell (p:=⟨w.heap.size,0,none⟩) (Nat.le_refl _) _).setCell (p:=⟨w.heap.size,1,none⟩) (Nat.le_refl _) _).setCell (p:=⟨w.heap.size,2,none⟩) (Nat.le_refl _) _).setCell (p:=⟨w.heap.size,3,none⟩) (Nat.le_refl _) _
theorem xlC (t:ByteArray) (w:World) (hsz:t.size≤65536):Calls Tryz.prog 116 #[.string t] w (xts t (bgD t.data.toList) w):=by
 have hmx:t.size≤maxLen:=by unfold maxLen;omega
 by_cases he:xbo t.data.toList=0
 ·have hg:=fun W=>xhP t 0 W hmx (Nat.zero_le _) (by rw[List.drop_zero];exact he)
  rw[List.drop_zero,Nat.zero_add] at hg
  have hb:=xdl _ he
  by_cases h4:4096<xaW t.data.toList
  ·have:bgD t.data.toList=(0,0,21):=by unfold bgD;rw[if_neg (fun h=>h he),if_pos h4]
   rw[this]
   exact xqN t _ _ w h4 hg
  ·have:bgD t.data.toList=((xaW t.data.toList).toNat,xaG 10 t.data.toList+1,0):=by unfold bgD;rw[if_neg (fun h=>h he),if_neg h4]
   rw[this]
   refine xkJ t _ _ _ w (by omega) ?_
   rw[Int.toNat_of_nonneg hb.1]
   exact hg
 ·have:bgD t.data.toList=(0,0,xbo t.data.toList):=by unfold bgD;rw[if_pos he]
  rw[this]
  exact xkJ t 0 0 _ w (by omega) (fun W=>xjY t 0 _ W hmx (Nat.zero_le _) (by rw[List.drop_zero]) he)
def xmo (c:Nat):Nat:=if c=0 then 0 else if c=1 then 3 else if c=2 then 2 else 1
def xtk (c:Nat) (y:Int):Value:=if c=1∨c=2 then .int .u32 y else .int .u64 y
theorem xsh {W:World} {B n cap g c k:Nat} {E:TypeId} {l:List En} {x:Int} (ho:xa1 W B E (.slice (some ⟨g,0,none⟩) n cap) l) (hl:l.length=n) (hk:k<n) (hc:c<4) (hw:xcv l c k x=0) (hx:0≤x∧x≤18446744073709551615) :
  xa1 (W.setCell ⟨g,k*4+xmo c,none⟩ (xtk c (xdk l c k x))) B E (.slice (some ⟨g,0,none⟩) n cap) (xeI l c k x):=by
 have he:l[k]?=some (gE l k):=by
  unfold gE
  rw[List.getD_eq_getElem?_getD,List.getElem?_eq_getElem (by omega)]
  rfl
 subst hl
 have q:=fun j u=>(World.ownsRow.stored ho j u).1
 rcases(by omega:c=0∨c=1∨c=2∨c=3) with rfl|rfl|rfl|rfl
 ·have h:=q (k*4) (.int .u64 (xdk l 0 k x))
  rw[xf4 l k _ _ he] at h
  have e:xdk l 0 k x=(xi9 l 0 k x).id:=by unfold xdk;rw[if_pos rfl]
  rw[e] at h
  refine xbQ (l:=xeI l 0 k x) (by rw[← e] at h;exact h) (by rw[xcp]) ?_
  unfold xeI
  rw[xuT]
  congr 2
 ·have hx2:x≤4294967295:=by
   rcases Int.lt_or_le 4294967295 x with h|h
   ·unfold xcv at hw;simp[h] at hw
   ·exact h
  have h:=q (k*4+3) (.int .u32 (xdk l 1 k x))
  rw[xgk l k _ _ he] at h
  have e:xdk l 1 k x=x:=by unfold xdk;simp
  refine xbQ (l:=xeI l 1 k x) h (by rw[xcp]) ?_
  unfold xeI
  rw[xv9,e,Int.emod_eq_of_lt hx.1 (by omega)]
 ·have hx2:x≤4294967295:=by
   rcases Int.lt_or_le 4294967295 x with h|h
   ·unfold xcv at hw;simp[h] at hw
   ·exact h
  have h:=q (k*4+2) (.int .u32 (xdk l 2 k x))
  rw[xgf l k _ _ he] at h
  have e:xdk l 2 k x=x:=by unfold xdk;simp
  refine xbQ (l:=xeI l 2 k x) h (by rw[xcp]) ?_
  unfold xeI
  rw[xwf,e,Int.emod_eq_of_lt hx.1 (by omega)]
 ·have h:=q (k*4+1) (.int .u64 (xdk l 3 k x))
  rw[xgo l k _ _ he] at h
  have e:xdk l 3 k x=(xi9 l 3 k x).off:=by unfold xdk;rw[if_neg (by decide),if_pos rfl]
  rw[e] at h
  refine xbQ (l:=xeI l 3 k x) (by rw[← e] at h;exact h) (by rw[xcp]) ?_
  unfold xeI
  rw[xv7]
  rfl
theorem xmS {X Y:World} {B0 B BT:Nat} {E:TypeId} {v:Value} {l:List En} {row:Option Nat} (h:xa1 X B0 E v l) (hne:v.ownBlock≠some BT) (hg:X.grownBy Y row) (hr:∀ r,row=some r→r=BT∨(B≤r∧∃ o:Obj,X.heap[r]?=some o∧xd3 o=true)):xa1 Y B0 E v l:=by
 refine World.ownsRow.kept h hg ?_
 rcases h.2 with ⟨rfl,_⟩|⟨g,cap,cur,rfl,_,hgb,_⟩
 ·exact .inl rfl
 ·refine .inr fun e'=>?_
  rcases hr g e'.symm with rfl|⟨_,o,ho,hc⟩
  ·exact hne rfl
  ·rw[hgb] at ho;cases ho;cases hc
def DSt (w:World) (BT:Nat) (t:ByteArray) (n:Nat) (al:Option Addr) (cap:Nat) (Ds:List Nat) (l:List En) (a:Nat) (q:Int) (W:World):Prop :=
 xbC W BT t (a:Int) q (.slice al n cap)∧xa1 W w.heap.size 74 (.slice al n cap) l∧Below w.heap.size w W∧xo5 Ds W∧Ds.Nodup∧(∀ D,D ∈ Ds→w.heap.size≤D)∧l.length=n∧xay l∧a≤t.size
def xwZ (w:World) (BT:Nat) (t:ByteArray) (n:Nat) (al:Option Addr) (cap:Nat):Prop:=w.heap.size≤BT∧(Value.slice al n cap).ownBlock≠some BT∧n≤4096∧t.size≤65536
theorem DSt.later {w W W':World} {BT n cap a:Nat} {t:ByteArray} {al:Option Addr} {Ds:List Nat} {l:List En} {q:Int} (h:DSt w BT t n al cap Ds l a q W) (hb:Below W.heap.size W W'):DSt w BT t n al cap Ds l a q W':=by
 obtain⟨h1,h2,h3,h4,h5⟩:=h
 exact⟨h1.later hb,xa1.below h2 hb,h3.trans (hb.mono h3.size),fun D hD=>(hb.block D (xaD (h4 D hD))).trans (h4 D hD),h5⟩
set_option maxRecDepth 100000 in
theorem xdU {nn:Nat} {g:Operand} {p q r s:Nat} {assign body:Code} {Q:Exit→Act→World→Prop} {a0:Act} (c:Nat) (hc:c<4) {w w1 W:World} {BT n cap a:Nat} {t:ByteArray} {al:Option Addr} {Ds:List Nat} {l:List En} {bad:Int}
  (hfix:xwZ w BT t n al cap) (hst:DSt w BT t n al cap Ds l a bad w1) (hW:W=(w1.alloc (.cells #[.pointer (some ⟨BT,0,none⟩)] 315)).alloc (.cells #[.func (.func (wfN c)) (wbN c (.slice al n cap)) #[]] 212))
  (hg:a0.eval g=.func (.func 196) #[] #[.pointer (some ⟨w1.heap.size,0,none⟩),.pointer (some ⟨w1.heap.size+1,0,none⟩)])
  (hassign:∀ (lq:Nat) (x y:Value) (W':World) (K:Act→World→Prop),K { tmps:=(((a0.tmps.setIfInBounds p x).setIfInBounds q y).setIfInBounds r x).setIfInBounds s y,defers:=[] } W' →
   assign.wpIn (Fence.wide.inRound lq) (nn - 1 - 1) Tryz.prog (Exit.then K (fun _ _ _=>False)) { tmps:=(a0.tmps.setIfInBounds p x).setIfInBounds q y,defers:=[] } W')
  (hbody:∀ (lq k gb:Nat) (y:Int) (old:Value) (W':World) (R:World→Prop),k<n→al=some ⟨gb,0,none⟩→W'.cell? ⟨BT,3,none⟩=some (.slice al n cap)→W'.cell? ⟨gb,k*4+xmo c,none⟩=some old→(∀ o,W'.frozen? ⟨gb,o,none⟩=false) →
   0≤y→(c=1∨c=2→y≤4294967295)→R (W'.setCell ⟨gb,k*4+xmo c,none⟩ (xtk c y)) →
   body.wpIn (Fence.wide.inRound lq) (nn - 1 - 1) Tryz.prog (Exit.then (fun _ W''=>R W'') (fun _ _ _=>False)) { tmps:=(((a0.tmps.setIfInBounds p (.int .i64 (k:Int))).setIfInBounds q (.int .u64 y)).setIfInBounds r (.int .i64 (k:Int))).setIfInBounds s (.int .u64 y),defers:=[] } W')
  (hdone:∀ (D:Nat) (l':List En) (a':Nat) (bad':Int) (W':World),xk8 t.data.toList c n l a bad l' a' bad'→DSt w BT t n al cap (D :: Ds) l' a' bad' W'→Q .normal (xjE D a0) W') :
  (Code.rangeFunc g #[p,q] assign body).wpIn Fence.wide nn Tryz.prog Q a0 W:=by
 obtain⟨hB,hne,hn,hsz⟩:=hfix
 have hb1:Below w1.heap.size w1 W:=by rw[hW];exact((Below.refl _ _).alloc (Nat.le_refl _) _).alloc (by simp) _
 have hs1:W.heap.size=w1.heap.size+2:=by rw[hW];simp
 have q1:W.cell? ⟨w1.heap.size,0,none⟩=some (.pointer (some ⟨BT,0,none⟩)):=by rw[hW];simp
 have q2:W.cell? ⟨w1.heap.size+1,0,none⟩=some (.func (.func (wfN c)) (wbN c (.slice al n cap)) #[]):=by rw[hW];simp
 have hstW:=hst.later hb1
 have hlt1:=hst.1.lt
 obtain⟨s1,s2,s3,s4,s5,s6,s7,s8,s9⟩:=hstW
 obtain⟨N,hN,hk,hke⟩:∃ N,N≤n∧(∀ k,k<N→xeK t.data.toList c l a bad k=0)∧(N<n→xeK t.data.toList c l a bad N≠0):=by
  by_cases hq:bad=0
  ·obtain⟨N,h1,h2,h3⟩:=xud t.data.toList c l a n
   refine⟨N,h1,fun k hk=>?_,fun h=>?_⟩
   ·unfold xeK;rw[if_neg (fun h=>h hq)];exact h2 k hk
   ·unfold xeK;rw[if_neg (fun h=>h hq)];exact h3 h
  ·exact⟨0,Nat.zero_le _,fun k h=>by omega,fun _=>by unfold xeK;rw[if_pos hq];exact hq⟩
 have hst2:=fun k (hkN:k≤N) (hk0:0<N)=>xhz (t:=t.data.toList) (a:=a) hc s7 ((xec s7).1 s8) (by simpa using s9) k (by omega) (fun j hj=>by
  have h0:=hk 0 hk0
  have hj':=hk j (by omega)
  by_cases hq:bad=0
  ·unfold xeK at hj';rw[if_neg (fun h=>h hq)] at hj';exact hj'
  ·unfold xeK at h0;rw[if_pos hq] at h0;exact absurd h0 hq)
 have hrow:∀ b,(Value.slice al n cap).ownBlock=some b→b<W.heap.size∧w.heap.size≤b:=fun b hb=>⟨(xa1.lt s2 b hb).2,(xa1.lt s2 b hb).1⟩
 have hrow1:∀ b,(Value.slice al n cap).ownBlock=some b→b<w1.heap.size:=fun b hb=>(xa1.lt hst.2.1 b hb).2
 refine xkh (n:=nn) (val:=fun k=>.int .i64 (k:Int)) (va2:=fun k=>.int .u64 (xdk (stq t.data.toList c l a k).1 c k (xq t.data.toList c l a k))) (r:=r) (s:=s) hg (enters_of Tryz.func196 (by kernel_rfl) rfl)
  (xly (wfN c) c n (wbN c (.slice al n cap)) al cap t l a bad w1.heap.size (w1.heap.size+1) BT N W (xkO c) (fun X L k x h1 h2 h3 h4 h5=>xus c hc _ L h3 X k x h1 (by omega) h5) hc s7 s8 hn hsz s9 hN hk hke q1 q2 s1 (by omega) (by omega))
  (Below.refl _ _) ?hT ?hV (fun k S W'=>(xa1 W' w.heap.size 74 (.slice al n cap) (stq t.data.toList c l a k).1∧Below w.heap.size w W'∧xo5 Ds W')∧∀ b,S b↔(Value.slice al n cap).ownBlock=some b) (fun _ _ _=>False) ?hI (fun _ _ _ _ _ h _ _=>h) ?hG
  (fun b=>(Value.slice al n cap).ownBlock=some b) ?hS0 ?h0 ?hZ ?hY ?assign ?body ?done (fun _ _ _ _ _ _ h _=>h.elim)
 case hT=>rintro b rfl;omega
 case hV=>rintro b (rfl|rfl|rfl) <;> omega
 case hI =>
  rintro⟨k,S⟩ X Y row ⟨⟨h1,h2,h3⟩,h4⟩ hgr hr
  refine⟨⟨xmS h1 hne hgr hr,xbm (β:=Unit) (T:=fun b=>b=BT) (Nat.le_refl _) (B:=W.heap.size) (by have:=s3.size;omega) (fun b hb=>by rw[hb];exact hB) () X Y row h2 hgr hr,fun D hD=>?_⟩,h4⟩
  refine(hgr.block D (xaD (h3 D hD)) (fun e=>?_)).trans (h3 D hD)
  rcases hr D e.symm with h|h
  ·obtain⟨⟨c0,_⟩,_⟩:=s1
   have hDW:=s4 D hD
   rw[h] at hDW
   simp[World.cell?,hDW] at c0
  ·have:=xaD (s4 D hD);omega
 case hG =>
  rintro k S W' ⟨⟨h1,h2,h3⟩,h4⟩
  exact⟨h1.ensAt,fun b hb=>(xa1.lt h1 b ((h4 b).1 hb)).2⟩
 case hS0 =>
  intro b hb
  refine⟨(hrow b hb).1,?_⟩
  rintro(h|h|h)
  ·have:=hrow1 b hb;omega
  ·have:=hrow1 b hb;omega
  ·rw[h] at hb;exact hne hb
 case h0=>exact⟨⟨s2,s3,s4⟩,fun b=>Iff.rfl⟩
 case hZ =>
  intro W' lq o o' hz hl ho hco
  refine xbC.heap hz (World.putObj_heap_other (fun e=>?_))
  rw[← e] at hl
  omega
 case hY =>
  intro k W' lq o o' hz hl ho hco
  refine xbC.heap hz (World.putObj_heap_other (fun e=>?_))
  rw[← e] at hl
  omega
 case assign=>exact fun lq k W' K hK=>hassign lq _ _ W' K hK
 case body =>
  rintro lq k S W' hlq ⟨⟨h1,h2,h3⟩,h4⟩ hy hkN
  obtain⟨p1,p2,p3⟩:=hst2 k (by omega) (by omega)
  have hek:=hk k hkN
  have hq0:bad=0:=by
   by_cases hq:bad=0
   ·exact hq
   ·unfold xeK at hek;rw[if_pos hq] at hek;exact absurd hek hq
  unfold xeK at hek
  rw[if_neg (fun h=>h hq0)] at hek
  obtain⟨e1,e2⟩:=xjG hek
  have hxb:=xdl _ e1
  change 0≤xq t.data.toList c l a k∧xq t.data.toList c l a k≤18446744073709551615 at hxb
  have hnx:(stq t.data.toList c l a (k+1)).1=xeI (stq t.data.toList c l a k).1 c k (xq t.data.toList c l a k):=by rw[xgF]
  generalize xq t.data.toList c l a k=x at *
  generalize (stq t.data.toList c l a k).1=L at *
  obtain⟨gb,cap',hv,hg1,hg2,hle,hcm,hcl,hfr⟩:∃ gb cap',Value.slice al n cap=.slice (some ⟨gb,0,none⟩) L.length cap'∧w.heap.size≤gb∧gb<W'.heap.size∧L.length≤cap'∧cap'≤maxLen∧(∀ j,j<L.length*4→W'.cell? ⟨gb,j,none⟩=(xaB L)[j]?)∧∀ j,W'.frozen? ⟨gb,j,none⟩=false:=by
   rcases h1.form with ⟨_,rfl⟩|h
   ·simp at p1;omega
   ·exact h
  obtain⟨rfl,_,rfl⟩:al=some ⟨gb,0,none⟩∧n=L.length∧cap=cap':=by simpa using hv
  have hfl:xmo c<4:=by unfold xmo;split;omega;split;omega;split <;> omega
  have hcell:∃ old,W'.cell? ⟨gb,k*4+xmo c,none⟩=some old:=by
   rw[hcl _ (by omega)]
   exact⟨_,List.getElem?_eq_getElem (by rw[xbv];omega)⟩
  obtain⟨old,hold⟩:=hcell
  have hw0:0≤xdk L c k x∧(c=1∨c=2→xdk L c k x≤4294967295):=by
   have hp:=xiI (x:=x) (i:=c*n+k) p1 (xu2 hc (by omega)) p2 hxb
   obtain⟨d1,d2⟩:=xj2 (c:=c) (n:=n) (k:=k) (by omega)
   rw[d1,d2] at hp
   have hpk:=hp k (by omega)
   rw[xhg _ _ _ _ _ (by omega),if_pos rfl] at hpk
   unfold xaO at hpk
   unfold xdk
   rcases(by omega:c=0∨c=1∨c=2∨c=3) with rfl|rfl|rfl|rfl
   ·rw[if_pos rfl];exact⟨hpk.1.1,fun h=>by omega⟩
   ·rw[if_neg (by decide),if_neg (by decide)]
    refine⟨hxb.1,fun _=>?_⟩
    rcases Int.lt_or_le 4294967295 x with h|h
    ·unfold xcv at e2;simp[h] at e2
    ·exact h
   ·rw[if_neg (by decide),if_neg (by decide)]
    refine⟨hxb.1,fun _=>?_⟩
    rcases Int.lt_or_le 4294967295 x with h|h
    ·unfold xcv at e2;simp[h] at e2
    ·exact h
   ·rw[if_neg (by decide),if_pos rfl];exact⟨hpk.2.1.1,fun h=>by omega⟩
  have hput:=xsh h1 p1 (by omega) hc e2 hxb
  refine wpIn_mono (hbody lq k gb _ old W' (fun W''=>W''=W'.setCell ⟨gb,k*4+xmo c,none⟩ (xtk c (xdk L c k x))) (by omega) rfl hy.2 hold hfr hw0.1 hw0.2 rfl) ?_
  rintro e a' W'' hp
  cases e with
  | normal =>
   subst hp
   refine⟨S,⟨⟨by rw[hnx];exact hput,h2.setCell (p:=⟨gb,k*4+xmo c,none⟩) hg1 _,fun D hD=>?_⟩,h4⟩,KeepsS.setCell S W' _ _ ((h4 gb).2 rfl)⟩
   have hDW:=h3 D hD
   refine(Below.heap_setCell W' _ _ D (fun e=>?_)).trans hDW
   dsimp only at e
   rw[e] at hDW
   simp[World.cell?,hDW] at hold
  | _=>exact hp.elim
 case done =>
  rintro D S W' hD hSD ⟨⟨h1,h2,h3⟩,h4⟩ hz hDW
  have hN0:bad≠0→N=0:=fun hq=>by
   rcases Nat.eq_zero_or_pos N with h|h
   ·exact h
   ·have h0:=hk 0 h
    unfold xeK at h0;rw[if_pos hq] at h0;exact absurd h0 hq
  have hend:(stq t.data.toList c l a N).1.length=n∧(∀ j,j<n→xaO (gE (stq t.data.toList c l a N).1 j))∧(stq t.data.toList c l a N).2≤t.data.toList.length:=by
   rcases Nat.eq_zero_or_pos N with h|h
   ·rw[h];exact⟨s7,(xec s7).1 s8,by simpa[stq] using s9⟩
   ·exact hst2 N (Nat.le_refl _) h
  refine hdone D (stq t.data.toList c l a N).1 (stq t.data.toList c l a N).2 (xrr N n (xeK t.data.toList c l a bad N) bad) W' ?_ ⟨hz,h1,h2,?_,?_,?_,hend.1,(xec hend.1).2 hend.2.1,by simpa using hend.2.2⟩
  ·by_cases hq:bad=0
   ·refine .inr ⟨hq,N,hN,fun k hk'=>?_,fun h=>?_,rfl,rfl,?_⟩
    ·have:=hk k hk';unfold xeK at this;rw[if_neg (fun h=>h hq)] at this;exact this
    ·have:=hke h;unfold xeK at this;rw[if_neg (fun h=>h hq)] at this;exact this
    ·have he:xeK t.data.toList c l a bad N=xhA t.data.toList c l a N:=by unfold xeK;rw[if_neg (fun h=>h hq)]
     unfold xrr;rw[he,hq]
   ·refine .inl ⟨hq,by rw[hN0 hq];rfl,by rw[hN0 hq];rfl,?_⟩
    unfold xrr xeK
    rw[if_pos hq]
    split <;> rfl
  ·intro E hE
   rcases List.mem_cons.1 hE with rfl|hE
   ·exact hDW
   ·exact h3 E hE
  ·refine List.nodup_cons.2 ⟨fun hE=>?_,s5⟩
   have:=xaD (s4 D hE);omega
  ·intro E hE
   rcases List.mem_cons.1 hE with rfl|hE
   ·have:=s3.size;omega
   ·exact s6 E hE
theorem xt1 (t:List UInt8) (h:t.length≤65536):xbR t=xsD (xpt t (bgD t).1 (4*(bgD t).1) 0 (xax (bgD t).1) (bgD t).2.1 (bgD t).2.2) t.length:=by
 by_cases he:xbo t=0
 ·by_cases h4:4096<xaW t
  ·have hb:bgD t=(0,0,21):=by unfold bgD;rw[if_neg (fun h=>h he),if_pos h4]
   have hd:xbR t=([],0,21):=by unfold xbR;rw[if_neg (by omega),if_neg (fun h=>h he),if_pos h4]
   rw[hb,hd]
   simp[xpt,xsD]
  ·have hb:bgD t=((xaW t).toNat,xaG 10 t+1,0):=by unfold bgD;rw[if_neg (fun h=>h he),if_neg h4]
   rw[hb]
   unfold xbR
   rw[if_neg (by omega),if_neg (fun h=>h he),if_neg h4]
   have e:xpt t (xaW t).toNat (4*(xaW t).toNat) 0 (xax (xaW t).toNat) (xaG 10 t+1) 0=goD t (xaW t).toNat (4*(xaW t).toNat) 0 (xax (xaW t).toNat) (xaG 10 t+1):=by unfold xpt;rw[if_neg (fun h=>h rfl),Nat.zero_mul]
   rw[e]
   rfl
 ·have hb:bgD t=(0,0,xbo t):=by unfold bgD;rw[if_pos he]
  have hd:xbR t=([],0,xbo t):=by unfold xbR;rw[if_neg (by omega),if_pos he]
  rw[hb,hd]
  simp[xpt,xsD,he]
def xuU (t:ByteArray) (l:List En) (a:Nat) (q:Int):List En × Nat × Int:=xsD (if q≠0 then ([],a,q) else (l,a,0)) t.size
theorem xsy {t:ByteArray} (hsz:t.size≤65536) {n:Nat} {l1 l2 l3 l4:List En} {a1 a2 a3 a4:Nat} {q1 q2 q3 q4:Int} {B:Nat × Nat × Int} (hB:bgD t.data.toList=B)
  (h1:xk8 t.data.toList 0 B.1 (xax B.1) B.2.1 B.2.2 l1 a1 q1) (h2:xk8 t.data.toList 1 B.1 l1 a1 q1 l2 a2 q2) (h3:xk8 t.data.toList 2 B.1 l2 a2 q2 l3 a3 q3) (h4:xk8 t.data.toList 3 B.1 l3 a3 q3 l4 a4 q4):xbR t.data.toList=xuU t l4 a4 q4:=by
 have hl:t.data.toList.length=t.size:=by simp
 rw[xt1 _ (by omega),hB,show 4*B.1=B.1+(B.1+(B.1+(B.1+0))) from by omega,xd0 h1,xd0 h2,xd0 h3,xd0 h4,hl]
 unfold xuU xpt
 by_cases hq:q4=0
 ·rw[if_neg (fun h=>h hq),if_neg (fun h=>h hq)];rfl
 ·rw[if_pos hq,if_pos hq]
theorem xp0 (w1:World) (t:ByteArray) (a q:Int) (v:Value) (T:TypeId):xbC (w1.alloc (.cells #[.string t,.int .i64 a,.int .i64 q,v] T)) w1.heap.size t a q v:=by
 refine⟨⟨?_,?_,?_,fun o=>?_⟩,?_⟩
 ·rw[World.cell?_alloc_mark];rfl
 ·rw[World.cell?_alloc_mark];rfl
 ·rw[World.cell?_alloc_mark];rfl
 ·simp only[World.frozen?]
  rw[heap_alloc_new]
  simp
 ·rw[World.cell?_alloc_mark];rfl
theorem xlM (n:Nat):xay (xax n):=(xec (by simp[xax])).2 (xh3 n)
theorem xpu (t:ByteArray) (a:Nat) (q:Int) (h:q≠0):xr8 t (a:Int) q=q:=by
 unfold xr8 xaH
 rw[if_neg h]
theorem xnW (t:ByteArray) (a:Nat) (h:a<t.size):xr8 t (a:Int) 0=4:=by
 have h1:xaK t (a:Int)=0:=by unfold xaK;rw[if_pos (by omega)]
 have h2:xdi t (a:Int)=4:=by unfold xdi;rw[if_pos (by omega)]
 simp[xr8,xaH,h1,h2]
theorem xuh (t:ByteArray) (a:Nat) (h:a=t.size):xr8 t (a:Int) 0=0:=by
 have h1:xaK t (a:Int)=0:=by unfold xaK;rw[if_pos (by omega)]
 have h2:xdi t (a:Int)=0:=by unfold xdi;rw[if_neg (by omega)]
 simp[xr8,xaH,h1,h2]
theorem xc5 {nn:Nat} {tmps:Array Value} {Ds:List Nat} {w W:World} {v':Value} {DD:List En × Nat × Int} (hm:xo5 Ds W) (hn:Ds.Nodup) (hge:∀ D,D ∈ Ds→w.heap.size≤D) (ho:xa1 W w.heap.size 74 v' DD.1) (hb:Below w.heap.size w W)
  (h2:tmps.getD 2 undef=v') (h3:tmps.getD 3 undef=.int .i64 (DD.2.1:Int)) (h4:tmps.getD 4 undef=.int .i64 DD.2.2):LeavesInM Fence.wide nn Tryz.prog Tryz.f53 tmps (xhx DD 74 w) (xwy Ds) .returning W:=by
 refine xbu (fun W=>xa1 W w.heap.size 74 v' DD.1∧Below w.heap.size w W) Ds W hm hn ⟨ho,hb⟩ (fun X D hD hXD hp=>⟨ownsRow_putObj hp.1 _ hXD rfl,?_⟩) ?_
 ·exact(xbm (β:=Unit) (T:=fun _=>False) (Nat.le_refl _) (B:=w.heap.size) (Nat.le_refl _) (fun _ h=>h.elim)).put (s:=()) hp.2 _ (hge D hD) hXD rfl
 ·rintro W' ⟨h5,h6⟩
  refine⟨_,results_tmp3 rfl _ _ _,v',?_,h5,h6⟩
  rw[h2,h3,h4]
theorem xe1 {Ds:List Nat} {W W':World} (h:xo5 Ds W) (hb:Below W.heap.size W W'):xo5 Ds W':=fun D hD=>(hb.block D (xaD (h D hD))).trans (h D hD)
attribute [local go_sem] Oper.semAt_some
set_option maxRecDepth 100000 in
theorem xtN (t:ByteArray) (w:World) (hsz:t.size≤65536):Calls Tryz.prog 53 #[.string t] w (xhx (xbR t.data.toList) 74 w):=by
 have hd:decide (65536<(t.size:Int))=false:=by simp;omega
 have hd2:decide (65536<t.size)=false:=by simp;omega
 have HBG:=lH (xlC t w hsz)
 have HFN:=lH (fun l1 l2 l3 l4 a1 a2 a3 a4 q1 q2 q3 q4 h1 h2 h3 h4=>xsy (t:=t) (n:=0) hsz (l1:=l1) (l2:=l2) (l3:=l3) (l4:=l4) (a1:=a1) (a2:=a2) (a3:=a3) (a4:=a4) (q1:=q1) (q2:=q2) (q3:=q3) (q4:=q4) rfl h1 h2 h3 h4)
 have hb3:(bgD t.data.toList).1≤4096∧(bgD t.data.toList).2.1≤t.size:=by
  unfold bgD
  by_cases he:xbo t.data.toList=0
  ·rw[if_neg (fun h=>h he)]
   split
   ·exact⟨Nat.zero_le _,Nat.zero_le _⟩
   ·refine⟨by have:=xdl _ he;simp only;omega,?_⟩
    have:=xu8 t 0 (Nat.zero_le _) (by rw[List.drop_zero];exact he)
    rw[List.drop_zero] at this
    simp only
    omega
  ·rw[if_pos he];exact⟨Nat.zero_le _,Nat.zero_le _⟩
 generalize xbR t.data.toList=DD at *
 obtain⟨BB,hBB⟩:∃ BB,bgD t.data.toList=BB:=⟨_,rfl⟩
 rw[hBB] at HBG HFN hb3
 obtain⟨n,a0,q0⟩:=BB
 dsimp only at HBG HFN hb3
 have HSZ:=lH (And.intro hsz hb3)
 clear hBB hsz hb3
 refine(callsIn_wide (n:=9)).1 ?_
 refine callsIn_of_wp_marks Tryz.func53 rfl trivial ?_ rfl
 simp only[Tryz.ntmps53,List.size_toArray,List.length_cons,List.length_nil,Nat.reduceAdd,Nat.reduceSub,Array.replicate_succ,Array.replicate_zero,List.push_toArray,List.append_toArray,List.nil_append,List.cons_append]
 gi_wp2
 refine⟨trivial,(callsIn_wide.2 HBG.out).mono ?_⟩
 rintro x w1 ⟨al,cap,rfl,ho,hb⟩
 dsimp only at ho ⊢
 have hba:Below w1.heap.size w1 (w1.alloc (.cells #[.string t,.int .i64 (a0:Int),.int .i64 q0,.slice al n cap] 207)):=(Below.refl _ _).alloc (Nat.le_refl _) _
 have hfix:xwZ w w1.heap.size t n al cap:=⟨hb.size,fun h=>by have:=(xa1.lt ho _ h).2;omega,HSZ.out.2.1,HSZ.out.1⟩
 have hst:DSt w w1.heap.size t n al cap [] (xax n) a0 q0 (w1.alloc (.cells #[.string t,.int .i64 (a0:Int),.int .i64 q0,.slice al n cap] 207)) :=
  ⟨xp0 _ _ _ _ _ _,xa1.below ho hba,hb.trans (hba.mono hb.size),fun D h=>by simp at h,List.nodup_nil,fun D h=>by simp at h,by simp[xax],xlM n,HSZ.out.2.2⟩
 have HFX:=lH hfix
 obtain⟨W0,hW0⟩:∃ W0,w1.alloc (.cells #[.string t,.int .i64 (a0:Int),.int .i64 q0,.slice al n cap] 207)=W0:=⟨_,rfl⟩
 rw[hW0] at hst
 have HS0:=lH hst
 obtain⟨⟨⟨hc0,hc1,hc2,_⟩,hc3⟩,_⟩:=hst
 clear ho hb hba hfix
 gi_wp2
 refine⟨trivial,(callsIn_wide.2 (xdT w1.heap.size 118 #[.slice al n cap] _)).mono ?_⟩
 rintro x V0 ⟨rfl,hV0⟩
 have HV0:=lH hV0
 gi_wp2
 rw[← hV0]
 clear hV0 hc0 hc1 hc2 hc3 hW0
 refine xdU (nn:=9) (r:=6) (s:=7) 0 (by decide) HFX.out HS0.out HV0.out rfl ?as0 ?bo0 ?do0
 case as0 =>
  intro lq x y W' K hK
  simp only[List.setIfInBounds_toArray,List.set_cons_zero,List.set_cons_succ] at hK ⊢
  gi_wp2
  exact hK
 case bo0 =>
  intro lq k gb y old W' R hk hal h3 hold hfr y0 y1 hR
  subst hal
  have hf:xmo 0=0:=rfl
  have hs:xtk 0 y=.int .u64 y:=rfl
  rw[hs,hf] at hR
  rw[hf] at hold
  rw[Nat.add_zero] at hold hR
  have hki:(k:Int)<(n:Int):=by omega
  have hkn:k<n:=hk
  have HR:=lH hR
  clear hR hf hs y1
  simp only[List.setIfInBounds_toArray,List.set_cons_zero,List.set_cons_succ]
  gi_wp2
  exact HR.out
 case do0 =>
  intro D1 l1 a1 q1 W1 hq hst
  have HS1:=lH hst
  have HQ1:=lH hq
  obtain⟨⟨⟨hc0,hc1,hc2,_⟩,hc3⟩,_⟩:=hst
  clear hq
  gi_wp2
  refine⟨trivial,(callsIn_wide.2 (xdT w1.heap.size 119 #[] _)).mono ?_⟩
  rintro x V1 ⟨rfl,hV1⟩
  have HV1:=lH hV1
  gi_wp2
  rw[← hV1]
  clear hV1 hc0 hc1 hc2 hc3
  refine xdU (nn:=9) (r:=8) (s:=9) 1 (by decide) HFX.out HS1.out HV1.out rfl ?as1 ?bo1 ?do1
  case as1 =>
   intro lq x y W' K hK
   simp only[List.setIfInBounds_toArray,List.set_cons_zero,List.set_cons_succ] at hK ⊢
   gi_wp2
   exact hK
  case bo1 =>
   intro lq k gb y old W' R hk hal h3 hold hfr y0 y1 hR
   subst hal
   have hf:xmo 1=3:=rfl
   have hs:xtk 1 y=.int .u32 y:=rfl
   rw[hs,hf] at hR
   rw[hf] at hold
   have hki:(k:Int)<(n:Int):=by omega
   have hkn:k<n:=hk
   have hwp:IntKind.u32.wrap y=y:=by have:=y1 (by omega);rw[xhC];omega
   have HR:=lH hR
   clear hR hf hs y1
   simp only[List.setIfInBounds_toArray,List.set_cons_zero,List.set_cons_succ]
   gi_wp2
   exact HR.out
  case do1 =>
   intro D2 l2 a2 q2 W2 hq hst
   have HS2:=lH hst
   have HQ2:=lH hq
   obtain⟨⟨⟨hc0,hc1,hc2,_⟩,hc3⟩,_⟩:=hst
   clear hq
   gi_wp2
   refine⟨trivial,(callsIn_wide.2 (xdT w1.heap.size 119 #[] _)).mono ?_⟩
   rintro x V2 ⟨rfl,hV2⟩
   have HV2:=lH hV2
   gi_wp2
   rw[← hV2]
   clear hV2 hc0 hc1 hc2 hc3
   refine xdU (nn:=9) (r:=10) (s:=11) 2 (by decide) HFX.out HS2.out HV2.out rfl ?as2 ?bo2 ?do2
   case as2 =>
    intro lq x y W' K hK
    simp only[List.setIfInBounds_toArray,List.set_cons_zero,List.set_cons_succ] at hK ⊢
    gi_wp2
    exact hK
   case bo2 =>
    intro lq k gb y old W' R hk hal h3 hold hfr y0 y1 hR
    subst hal
    have hf:xmo 2=2:=rfl
    have hs:xtk 2 y=.int .u32 y:=rfl
    rw[hs,hf] at hR
    rw[hf] at hold
    have hki:(k:Int)<(n:Int):=by omega
    have hkn:k<n:=hk
    have hwp:IntKind.u32.wrap y=y:=by have:=y1 (by omega);rw[xhC];omega
    have HR:=lH hR
    clear hR hf hs y1
    simp only[List.setIfInBounds_toArray,List.set_cons_zero,List.set_cons_succ]
    gi_wp2
    exact HR.out
   case do2 =>
    intro D3 l3 a3 q3 W3 hq hst
    have HS3:=lH hst
    have HQ3:=lH hq
    obtain⟨⟨⟨hc0,hc1,hc2,_⟩,hc3⟩,_⟩:=hst
    clear hq
    gi_wp2
    refine⟨trivial,(callsIn_wide.2 (xdT w1.heap.size 120 #[.slice al n cap] _)).mono ?_⟩
    rintro x V3 ⟨rfl,hV3⟩
    have HV3:=lH hV3
    gi_wp2
    rw[← hV3]
    clear hV3 hc0 hc1 hc2 hc3
    refine xdU (nn:=9) (r:=12) (s:=13) 3 (by decide) HFX.out HS3.out HV3.out rfl ?as3 ?bo3 ?do3
    case as3 =>
     intro lq x y W' K hK
     simp only[List.setIfInBounds_toArray,List.set_cons_zero,List.set_cons_succ] at hK ⊢
     gi_wp2
     exact hK
    case bo3 =>
     intro lq k gb y old W' R hk hal h3 hold hfr y0 y1 hR
     subst hal
     have hf:xmo 3=1:=rfl
     have hs:xtk 3 y=.int .u64 y:=rfl
     rw[hs,hf] at hR
     rw[hf] at hold
     have hki:(k:Int)<(n:Int):=by omega
     have hkn:k<n:=hk
     have HR:=lH hR
     clear hR hf hs y1
     simp only[List.setIfInBounds_toArray,List.set_cons_zero,List.set_cons_succ]
     gi_wp2
     exact HR.out
    case do3 =>
     intro D4 l4 a4 q4 W4 hq hst
     have HS4:=lH hst
     have HQ4:=lH hq
     obtain⟨⟨⟨hc0,hc1,hc2,_⟩,hc3⟩,_⟩:=hst
     clear hq
     gi_wp2
     have hfin:=HFN.out _ _ _ _ _ _ _ _ _ _ _ _ HQ1.out HQ2.out HQ3.out HQ4.out
     have HFI:=lH hfin
     have h4:=HS4.out
     have hEnd:=lH (xnx t a4 q4 W4)
     clear hfin hc0 hc1 hc2 hc3
     obtain⟨f1,f2,f3,f4,f5,f6,f7,f8,f9⟩:=h4
     have HOW:=lH (And.intro f2 (And.intro f3 (And.intro f4 (And.intro f5 (And.intro f6 (And.intro f7 (And.intro f8 f9)))))))
     have HTK:=lH f1
     clear f1 f2 f3 f4 f5 f6 f7 f8 f9
     by_cases hq4:q4=0
     ·subst hq4
      by_cases ha4:a4<t.size
      ·rw[xnW t a4 ha4] at hEnd
       have hDD:DD=([],a4,4):=by rw[HFI.out];unfold xuU xsD;simp[ha4]
       refine⟨trivial,(callsIn_wide.2 hEnd.out).mono ?_⟩
       rintro x W5 ⟨rfl,hb5⟩
       obtain⟨⟨hc0,hc1,hc2,_⟩,hc3⟩:=HTK.out.later hb5
       have HB5:=lH hb5
       subst hDD
       clear hb5 hEnd
       gi_wp2
       gi_region
       all_goals
        gi_wp2
        refine xc5 (Ds:=[D4,D3,D2,D1]) (xe1 HOW.out.2.2.1 (HB5.out.trans (Below.drew (Below.refl _ _)))) HOW.out.2.2.2.1 HOW.out.2.2.2.2.1 (xbG _ _ _) (HOW.out.2.1.trans (((HB5.out.trans (Below.drew (Below.refl _ _)))).mono HOW.out.2.1.size)) rfl rfl rfl
      ·have hae:a4=t.size:=by have:=HOW.out.2.2.2.2.2.2.2;omega
       rw[xuh t a4 hae] at hEnd
       have hDD:DD=if xaC l4≠0 then ([],t.size,xaC l4) else (l4,t.size,0):=by rw[HFI.out];unfold xuU xsD;simp[hae]
       refine⟨trivial,(callsIn_wide.2 hEnd.out).mono ?_⟩
       rintro x W5 ⟨rfl,hb5⟩
       obtain⟨⟨hc0,hc1,hc2,_⟩,hc3⟩:=HTK.out.later hb5
       have HB5:=lH hb5
       have HRow:=lH (xcm (.slice al n cap) l4 W5 ((xa1.below HOW.out.1 hb5).ensAt) HOW.out.2.2.2.2.2.2.1)
       clear hb5 hEnd hae ha4
       by_cases hr:xaC l4=0
       ·rw[if_neg (fun h=>h hr)] at hDD
        rw[hr] at HRow
        subst hDD
        clear hr
        gi_wp2
        refine⟨trivial,(callsIn_wide.2 HRow.out).mono ?_⟩
        rintro x W6 ⟨rfl,hb6⟩
        have HB6:=lH hb6
        have hc3:=xaa hb6 hc3
        clear hb6 HRow
        gi_wp2
        refine xc5 (Ds:=[D4,D3,D2,D1]) (xe1 HOW.out.2.2.1 (HB5.out.trans (HB6.out.mono HB5.out.size))) HOW.out.2.2.2.1 HOW.out.2.2.2.2.1 (xa1.below HOW.out.1 (HB5.out.trans (HB6.out.mono HB5.out.size))) (HOW.out.2.1.trans (((HB5.out.trans (HB6.out.mono HB5.out.size))).mono HOW.out.2.1.size)) rfl rfl rfl
       ·rw[if_pos hr] at hDD
        have hne:(xaC l4 == 0)=false:=by simpa using hr
        generalize xaC l4=r4 at *
        subst hDD
        clear hr
        gi_wp2
        refine⟨trivial,(callsIn_wide.2 HRow.out).mono ?_⟩
        rintro x W6 ⟨rfl,hb6⟩
        have HB6:=lH hb6
        have hc3:=xaa hb6 hc3
        clear hb6 HRow
        gi_wp2
        refine xc5 (Ds:=[D4,D3,D2,D1]) (xe1 HOW.out.2.2.1 (HB5.out.trans (HB6.out.mono HB5.out.size))) HOW.out.2.2.2.1 HOW.out.2.2.2.2.1 (xbG _ _ _) (HOW.out.2.1.trans (((HB5.out.trans (HB6.out.mono HB5.out.size))).mono HOW.out.2.1.size)) rfl rfl rfl
     ·rw[xpu t a4 q4 hq4] at hEnd
      have hDD:DD=([],a4,q4):=by rw[HFI.out];unfold xuU xsD;simp[hq4]
      have hne:(q4 == 0)=false:=by simpa using hq4
      refine⟨trivial,(callsIn_wide.2 hEnd.out).mono ?_⟩
      rintro x W5 ⟨rfl,hb5⟩
      obtain⟨⟨hc0,hc1,hc2,_⟩,hc3⟩:=HTK.out.later hb5
      have HB5:=lH hb5
      subst hDD
      clear hb5 hEnd hq4
      gi_wp2
      gi_region
      all_goals
       gi_wp2
       refine xc5 (Ds:=[D4,D3,D2,D1]) (xe1 HOW.out.2.2.1 (HB5.out.trans (Below.drew (Below.refl _ _)))) HOW.out.2.2.2.1 HOW.out.2.2.2.2.1 (xbG _ _ _) (HOW.out.2.1.trans (((HB5.out.trans (Below.drew (Below.refl _ _)))).mono HOW.out.2.1.size)) rfl rfl rfl
end Go.Proofs.YtjinnigjfopbcaaGreatDoor
namespace Go.Proofs.YtjinnigjfopbcaaGreatDoor
set_option linter.unusedVariables false
set_option linter.unusedSimpArgs false
open Go.RowKit Go.Shelf
set_option maxRecDepth 20000
theorem xhM (t:ByteArray) (w:World) (hm:t.size≤maxLen):Calls Tryz.prog 53 #[.string t] w (xhx (xbR t.data.toList) 74 w):=by
 by_cases h1:65536<t.size
 ·have hl:t.data.toList.length=t.size:=by simp
  have hD:xbR t.data.toList=([],0,5):=by unfold xbR;rw[if_pos (by rw[hl];exact h1)]
  rw[hD]
  have hd:decide (65536<(t.size:Int))=true:=by simp;omega
  have hd2:decide (65536<t.size)=true:=by simp;omega
  clear h1 hl hD
  go_enter Tryz.func53,Tryz.ntmps53
  go_wp2_with fail
  go_ret3
  exact⟨_,rfl,xbG _ _ _,Below.refl _ _⟩
 ·exact xtN t w (by omega)
theorem xqH (t:List UInt8):(xbR t).1.length≤4096:=by
 by_cases h:(xbR t).2.2=0
 ·exact xdP (xcH t h).1
 ·rw[(xpk t).1 h];exact Nat.zero_le _
end Go.Proofs.YtjinnigjfopbcaaGreatDoor
namespace Go.Proofs.YtjinnigjfopbcaaGreatDoor
set_option linter.unusedVariables false
set_option linter.unusedSimpArgs false
open Go.RowKit
set_option maxRecDepth 20000
def xea (e:En) (d:ByteArray):List En × Int:=if 0<e.rn then ([e],0) else xa5 e d
theorem xpX (e:En) (d:ByteArray) (w:World) (hm:xaO e) (hc:e.off+e.ln≤9223372036854775807) (hd:d.size≤1000000000) :
  Calls Tryz.prog 123 #[.agg (eC e),.string d] w (xf2 (xea e d) w):=by
 unfold xf2
 have HEB:=lH (EAt.made w e 74)
 have HB0:Hid (Below w.heap.size w (w.alloc (.cells (eC e) 74))):=lH ((Below.refl _ _).alloc (Nat.le_refl _) _)
 have HPT:=lH (fun X=>xkK e X)
 have hm':=hm
 unfold xaO at hm
 have hw3:IntKind.u64.wrap e.ln=e.ln:=by rw[IntKind.wrap_u64];omega
 have hw4:IntKind.u64.wrap (e.off+e.ln)=e.off+e.ln:=by rw[IntKind.wrap_u64];omega
 have hw5:IntKind.u64.wrap (d.size:Int)=(d.size:Int):=by rw[IntKind.wrap_u64];omega
 by_cases h0:0<e.rn
 ·have he:xea e d=([e],0):=by unfold xea;rw[if_pos h0]
  rw[he,decide_eq_false (by omega)] at *
  dsimp only
  have HL1:=lH (fun X=>xh8 X e 74)
  clear h0 he
  unfold eC at HB0 HEB HPT HL1 ⊢
  go_enter Tryz.func123,Tryz.ntmps123
  go_wp2_with fail
  refine(HPT.out _).mono ?_
  rintro x w1 ⟨rfl,hb1⟩
  have HB1:=lH (HB0.out.trans (hb1.mono HB0.out.size))
  obtain⟨k0,k1,k2,k3⟩:=HEB.out.later hb1
  clear hb1
  go_wp2_with fail
  refine bodyPost_ret (results_tmp2 rfl _ _ _) rfl ⟨_,rfl,HL1.out _,HB1.out.alloc HB1.out.size _⟩
 have he:xea e d=xa5 e d:=by unfold xea;rw[if_neg h0]
 rw[he]
 rw[decide_eq_true (show e.rn=0 by omega)] at HPT
 clear h0 he
 by_cases h1:(d.size:Int)<e.off+e.ln
 ·rw[xfc h1]
  dsimp only
  unfold eC at HB0 HEB HPT ⊢
  go_enter Tryz.func123,Tryz.ntmps123
  go_wp2_with fail
  refine(HPT.out _).mono ?_
  rintro x wp ⟨rfl,hbp⟩
  have HB1:=lH (HB0.out.trans (hbp.mono HB0.out.size))
  have hep:=HEB.out.later hbp
  have HEP:=lH hep
  obtain⟨k0,k1,k2,k3⟩:=hep
  clear hbp
  go_wp2_with fail
  refine bodyPost_ret (results_tmp2 rfl _ _ _) rfl ⟨_,rfl,xbb _,HB1.out⟩
 have hs1:(0:Int)≤e.off:=by omega
 have hs2:e.off≤e.off+e.ln:=by omega
 have hs3:e.off+e.ln≤(d.size:Int):=by omega
 have HDC:=lH (fun X=>xhM (d.extract e.off.toNat (e.off+e.ln).toNat) X (by rw[ByteArray.size_extract];unfold maxLen;omega))
 obtain⟨D,hD⟩:∃ D,xbR (d.extract e.off.toNat (e.off+e.ln).toNat).data.toList=D:=⟨_,rfl⟩
 rw[hD] at HDC
 have hback:=xcH (d.extract e.off.toNat (e.off+e.ln).toNat).data.toList
 rw[hD] at hback
 unfold xhx at HDC
 obtain⟨m,at_,z⟩:=D
 dsimp only at HDC hback
 unfold eC at HB0 HEB HPT ⊢
 by_cases h2:z=0
 ·subst h2
  obtain⟨b1,b2,_⟩:=hback rfl
  have hml:=xdP b1
  have HLV:=lH (fun v X (hX:xak X v m)=>xib v m X hX (by omega))
  by_cases h3:xaj m=[]
  ·rw[decide_eq_false (by simpa using h3)] at HLV
   by_cases h4:m=[]
   ·rw[xdt h1 hD rfl h3 (.inl h4)]
    subst h4
    dsimp only
    clear b1 b2 hback hD h1 h3
    go_enter Tryz.func123,Tryz.ntmps123
    go_wp2_with fail
    refine(HPT.out _).mono ?_
    rintro x wp ⟨rfl,hbp⟩
    have HB1:=lH (HB0.out.trans (hbp.mono HB0.out.size))
    have hep:=HEB.out.later hbp
    have HEP:=lH hep
    obtain⟨k0,k1,k2,k3⟩:=hep
    clear hbp
    go_wp2_with fail
    refine(HDC.out _).mono ?_
    rintro x w1 ⟨v1,rfl,ho1,hb1⟩
    have HO1:=lH ho1.ensAt
    have HBP:=HB1
    clear HB1
    have HB1:=lH (HBP.out.trans (hb1.mono HBP.out.size))
    have he1:=HEP.out.later hb1
    obtain⟨a1,c1,rfl⟩:=xag ho1.ensAt
    clear ho1 hb1 k0 k1 k2 k3
    rw[List.length_nil] at HO1
    rw[List.length_nil]
    go_wp2_with fail
    refine(HLV.out _ _ HO1.out).mono ?_
    rintro x w2 ⟨rfl,hb2⟩
    have HO2:=lH (HO1.out.below hb2)
    have HB2:=lH (HB1.out.trans (hb2.mono HB1.out.size))
    have he2:=he1.later hb2
    obtain⟨k0,k1,k2,k3⟩:=he2
    clear hb2 he1
    go_wp2_with fail
    go_quiet (fail)
    go_wp2_with fail
    refine bodyPost_ret (results_tmp2 rfl _ _ _) rfl ⟨_,rfl,xbb _,Below.drewNs HB2.out _⟩
   ·have hmp:0<m.length:=List.length_pos_iff.2 h4
    have hmp1:((m.length:Int) == 0)=false:=by rw[beq_eq_false_iff_ne];omega
    have hmp2:(0:Int)<(m.length:Int):=by omega
    by_cases h5:(gS m 0).id=e.id
    ·rw[xf6 h1 hD rfl h3 (by intro h;rcases h with h|h;exact h4 h;exact h h5)]
     dsimp only
     have hne:((gS m 0).id != e.id)=false:=by simpa using h5
     have HGS:=lH (xke m 0 hmp)
     clear b1 b2 hback hD h1 h3 h4
     go_enter Tryz.func123,Tryz.ntmps123
     go_wp2_with fail
     refine(HPT.out _).mono ?_
     rintro x wp ⟨rfl,hbp⟩
     have HB1:=lH (HB0.out.trans (hbp.mono HB0.out.size))
     have hep:=HEB.out.later hbp
     have HEP:=lH hep
     obtain⟨k0,k1,k2,k3⟩:=hep
     clear hbp
     go_wp2_with fail
     refine(HDC.out _).mono ?_
     rintro x w1 ⟨v1,rfl,ho1,hb1⟩
     have HO1:=lH ho1.ensAt
     have HBP:=HB1
     clear HB1
     have HB1:=lH (HBP.out.trans (hb1.mono HBP.out.size))
     have he1:=HEP.out.later hb1
     obtain⟨a1,c1,rfl⟩:=xag ho1.ensAt
     clear ho1 hb1 k0 k1 k2 k3
     go_wp2_with fail
     refine(HLV.out _ _ HO1.out).mono ?_
     rintro x w2 ⟨rfl,hb2⟩
     have HO2:=lH (HO1.out.below hb2)
     have HB2:=lH (HB1.out.trans (hb2.mono HB1.out.size))
     have he2:=he1.later hb2
     obtain⟨k0,k1,k2,k3⟩:=he2
     obtain⟨gm,om,cm,hve,hcm,hgm,hcc⟩:=xfX HO2.out 0 hmp
     cases hve
     obtain⟨x0,_,_,_⟩:=hcc 0 _ HGS.out
     simp only[Nat.zero_mul,Nat.add_zero] at x0
     clear hb2 he1 hcc h5
     go_wp2_with fail
     go_quiet (fail)
     go_wp2_with fail
     refine bodyPost_ret (results_tmp2 rfl _ _ _) rfl ⟨_,rfl,HO2.out.drewNs _,Below.drewNs HB2.out _⟩
    ·rw[xdt h1 hD rfl h3 (.inr h5)]
     dsimp only
     have hne:((gS m 0).id != e.id)=true:=by simpa using h5
     have HGS:=lH (xke m 0 hmp)
     clear b1 b2 hback hD h1 h3 h4
     go_enter Tryz.func123,Tryz.ntmps123
     go_wp2_with fail
     refine(HPT.out _).mono ?_
     rintro x wp ⟨rfl,hbp⟩
     have HB1:=lH (HB0.out.trans (hbp.mono HB0.out.size))
     have hep:=HEB.out.later hbp
     have HEP:=lH hep
     obtain⟨k0,k1,k2,k3⟩:=hep
     clear hbp
     go_wp2_with fail
     refine(HDC.out _).mono ?_
     rintro x w1 ⟨v1,rfl,ho1,hb1⟩
     have HO1:=lH ho1.ensAt
     have HBP:=HB1
     clear HB1
     have HB1:=lH (HBP.out.trans (hb1.mono HBP.out.size))
     have he1:=HEP.out.later hb1
     obtain⟨a1,c1,rfl⟩:=xag ho1.ensAt
     clear ho1 hb1 k0 k1 k2 k3
     go_wp2_with fail
     refine(HLV.out _ _ HO1.out).mono ?_
     rintro x w2 ⟨rfl,hb2⟩
     have HO2:=lH (HO1.out.below hb2)
     have HB2:=lH (HB1.out.trans (hb2.mono HB1.out.size))
     have he2:=he1.later hb2
     obtain⟨k0,k1,k2,k3⟩:=he2
     obtain⟨gm,om,cm,hve,hcm,hgm,hcc⟩:=xfX HO2.out 0 hmp
     cases hve
     obtain⟨x0,_,_,_⟩:=hcc 0 _ HGS.out
     simp only[Nat.zero_mul,Nat.add_zero] at x0
     clear hb2 he1 hcc h5
     go_wp2_with fail
     go_quiet (fail)
     go_wp2_with fail
     refine bodyPost_ret (results_tmp2 rfl _ _ _) rfl ⟨_,rfl,xbb _,Below.drewNs HB2.out _⟩
  ·rw[xf8 h1 hD rfl h3]
   dsimp only
   rw[decide_eq_true (by simpa using h3)] at HLV
   clear b1 b2 hback hD h1 h3
   go_enter Tryz.func123,Tryz.ntmps123
   go_wp2_with fail
   refine(HPT.out _).mono ?_
   rintro x wp ⟨rfl,hbp⟩
   have HB1:=lH (HB0.out.trans (hbp.mono HB0.out.size))
   have hep:=HEB.out.later hbp
   have HEP:=lH hep
   obtain⟨k0,k1,k2,k3⟩:=hep
   clear hbp
   go_wp2_with fail
   refine(HDC.out _).mono ?_
   rintro x w1 ⟨v1,rfl,ho1,hb1⟩
   have HO1:=lH ho1.ensAt
   have HBP:=HB1
   clear HB1
   have HB1:=lH (HBP.out.trans (hb1.mono HBP.out.size))
   have he1:=HEP.out.later hb1
   obtain⟨a1,c1,rfl⟩:=xag ho1.ensAt
   clear ho1 hb1 k0 k1 k2 k3
   go_wp2_with fail
   refine(HLV.out _ _ HO1.out).mono ?_
   rintro x w2 ⟨rfl,hb2⟩
   have HO2:=lH (HO1.out.below hb2)
   have HB2:=lH (HB1.out.trans (hb2.mono HB1.out.size))
   have he2:=he1.later hb2
   clear hb2 he1
   go_wp2_with fail
   refine bodyPost_ret (results_tmp2 rfl _ _ _) rfl ⟨_,rfl,xbb _,HB2.out⟩
 ·rw[xhp h1 hD h2]
  dsimp only
  have hz:(z != 0)=true:=by simpa using h2
  clear hback hD h1 h2
  go_enter Tryz.func123,Tryz.ntmps123
  go_wp2_with fail
  refine(HPT.out _).mono ?_
  rintro x wp ⟨rfl,hbp⟩
  have HB1:=lH (HB0.out.trans (hbp.mono HB0.out.size))
  have hep:=HEB.out.later hbp
  have HEP:=lH hep
  obtain⟨k0,k1,k2,k3⟩:=hep
  clear hbp
  go_wp2_with fail
  refine(HDC.out _).mono ?_
  rintro x w1 ⟨v1,rfl,ho1,hb1⟩
  have HO1:=lH ho1.ensAt
  have HBP:=HB1
  clear HB1
  have HB1:=lH (HBP.out.trans (hb1.mono HBP.out.size))
  have he1:=HEP.out.later hb1
  obtain⟨a1,c1,rfl⟩:=xag ho1.ensAt
  clear ho1 hb1 k0 k1 k2 k3
  clear he1
  go_wp2_with fail
  refine bodyPost_ret (results_tmp2 rfl _ _ _) rfl ⟨_,rfl,xbb _,HB1.out⟩
theorem xtD:(Tryz.prog.info? 74).map (fun i=>(i.zero,i.size,i.bytes))=some (some (.agg #[.int .u64 0,.int .u64 0,.int .u32 0,.int .u32 0]),4,24):=by kernel_rfl
theorem xq3 (l:List En) (k:Nat) (e:En) (d:ByteArray) (out:List En) (h:l[k]?=some e):goJ (l.drop k) d out=if (xea e d).2≠0 then ([],(xea e d).2) else goJ (l.drop (k+1)) d (out++(xea e d).1):=by
 rw[xkq l k e d out h]
 unfold xea
 by_cases hr:0<e.rn
 ·rw[if_pos hr,if_pos hr,if_neg (by simp)]
 ·rw[if_neg hr,if_neg hr]
theorem xrw (e:En) (d:ByteArray) (hm:xaO e):(xea e d).1.length≤4096∧xay (xea e d).1:=by
 unfold xea
 split
 ·exact⟨by simp,fun x hx=>by rw[List.mem_singleton] at hx;rw[hx];exact hm⟩
 ·exact xhs e d
def xiV (out L:List En):Prop:=out=L∨(4096<out.length∧4096<L.length)
theorem xqr {out L:List En} (h:xiV out L):xaC out=xaC L:=by
 rcases h with rfl|⟨h1,h2⟩
 ·rfl
 ·unfold xaC;rw[if_pos h1,if_pos h2]
theorem xsj {out L:List En} (h:xiV out L) (h0:xaC L=0):out=L:=by
 rcases h with rfl|⟨h1,h2⟩
 ·rfl
 ·unfold xaC at h0;rw[if_pos h2] at h0;cases h0
theorem xpv {out L m:List En} (h:xiV out L) (hl:out.length≤4096):xiV (out++m) (L++m):=by
 rcases h with rfl|⟨h1,h2⟩
 ·exact .inl rfl
 ·omega
theorem xkU {out L m:List En} (h:xiV out L) (hl:¬ out.length≤4096):xiV out (L++m):=by
 right
 rcases h with rfl|⟨h1,h2⟩
 ·exact⟨by omega,by rw[List.length_append];omega⟩
 ·exact⟨h1,by rw[List.length_append];omega⟩
theorem xk3 (v:Value) (root:List En) (d:ByteArray) (w:World) (hv:xak w v root) (hm:xay root) (hl:root.length≤4096) (hd:d.size≤1000000) :
  Calls Tryz.prog 54 #[v,.string d] w (xf2 (xcr root d) w):=by
 unfold xf2
 have HRO:=lH (xcm v root w hv hm)
 by_cases h1:xaC root=0
 ·obtain⟨J,hJ⟩:∃ J,xcr root d=J:=⟨_,rfl⟩
  rw[hJ]
  rw[xqF h1] at hJ
  rw[h1] at HRO
  have HCK:Hid (∀ e ∈ root,ckN e=0):=lH (fun e he=>by
   have:=(xqR h1).1
   exact(xcZ _ root hm this e he).2)
  have HV:=lH hv
  have HM:=lH hm
  obtain⟨av,cv,rfl⟩:=xag hv
  obtain⟨R,hR⟩:∃ R,goJ root d []=R:=⟨_,rfl⟩
  rw[hR] at hJ
  have HJ:=lH hJ.symm
  have HR0:Hid (R=goJ (root.drop 0) d []):=lH (by rw[List.drop_zero,hR])
  clear hv hm h1 hR hJ
  go_enter Tryz.func54,Tryz.ntmps54
  go_wp2_with fail
  refine HRO.out.mono ?_
  rintro x w1 ⟨rfl,hb1⟩
  have HB1:=lH hb1
  clear hb1
  go_wp2_with fail
  go_loopw [7,20] (fun vo i wr=>∃ (k:Nat) (out L:List En),k≤root.length∧i=.int .i64 k∧out.length≤8192∧Hid (xa1 wr w.heap.size 74 vo out)∧Hid (xay out)∧Hid (xiV out L)∧Hid (R=goJ (root.drop k) d L)∧Hid (Below w.heap.size w wr)) (fun _ i _=>root.length - (intOf i).toNat)
  case atStart=>exact⟨0,[],[],Nat.zero_le _,rfl,by simp,lH (xbG _ _ _),lH (fun e h=>by simp at h),lH (.inl rfl),HR0,HB1⟩
  case round =>
   obtain⟨k,out,L,hk,rfl,hol,HO,HMO,HSL,HG,HBW⟩:=hrel
   by_cases hlt:k<root.length
   ·obtain⟨e,he⟩:∃ e,root[k]?=some e:=⟨_,List.getElem?_eq_getElem hlt⟩
    have hme:=HM.out e (List.mem_of_getElem? he)
    have hck:=xgr e (HCK.out e (List.mem_of_getElem? he))
    obtain⟨g,off,cap,hv2,hle,hg,hc⟩:=xfX HV.out k hlt
    cases hv2
    obtain⟨k0,k1,k2,k3⟩:=xdI HBW.out (hc k e he)
    have HG2:=HG.out
    rw[xq3 root k e d L he] at HG2
    have hki:(k:Int)<(root.length:Int):=by omega
    have hme2:=hme
    unfold xaO at hme2
    have HP:=lH (fun X=>xpX e d X hme (by omega) (by omega))
    have HPL:=lH (xrw e d hme)
    have HBX:Hid (Below wr.heap.size wr (wr.alloc (.cells (eC e) 74))):=lH ((Below.refl _ _).alloc (Nat.le_refl _) _)
    unfold xf2 at HP
    generalize xea e d=P at *
    obtain⟨m,z⟩:=P
    dsimp only at HP HG2 HPL
    unfold eC at HP HBX
    obtain⟨av9,cv9,rfl⟩:=xag HO.out.ensAt
    by_cases hz:z=0
    ·rw[if_neg (by simpa using hz)] at HG2
     subst hz
     have HG3:=lH HG2
     clear HG2 HG hc he hme hck hme2 HR0
     go_wp2_with fail
     refine(HP.out _).mono ?_
     rintro x w2 ⟨v2,rfl,he2,hb2⟩
     have hb12:=HBX.out.trans (hb2.mono HBX.out.size)
     have hB2:=HBW.out.trans (hb12.mono HBW.out.size)
     obtain⟨a2,c2,rfl⟩:=xag he2
     by_cases hcut:out.length≤4096
     ·obtain⟨v5,w5,hr5,ho5,hg5⟩:=xeA w2 w.heap.size 27 74 27 _ Tryz.underlying27 xtD rfl (.slice av9 out.length cv9) (.slice a2 m.length c2) out m (HO.out.below hb12) he2 (by have:=HPL.out.1;omega) hB2.size
      have HO5:=lH ho5
      have HM5:=lH (xjI HMO.out HPL.out.2)
      have HS5:=lH (xpv (m:=m) HSL.out hcut)
      have HB5:=lH (hB2.grown hg5 hB2.size (fun j hj=>(HO.out.lt j hj).1))
      have hlen:(out++m).length≤8192:=by have:=HPL.out.1;rw[List.length_append];omega
      have hcz:(out.length:Int)≤4096:=by omega
      clear ho5 hg5 he2 hb2 hB2 HP hb12
      go_wp2_with (first|(at_builtin;refine Lib.wpList_append_run _ rfl _ _ _ _ rfl _ _ rfl rfl _ _ hr5 ?_)|fail)
      go_roundw
      case rel=>exact⟨k+1,_,_,by omega,by go_num,hlen,HO5,HM5,HS5,HG3,HB5⟩
      case measure=>simp[intOf];omega
     ·have hcz:¬ (out.length:Int)≤4096:=by omega
      have HO5:=lH (HO.out.below hb12)
      have HS5:=lH (xkU (m:=m) HSL.out hcut)
      have HB5:=lH hB2
      clear he2 hb2 hB2 HP hb12
      go_wp2_with fail
      go_roundw
      case rel=>exact⟨k+1,_,_,by omega,by go_num,hol,HO5,HMO,HS5,HG3,HB5⟩
      case measure=>simp[intOf];omega
    ·rw[if_pos hz] at HG2
     have hzn:(z != 0)=true:=by simpa using hz
     have HRR:Hid (J=([],z)):=lH (by rw[HJ.out,HG2];dsimp only;rw[if_pos hz])
     clear HG2 HG hc he hme hck hme2 HR0 hz
     go_wp2_with fail
     refine(HP.out _).mono ?_
     rintro x w2 ⟨v2,rfl,he2,hb2⟩
     have hb12:=HBX.out.trans (hb2.mono HBX.out.size)
     have HB2:=lH (HBW.out.trans (hb12.mono HBW.out.size))
     obtain⟨a2,c2,rfl⟩:=xag he2
     clear he2 hb2 HP hb12
     go_wp2_with fail
     refine bodyPost_ret (results_tmp2 rfl _ _ _) rfl ⟨_,by rw[HRR.out];rfl,by rw[HRR.out];exact xbb _,HB2.out⟩
   ·obtain rfl:k=root.length:=by omega
    have HG2:=HG.out
    rw[List.drop_length,goJ] at HG2
    have HJ2:=HJ.out
    rw[HG2] at HJ2
    dsimp only at HJ2
    rw[if_neg (by simp)] at HJ2
    have HRW:=lH (xcm u7 out wr HO.out.ensAt HMO.out)
    have HE:=lH HO.out.ensAt
    obtain⟨a7,c7,rfl⟩:=xag HO.out.ensAt
    rw[xqr HSL.out] at HRW
    by_cases hq:xaC L=0
    ·rw[if_neg (by simpa using hq)] at HJ2
     rw[hq] at HRW
     have hol2:=xsj HSL.out hq
     subst hol2
     have HJ3:=lH HJ2
     clear hq HR0 HG HG2 HJ2
     go_wp2_with fail
     refine HRW.out.mono ?_
     rintro x w2 ⟨rfl,hb2⟩
     have HE2:=lH (HE.out.below hb2)
     have HB2:=lH (HBW.out.trans (hb2.mono HBW.out.size))
     clear hb2
     go_wp2_with fail
     refine bodyPost_ret (results_tmp2 rfl _ _ _) rfl ⟨_,by rw[HJ3.out];rfl,by rw[HJ3.out];exact HE2.out,HB2.out⟩
    ·rw[if_pos hq] at HJ2
     have hqn:(xaC L != 0)=true:=by simpa using hq
     have HJ3:=lH HJ2
     generalize xaC L=q at *
     clear hq HR0 HG HG2 HJ2
     go_wp2_with fail
     refine HRW.out.mono ?_
     rintro x w2 ⟨rfl,hb2⟩
     have HB2:=lH (HBW.out.trans (hb2.mono HBW.out.size))
     clear hb2
     go_wp2_with fail
     refine bodyPost_ret (results_tmp2 rfl _ _ _) rfl ⟨_,by rw[HJ3.out];rfl,by rw[HJ3.out];exact xbb _,HB2.out⟩
 ·have hj:xcr root d=([],xaC root):=by unfold xcr;rw[if_pos h1]
  rw[hj]
  dsimp only
  have hq:(xaC root != 0)=true:=by simpa using h1
  generalize xaC root=q at *
  obtain⟨av,cv,rfl⟩:=xag hv
  clear h1 hj hv
  go_enter Tryz.func54,Tryz.ntmps54
  go_wp2_with fail
  refine HRO.out.mono ?_
  rintro x w1 ⟨rfl,hb1⟩
  have HB1:=lH hb1
  clear hb1
  go_wp2_with fail
  refine bodyPost_ret (results_tmp2 rfl _ _ _) rfl ⟨_,rfl,xbb _,HB1.out⟩
end Go.Proofs.YtjinnigjfopbcaaGreatDoor
