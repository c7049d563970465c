/- bML bPs bNe. -/
import Derived.Test.YtjkgkmmkehnggaaGreatDoorVb6
namespace Go.Proofs.YtjkgkmmkehnggaaGreatDoor
set_option linter.unusedVariables false
set_option linter.unusedSimpArgs false
open Go.RowKit Go.Shelf
set_option maxRecDepth 20000
theorem info_pent:(Tryz.prog.info? 147).map (fun i=>(i.zero,i.size,i.bytes))=some (some (.agg #[.int .u64 0,.int .u64 0,.int .u32 0,.int .u32 0]),4,24):=by kernel_rfl
theorem make_row (n:Nat) (W:World) (h:n≤4096):(Instr.makeSlice 199 (.int .u64 (n:Int)) (.int .u64 (n:Int))).run Tryz.prog W=.ok (.slice (some ⟨W.heap.size,0,none⟩) n n) (W.alloc (.cells (madeCells (eC zeroE) (n*4)) 147)):=by
 obtain⟨i0,hi,hz0,hz1,hz2⟩:=info_parts info_pent
 have:=run_make (P:=Tryz.prog) W 199 147 i0 _ Tryz.underlying199 hi hz0 .u64 .u64 (n:Int) (n:Int) (by omega) (by omega) (by rw[hz2];omega) (by omega)
 rw[this,hz1]
 simp only[Int.toNat_natCast]
 rfl
theorem own_row (w:World) (n:Nat) (h:n≤4096):OwnE (w.alloc (.cells (madeCells (eC zeroE) (n*4)) 147)) w.heap.size 147 (.slice (some ⟨w.heap.size,0,none⟩) n n) (zerosE n):=by
 have:=World.ownsRow_lit (e:=147) (size:=4) w (madeCells (eC zeroE) (n*4)) n (Nat.le_refl _) (by unfold maxLen;omega) (size_madeCells _ _)
 exact owne_conv this (by simp[zerosE]) (flat_zeros n).symm
def bgD (t:List UInt8):Nat × Nat × Int:=if errV t≠0 then (0,0,errV t) else if 4096<valV t then (0,0,21) else ((valV t).toNat,lead 10 t+1,0)
def BgEnd (t:ByteArray) (D:Nat × Nat × Int) (w:World) (x:Ending) (w':World):Prop:=∃ al cap,x=.returned (.agg #[.string t,.int .i64 (D.2.1:Int),.int .i64 D.2.2,.slice al D.1 cap])∧OwnE w' w.heap.size 147 (.slice al D.1 cap) (zerosE D.1)∧Below w.heap.size w w'
set_option maxRecDepth 100000 in
set_option maxHeartbeats 2000000 in
theorem pbegun_3 (t:ByteArray) (n p:Nat) (q:Int) (w:World) (hn:n≤4096) (hget:∀ W,Calls Tryz.prog 180 #[.agg #[.string t,.int .i64 0,.int .i64 0]] W (GetEnd t (n:Int) (p:Int) q W)):Calls Tryz.prog 102 #[.string t] w (BgEnd t (n,p,q) w):=by
 have HG:=Lib.hid hget
 have hmk:=fun W=>make_row n W hn
 have hd:decide (4096<(n:Int))=false:=by simp;omega
 have hd2:decide (4096<n)=false:=by simp;omega
 clear hget
 go_enter Tryz.func102,Tryz.ntmps102
 go_wp2_with fail
 refine(HG.out _).mono ?_
 rintro y w1 ⟨rfl,hb⟩
 have hz:w.heap.size+2≤w1.heap.size:=by have:=hb.size;simp at this;omega
 have hbw:Below w.heap.size w w1:=Below.trans (by go_grown) (hb.mono (by simp;omega))
 have f0:∀ o,w1.frozen? ⟨w.heap.size,o,none⟩=false:=fun o=>((bcell hb).2 _ _ (by simp;omega)).trans (by simp[go_sem])
 have c0:w1.cell? ⟨w.heap.size,0,none⟩=some (.string { data:=#[] }):=((bcell hb).1 _ _ (by simp;omega)).trans (by simp[go_sem])
 have c1:w1.cell? ⟨w.heap.size,1,none⟩=some (.int .i64 0):=((bcell hb).1 _ _ (by simp;omega)).trans (by simp[go_sem])
 have c2:w1.cell? ⟨w.heap.size,2,none⟩=some (.int .i64 0):=((bcell hb).1 _ _ (by simp;omega)).trans (by simp[go_sem])
 have c3:w1.cell? ⟨w.heap.size,3,none⟩=some (.slice none 0 0):=((bcell hb).1 _ _ (by simp;omega)).trans (by simp[go_sem])
 clear hb
 have hW2:Below w1.heap.size w1 ((w1.alloc (.cells #[.string t,.int .i64 (p:Int),.int .i64 q] 189)).alloc (.cells (madeCells (eC zeroE) (n*4)) 147)):=((Below.refl _ _).alloc (Nat.le_refl _) _).alloc (by simp) _
 have hlt:w.heap.size<w1.heap.size:=by omega
 have k0:=(hW2.cell (p:=⟨w.heap.size,0,none⟩) hlt).trans c0
 have k1:=(hW2.cell (p:=⟨w.heap.size,1,none⟩) hlt).trans c1
 have k2:=(hW2.cell (p:=⟨w.heap.size,2,none⟩) hlt).trans c2
 have k3:=(hW2.cell (p:=⟨w.heap.size,3,none⟩) hlt).trans c3
 have kf:∀ o,((w1.alloc (.cells #[.string t,.int .i64 (p:Int),.int .i64 q] 189)).alloc (.cells (madeCells (eC zeroE) (n*4)) 147)).frozen? ⟨w.heap.size,o,none⟩=false:=fun o=>(frozen_later hW2 hlt).trans (f0 o)
 have hO:=own_row (w1.alloc (.cells #[.string t,.int .i64 (p:Int),.int .i64 q] 189)) n hn
 rw[World.size_alloc] at hO
 have HH:=Lib.hid (And.intro (hbw.trans (hW2.mono hbw.size)) (And.intro hO (And.intro hz hlt)))
 clear hbw hW2 hO c0 c1 c2 c3 f0 hz hlt
 go_wp2_with fail
 go_region
 all_goals
  go_wp2
  refine bodyPost_ret (v:=.agg #[.string t,.int .i64 (p:Int),.int .i64 q,.slice (some ⟨w1.heap.size+1,0,none⟩) n n]) (by simp[results,Tryz.results102,go_sem,k0,k1,k2,k3]) rfl ⟨_,_,rfl,?_,?_⟩
  ·obtain⟨h1,h2,h3,h4⟩:=HH.out
   have hB:(w1.heap.size+1) ≥ w.heap.size+1:=by omega
   refine OwnE.mono (B:=w.heap.size+1) ?_ (by omega)
   exact OwnE.setCell (OwnE.setCell (OwnE.setCell (OwnE.setCell (OwnE.mono h2 hB) _ _ (Nat.lt_succ_self _)) _ _ (Nat.lt_succ_self _)) _ _ (Nat.lt_succ_self _)) _ _ (Nat.lt_succ_self _)
  ·obtain⟨h1,h2,h3,h4⟩:=HH.out
   exact(((h1.drew.setCell (p:=⟨w.heap.size,0,none⟩) (Nat.le_refl _) _).setCell (p:=⟨w.heap.size,1,none⟩) (Nat.le_refl _) _).setCell (p:=⟨w.heap.size,2,none⟩) (Nat.le_refl _) _).setCell (p:=⟨w.heap.size,3,none⟩) (Nat.le_refl _) _
set_option maxRecDepth 100000 in
set_option maxHeartbeats 2000000 in
theorem pbegun_2 (t:ByteArray) (n:Int) (p:Nat) (w:World) (hn:4096<n) (hget:∀ W,Calls Tryz.prog 180 #[.agg #[.string t,.int .i64 0,.int .i64 0]] W (GetEnd t n (p:Int) 0 W)):Calls Tryz.prog 102 #[.string t] w (BgEnd t (0,0,21) w):=by
 have HG:=Lib.hid hget
 have hd:decide (4096<n)=true:=by simp;omega
 clear hget hn
 go_enter Tryz.func102,Tryz.ntmps102
 go_wp2_with fail
 refine(HG.out _).mono ?_
 rintro y w1 ⟨rfl,hb⟩
 have hz:w.heap.size+2≤w1.heap.size:=by have:=hb.size;simp at this;omega
 have hbw:Below w.heap.size w w1:=Below.trans (by go_grown) (hb.mono (by simp;omega))
 have f0:∀ o,w1.frozen? ⟨w.heap.size,o,none⟩=false:=fun o=>((bcell hb).2 _ _ (by simp;omega)).trans (by simp[go_sem])
 have f1:∀ o,w1.frozen? ⟨w.heap.size+1,o,none⟩=false:=fun o=>((bcell hb).2 _ _ (by simp)).trans (by simp[go_sem])
 have c0:w1.cell? ⟨w.heap.size,0,none⟩=some (.string { data:=#[] }):=((bcell hb).1 _ _ (by simp;omega)).trans (by simp[go_sem])
 have c1:w1.cell? ⟨w.heap.size,1,none⟩=some (.int .i64 0):=((bcell hb).1 _ _ (by simp;omega)).trans (by simp[go_sem])
 have c2:w1.cell? ⟨w.heap.size,2,none⟩=some (.int .i64 0):=((bcell hb).1 _ _ (by simp;omega)).trans (by simp[go_sem])
 have c3:w1.cell? ⟨w.heap.size,3,none⟩=some (.slice none 0 0):=((bcell hb).1 _ _ (by simp;omega)).trans (by simp[go_sem])
 have e0:w1.cell? ⟨w.heap.size+1,0,none⟩=some (.string t):=((bcell hb).1 _ _ (by simp)).trans (by simp[go_sem])
 have e1:w1.cell? ⟨w.heap.size+1,1,none⟩=some (.int .i64 0):=((bcell hb).1 _ _ (by simp)).trans (by simp[go_sem])
 have e2:w1.cell? ⟨w.heap.size+1,2,none⟩=some (.int .i64 0):=((bcell hb).1 _ _ (by simp)).trans (by simp[go_sem])
 clear hb
 have hW2:Below w1.heap.size w1 (w1.alloc (.cells #[.string t,.int .i64 (p:Int),.int .i64 0] 189)):=(Below.refl _ _).alloc (Nat.le_refl _) _
 have hlt:w.heap.size<w1.heap.size:=by omega
 have hlt1:w.heap.size+1<w1.heap.size:=by omega
 have k0:=(hW2.cell (p:=⟨w.heap.size,0,none⟩) hlt).trans c0
 have k1:=(hW2.cell (p:=⟨w.heap.size,1,none⟩) hlt).trans c1
 have k2:=(hW2.cell (p:=⟨w.heap.size,2,none⟩) hlt).trans c2
 have k3:=(hW2.cell (p:=⟨w.heap.size,3,none⟩) hlt).trans c3
 have kf:∀ o,(w1.alloc (.cells #[.string t,.int .i64 (p:Int),.int .i64 0] 189)).frozen? ⟨w.heap.size,o,none⟩=false:=fun o=>(frozen_later hW2 hlt).trans (f0 o)
 have k4:=(hW2.cell (p:=⟨w.heap.size+1,0,none⟩) hlt1).trans e0
 have k5:=(hW2.cell (p:=⟨w.heap.size+1,1,none⟩) hlt1).trans e1
 have k6:=(hW2.cell (p:=⟨w.heap.size+1,2,none⟩) hlt1).trans e2
 have kg:∀ o,(w1.alloc (.cells #[.string t,.int .i64 (p:Int),.int .i64 0] 189)).frozen? ⟨w.heap.size+1,o,none⟩=false:=fun o=>(frozen_later hW2 hlt1).trans (f1 o)
 have HH:=Lib.hid (hbw.trans (hW2.mono hbw.size))
 clear hbw hW2 c0 c1 c2 c3 f0 f1 e0 e1 e2 hz hlt hlt1
 go_wp2_with fail
 refine bodyPost_ret (v:=.agg #[.string t,.int .i64 0,.int .i64 21,.slice none 0 0]) (by simp[results,Tryz.results102,go_sem,k0,k1,k2,k3]) rfl ⟨none,0,rfl,ownE_nil _ _ _,?_⟩
 exact((((HH.out.setCell (p:=⟨w.heap.size+1,2,none⟩) (Nat.le_succ _) _).setCell (p:=⟨w.heap.size,0,none⟩) (Nat.le_refl _) _).setCell (p:=⟨w.heap.size,1,none⟩) (Nat.le_refl _) _).setCell (p:=⟨w.heap.size,2,none⟩) (Nat.le_refl _) _).setCell (p:=⟨w.heap.size,3,none⟩) (Nat.le_refl _) _
theorem pbegun_any (t:ByteArray) (w:World) (hsz:t.size≤65536):Calls Tryz.prog 102 #[.string t] w (BgEnd t (bgD t.data.toList) w):=by
 have hmx:t.size≤maxLen:=by unfold maxLen;omega
 by_cases he:errV t.data.toList=0
 ·have hg:=fun W=>pgetL_yes t 0 W hmx (Nat.zero_le _) (by rw[List.drop_zero];exact he)
  rw[List.drop_zero,Nat.zero_add] at hg
  have hb:=valV_bd _ he
  by_cases h4:4096<valV t.data.toList
  ·have:bgD t.data.toList=(0,0,21):=by unfold bgD;rw[if_neg (fun h=>h he),if_pos h4]
   rw[this]
   exact pbegun_2 t _ _ w h4 hg
  ·have:bgD t.data.toList=((valV t.data.toList).toNat,lead 10 t.data.toList+1,0):=by unfold bgD;rw[if_neg (fun h=>h he),if_neg h4]
   rw[this]
   refine pbegun_3 t _ _ _ w (by omega) ?_
   rw[Int.toNat_of_nonneg hb.1]
   exact hg
 ·have:bgD t.data.toList=(0,0,errV t.data.toList):=by unfold bgD;rw[if_pos he]
  rw[this]
  exact pbegun_3 t 0 0 _ w (by omega) (fun W=>pgetL_no t 0 _ W hmx (Nat.zero_le _) (by rw[List.drop_zero]) he)
def fldN (c:Nat):Nat:=if c=0 then 0 else if c=1 then 3 else if c=2 then 2 else 1
def stvN (c:Nat) (y:Int):Value:=if c=1∨c=2 then .int .u32 y else .int .u64 y
theorem own_put {W:World} {B n cap g c k:Nat} {E:TypeId} {l:List En} {x:Int} (ho:OwnE W B E (.slice (some ⟨g,0,none⟩) n cap) l) (hl:l.length=n) (hk:k<n) (hc:c<4) (hw:wrgN l c k x=0) (hx:0≤x∧x≤18446744073709551615) :
  OwnE (W.setCell ⟨g,k*4+fldN c,none⟩ (stvN c (worN l c k x))) B E (.slice (some ⟨g,0,none⟩) n cap) (putN l c k x):=by
 have he:l[k]?=some (gE l k):=by
  unfold gE
  rw[List.getD_eq_getElem?_getD,List.getElem?_eq_getElem (by omega)]
  rfl
 subst hl
 have q:=fun j u=>(World.ownsRow.stored ho j u).1
 rcases(by omega:c=0∨c=1∨c=2∨c=3) with rfl|rfl|rfl|rfl
 ·have h:=q (k*4) (.int .u64 (worN l 0 k x))
  rw[flat4_set0 l k _ _ he] at h
  have e:worN l 0 k x=(putF l 0 k x).id:=by unfold worN;rw[if_pos rfl]
  rw[e] at h
  refine owne_conv (l:=putN l 0 k x) (by rw[← e] at h;exact h) (by rw[putN_len]) ?_
  unfold putN
  rw[put0]
  congr 2
 ·have hx2:x≤4294967295:=by
   rcases Int.lt_or_le 4294967295 x with h|h
   ·unfold wrgN at hw;simp[h] at hw
   ·exact h
  have h:=q (k*4+3) (.int .u32 (worN l 1 k x))
  rw[flat4_set3 l k _ _ he] at h
  have e:worN l 1 k x=x:=by unfold worN;simp
  refine owne_conv (l:=putN l 1 k x) h (by rw[putN_len]) ?_
  unfold putN
  rw[put1,e,Int.emod_eq_of_lt hx.1 (by omega)]
 ·have hx2:x≤4294967295:=by
   rcases Int.lt_or_le 4294967295 x with h|h
   ·unfold wrgN at hw;simp[h] at hw
   ·exact h
  have h:=q (k*4+2) (.int .u32 (worN l 2 k x))
  rw[flat4_set2 l k _ _ he] at h
  have e:worN l 2 k x=x:=by unfold worN;simp
  refine owne_conv (l:=putN l 2 k x) h (by rw[putN_len]) ?_
  unfold putN
  rw[put2,e,Int.emod_eq_of_lt hx.1 (by omega)]
 ·have h:=q (k*4+1) (.int .u64 (worN l 3 k x))
  rw[flat4_set1 l k _ _ he] at h
  have e:worN l 3 k x=(putF l 3 k x).off:=by unfold worN;rw[if_neg (by decide),if_pos rfl]
  rw[e] at h
  refine owne_conv (l:=putN l 3 k x) (by rw[← e] at h;exact h) (by rw[putN_len]) ?_
  unfold putN
  rw[put3]
  rfl
theorem own_bears {X Y:World} {B0 B BT:Nat} {E:TypeId} {v:Value} {l:List En} {row:Option Nat} (h:OwnE X B0 E v l) (hne:v.ownBlock≠some BT) (hg:X.grownBy Y row) (hr:∀ r,row=some r→r=BT∨(B≤r∧∃ o:Obj,X.heap[r]?=some o∧o.isCells=false)):OwnE Y B0 E v l:=by
 refine World.ownsRow.kept h hg ?_
 rcases h.2 with ⟨rfl,_⟩|⟨g,cap,cur,rfl,_,hgb,_⟩
 ·exact .inl rfl
 ·refine .inr fun e'=>?_
  rcases hr g e'.symm with rfl|⟨_,o,ho,hc⟩
  ·exact hne rfl
  ·rw[hgb] at ho;cases ho;cases hc
def DSt (w:World) (BT:Nat) (t:ByteArray) (n:Nat) (al:Option Addr) (cap:Nat) (Ds:List Nat) (l:List En) (a:Nat) (q:Int) (W:World):Prop :=
 TakAt W BT t (a:Int) q (.slice al n cap)∧OwnE W w.heap.size 147 (.slice al n cap) l∧Below w.heap.size w W∧MkAt Ds W∧Ds.Nodup∧(∀ D,D ∈ Ds→w.heap.size≤D)∧l.length=n∧MaysN l∧a≤t.size
def DFix (w:World) (BT:Nat) (t:ByteArray) (n:Nat) (al:Option Addr) (cap:Nat):Prop:=w.heap.size≤BT∧(Value.slice al n cap).ownBlock≠some BT∧n≤4096∧t.size≤65536
theorem DSt.later {w W W':World} {BT n cap a:Nat} {t:ByteArray} {al:Option Addr} {Ds:List Nat} {l:List En} {q:Int} (h:DSt w BT t n al cap Ds l a q W) (hb:Below W.heap.size W W'):DSt w BT t n al cap Ds l a q W':=by
 obtain⟨h1,h2,h3,h4,h5⟩:=h
 exact⟨h1.later hb,OwnE.below h2 hb,h3.trans (hb.mono h3.size),fun D hD=>(hb.block D (hlt_of (h4 D hD))).trans (h4 D hD),h5⟩
set_option maxRecDepth 100000 in
set_option maxHeartbeats 2000000 in
theorem col_range {nn:Nat} {g:Operand} {p q r s:Nat} {assign body:Code} {Q:Exit→Act→World→Prop} {a0:Act} (c:Nat) (hc:c<4) {w w1 W:World} {BT n cap a:Nat} {t:ByteArray} {al:Option Addr} {Ds:List Nat} {l:List En} {bad:Int}
  (hfix:DFix w BT t n al cap) (hst:DSt w BT t n al cap Ds l a bad w1) (hW:W=(w1.alloc (.cells #[.pointer (some ⟨BT,0,none⟩)] 287)).alloc (.cells #[.func (.func (wfN c)) (wbN c (.slice al n cap)) #[]] 206))
  (hg:a0.eval g=.func (.func 181) #[] #[.pointer (some ⟨w1.heap.size,0,none⟩),.pointer (some ⟨w1.heap.size+1,0,none⟩)])
  (hassign:∀ (lq:Nat) (x y:Value) (W':World) (K:Act→World→Prop),K { tmps:=(((a0.tmps.setIfInBounds p x).setIfInBounds q y).setIfInBounds r x).setIfInBounds s y,defers:=[] } W' →
   assign.wpIn (Fence.wide.inRound lq) (nn - 1 - 1) Tryz.prog (Exit.then K (fun _ _ _=>False)) { tmps:=(a0.tmps.setIfInBounds p x).setIfInBounds q y,defers:=[] } W')
  (hbody:∀ (lq k gb:Nat) (y:Int) (old:Value) (W':World) (R:World→Prop),k<n→al=some ⟨gb,0,none⟩→W'.cell? ⟨BT,3,none⟩=some (.slice al n cap)→W'.cell? ⟨gb,k*4+fldN c,none⟩=some old→(∀ o,W'.frozen? ⟨gb,o,none⟩=false) →
   0≤y→(c=1∨c=2→y≤4294967295)→R (W'.setCell ⟨gb,k*4+fldN c,none⟩ (stvN c y)) →
   body.wpIn (Fence.wide.inRound lq) (nn - 1 - 1) Tryz.prog (Exit.then (fun _ W''=>R W'') (fun _ _ _=>False)) { tmps:=(((a0.tmps.setIfInBounds p (.int .i64 (k:Int))).setIfInBounds q (.int .u64 y)).setIfInBounds r (.int .i64 (k:Int))).setIfInBounds s (.int .u64 y),defers:=[] } W')
  (hdone:∀ (D:Nat) (l':List En) (a':Nat) (bad':Int) (W':World),StepQ t.data.toList c n l a bad l' a' bad'→DSt w BT t n al cap (D :: Ds) l' a' bad' W'→Q .normal (markD D a0) W') :
  (Code.rangeFunc g #[p,q] assign body).wpIn Fence.wide nn Tryz.prog Q a0 W:=by
 obtain⟨hB,hne,hn,hsz⟩:=hfix
 have hb1:Below w1.heap.size w1 W:=by rw[hW];exact((Below.refl _ _).alloc (Nat.le_refl _) _).alloc (by simp) _
 have hs1:W.heap.size=w1.heap.size+2:=by rw[hW];simp
 have q1:W.cell? ⟨w1.heap.size,0,none⟩=some (.pointer (some ⟨BT,0,none⟩)):=by rw[hW];simp
 have q2:W.cell? ⟨w1.heap.size+1,0,none⟩=some (.func (.func (wfN c)) (wbN c (.slice al n cap)) #[]):=by rw[hW];simp
 have hstW:=hst.later hb1
 have hlt1:=hst.1.lt
 obtain⟨s1,s2,s3,s4,s5,s6,s7,s8,s9⟩:=hstW
 obtain⟨N,hN,hk,hke⟩:∃ N,N≤n∧(∀ k,k<N→errT t.data.toList c l a bad k=0)∧(N<n→errT t.data.toList c l a bad N≠0):=by
  by_cases hq:bad=0
  ·obtain⟨N,h1,h2,h3⟩:=first_q t.data.toList c l a n
   refine⟨N,h1,fun k hk=>?_,fun h=>?_⟩
   ·unfold errT;rw[if_neg (fun h=>h hq)];exact h2 k hk
   ·unfold errT;rw[if_neg (fun h=>h hq)];exact h3 h
  ·exact⟨0,Nat.zero_le _,fun k h=>by omega,fun _=>by unfold errT;rw[if_pos hq];exact hq⟩
 have hst2:=fun k (hkN:k≤N) (hk0:0<N)=>stq_keeps (t:=t.data.toList) (a:=a) hc s7 ((mays_ge s7).1 s8) (by simpa using s9) k (by omega) (fun j hj=>by
  have h0:=hk 0 hk0
  have hj':=hk j (by omega)
  by_cases hq:bad=0
  ·unfold errT at hj';rw[if_neg (fun h=>h hq)] at hj';exact hj'
  ·unfold errT at h0;rw[if_pos hq] at h0;exact absurd h0 hq)
 have hrow:∀ b,(Value.slice al n cap).ownBlock=some b→b<W.heap.size∧w.heap.size≤b:=fun b hb=>⟨(OwnE.lt s2 b hb).2,(OwnE.lt s2 b hb).1⟩
 have hrow1:∀ b,(Value.slice al n cap).ownBlock=some b→b<w1.heap.size:=fun b hb=>(OwnE.lt hst.2.1 b hb).2
 refine range_d2Bb (n:=nn) (val:=fun k=>.int .i64 (k:Int)) (va2:=fun k=>.int .u64 (worN (stq t.data.toList c l a k).1 c k (xq t.data.toList c l a k))) (r:=r) (s:=s) hg (enters_of Tryz.func181 (by kernel_rfl) rfl)
  (ptcol1_seq (wfN c) c n (wbN c (.slice al n cap)) al cap t l a bad w1.heap.size (w1.heap.size+1) BT N W (wfN_enters c) (fun X L k x h1 h2 h3 h4 h5=>wfN_any c hc _ L h3 X k x h1 (by omega) h5) hc s7 s8 hn hsz s9 hN hk hke q1 q2 s1 (by omega) (by omega))
  (Below.refl _ _) ?hT ?hV (fun k S W'=>(OwnE W' w.heap.size 147 (.slice al n cap) (stq t.data.toList c l a k).1∧Below w.heap.size w W'∧MkAt Ds W')∧∀ b,S b↔(Value.slice al n cap).ownBlock=some b) (fun _ _ _=>False) ?hI (fun _ _ _ _ _ h _ _=>h) ?hG
  (fun b=>(Value.slice al n cap).ownBlock=some b) ?hS0 ?h0 ?hZ ?hY ?assign ?body ?done (fun _ _ _ _ _ _ h _=>h.elim)
 case hT=>rintro b rfl;omega
 case hV=>rintro b (rfl|rfl|rfl) <;> omega
 case hI =>
  rintro⟨k,S⟩ X Y row ⟨⟨h1,h2,h3⟩,h4⟩ hgr hr
  refine⟨⟨own_bears h1 hne hgr hr,bears_belowBb (β:=Unit) (T:=fun b=>b=BT) (Nat.le_refl _) (B:=W.heap.size) (by have:=s3.size;omega) (fun b hb=>by rw[hb];exact hB) () X Y row h2 hgr hr,fun D hD=>?_⟩,h4⟩
  refine(hgr.block D (hlt_of (h3 D hD)) (fun e=>?_)).trans (h3 D hD)
  rcases hr D e.symm with h|h
  ·obtain⟨⟨c0,_⟩,_⟩:=s1
   have hDW:=s4 D hD
   rw[h] at hDW
   simp[World.cell?,hDW] at c0
  ·have:=hlt_of (s4 D hD);omega
 case hG =>
  rintro k S W' ⟨⟨h1,h2,h3⟩,h4⟩
  exact⟨h1.ensAt,fun b hb=>(OwnE.lt h1 b ((h4 b).1 hb)).2⟩
 case hS0 =>
  intro b hb
  refine⟨(hrow b hb).1,?_⟩
  rintro(h|h|h)
  ·have:=hrow1 b hb;omega
  ·have:=hrow1 b hb;omega
  ·rw[h] at hb;exact hne hb
 case h0=>exact⟨⟨s2,s3,s4⟩,fun b=>Iff.rfl⟩
 case hZ =>
  intro W' lq o o' hz hl ho hco
  refine TakAt.heap hz (World.putObj_heap_other (fun e=>?_))
  rw[← e] at hl
  omega
 case hY =>
  intro k W' lq o o' hz hl ho hco
  refine TakAt.heap hz (World.putObj_heap_other (fun e=>?_))
  rw[← e] at hl
  omega
 case assign=>exact fun lq k W' K hK=>hassign lq _ _ W' K hK
 case body =>
  rintro lq k S W' hlq ⟨⟨h1,h2,h3⟩,h4⟩ hy hkN
  obtain⟨p1,p2,p3⟩:=hst2 k (by omega) (by omega)
  have hek:=hk k hkN
  have hq0:bad=0:=by
   by_cases hq:bad=0
   ·exact hq
   ·unfold errT at hek;rw[if_pos hq] at hek;exact absurd hek hq
  unfold errT at hek
  rw[if_neg (fun h=>h hq0)] at hek
  obtain⟨e1,e2⟩:=errq_ok hek
  have hxb:=valV_bd _ e1
  change 0≤xq t.data.toList c l a k∧xq t.data.toList c l a k≤18446744073709551615 at hxb
  have hnx:(stq t.data.toList c l a (k+1)).1=putN (stq t.data.toList c l a k).1 c k (xq t.data.toList c l a k):=by rw[stq_succ]
  generalize xq t.data.toList c l a k=x at *
  generalize (stq t.data.toList c l a k).1=L at *
  obtain⟨gb,cap',hv,hg1,hg2,hle,hcm,hcl,hfr⟩:∃ gb cap',Value.slice al n cap=.slice (some ⟨gb,0,none⟩) L.length cap'∧w.heap.size≤gb∧gb<W'.heap.size∧L.length≤cap'∧cap'≤maxLen∧(∀ j,j<L.length*4→W'.cell? ⟨gb,j,none⟩=(flat4 L)[j]?)∧∀ j,W'.frozen? ⟨gb,j,none⟩=false:=by
   rcases h1.form with ⟨_,rfl⟩|h
   ·simp at p1;omega
   ·exact h
  obtain⟨rfl,_,rfl⟩:al=some ⟨gb,0,none⟩∧n=L.length∧cap=cap':=by simpa using hv
  have hfl:fldN c<4:=by unfold fldN;split;omega;split;omega;split <;> omega
  have hcell:∃ old,W'.cell? ⟨gb,k*4+fldN c,none⟩=some old:=by
   rw[hcl _ (by omega)]
   exact⟨_,List.getElem?_eq_getElem (by rw[flat4_len];omega)⟩
  obtain⟨old,hold⟩:=hcell
  have hw0:0≤worN L c k x∧(c=1∨c=2→worN L c k x≤4294967295):=by
   have hp:=put_may (x:=x) (i:=c*n+k) p1 (cn_lt hc (by omega)) p2 hxb
   obtain⟨d1,d2⟩:=cn_div (c:=c) (n:=n) (k:=k) (by omega)
   rw[d1,d2] at hp
   have hpk:=hp k (by omega)
   rw[gE_put _ _ _ _ _ (by omega),if_pos rfl] at hpk
   unfold MayN at hpk
   unfold worN
   rcases(by omega:c=0∨c=1∨c=2∨c=3) with rfl|rfl|rfl|rfl
   ·rw[if_pos rfl];exact⟨hpk.1.1,fun h=>by omega⟩
   ·rw[if_neg (by decide),if_neg (by decide)]
    refine⟨hxb.1,fun _=>?_⟩
    rcases Int.lt_or_le 4294967295 x with h|h
    ·unfold wrgN at e2;simp[h] at e2
    ·exact h
   ·rw[if_neg (by decide),if_neg (by decide)]
    refine⟨hxb.1,fun _=>?_⟩
    rcases Int.lt_or_le 4294967295 x with h|h
    ·unfold wrgN at e2;simp[h] at e2
    ·exact h
   ·rw[if_neg (by decide),if_pos rfl];exact⟨hpk.2.1.1,fun h=>by omega⟩
  have hput:=own_put h1 p1 (by omega) hc e2 hxb
  refine wpIn_mono (hbody lq k gb _ old W' (fun W''=>W''=W'.setCell ⟨gb,k*4+fldN c,none⟩ (stvN c (worN L c k x))) (by omega) rfl hy.2 hold hfr hw0.1 hw0.2 rfl) ?_
  rintro e a' W'' hp
  cases e with
  | normal =>
   subst hp
   refine⟨S,⟨⟨by rw[hnx];exact hput,h2.setCell (p:=⟨gb,k*4+fldN c,none⟩) hg1 _,fun D hD=>?_⟩,h4⟩,KeepsS.setCell S W' _ _ ((h4 gb).2 rfl)⟩
   have hDW:=h3 D hD
   refine(Below.heap_setCell W' _ _ D (fun e=>?_)).trans hDW
   dsimp only at e
   rw[e] at hDW
   simp[World.cell?,hDW] at hold
  | _=>exact hp.elim
 case done =>
  rintro D S W' hD hSD ⟨⟨h1,h2,h3⟩,h4⟩ hz hDW
  have hN0:bad≠0→N=0:=fun hq=>by
   rcases Nat.eq_zero_or_pos N with h|h
   ·exact h
   ·have h0:=hk 0 h
    unfold errT at h0;rw[if_pos hq] at h0;exact absurd h0 hq
  have hend:(stq t.data.toList c l a N).1.length=n∧(∀ j,j<n→MayN (gE (stq t.data.toList c l a N).1 j))∧(stq t.data.toList c l a N).2≤t.data.toList.length:=by
   rcases Nat.eq_zero_or_pos N with h|h
   ·rw[h];exact⟨s7,(mays_ge s7).1 s8,by simpa[stq] using s9⟩
   ·exact hst2 N (Nat.le_refl _) h
  refine hdone D (stq t.data.toList c l a N).1 (stq t.data.toList c l a N).2 (finQ N n (errT t.data.toList c l a bad N) bad) W' ?_ ⟨hz,h1,h2,?_,?_,?_,hend.1,(mays_ge hend.1).2 hend.2.1,by simpa using hend.2.2⟩
  ·by_cases hq:bad=0
   ·refine .inr ⟨hq,N,hN,fun k hk'=>?_,fun h=>?_,rfl,rfl,?_⟩
    ·have:=hk k hk';unfold errT at this;rw[if_neg (fun h=>h hq)] at this;exact this
    ·have:=hke h;unfold errT at this;rw[if_neg (fun h=>h hq)] at this;exact this
    ·have he:errT t.data.toList c l a bad N=errq t.data.toList c l a N:=by unfold errT;rw[if_neg (fun h=>h hq)]
     unfold finQ;rw[he,hq]
   ·refine .inl ⟨hq,by rw[hN0 hq];rfl,by rw[hN0 hq];rfl,?_⟩
    unfold finQ errT
    rw[if_pos hq]
    split <;> rfl
  ·intro E hE
   rcases List.mem_cons.1 hE with rfl|hE
   ·exact hDW
   ·exact h3 E hE
  ·refine List.nodup_cons.2 ⟨fun hE=>?_,s5⟩
   have:=hlt_of (s4 D hE);omega
  ·intro E hE
   rcases List.mem_cons.1 hE with rfl|hE
   ·have:=s3.size;omega
   ·exact s6 E hE
theorem dec_ans (t:List UInt8) (h:t.length≤65536):decD t=zend (ansQ t (bgD t).1 (4*(bgD t).1) 0 (zerosE (bgD t).1) (bgD t).2.1 (bgD t).2.2) t.length:=by
 by_cases he:errV t=0
 ·by_cases h4:4096<valV t
  ·have hb:bgD t=(0,0,21):=by unfold bgD;rw[if_neg (fun h=>h he),if_pos h4]
   have hd:decD t=([],0,21):=by unfold decD;rw[if_neg (by omega),if_neg (fun h=>h he),if_pos h4]
   rw[hb,hd]
   simp[ansQ,zend]
  ·have hb:bgD t=((valV t).toNat,lead 10 t+1,0):=by unfold bgD;rw[if_neg (fun h=>h he),if_neg h4]
   rw[hb]
   unfold decD
   rw[if_neg (by omega),if_neg (fun h=>h he),if_neg h4]
   have e:ansQ t (valV t).toNat (4*(valV t).toNat) 0 (zerosE (valV t).toNat) (lead 10 t+1) 0=goD t (valV t).toNat (4*(valV t).toNat) 0 (zerosE (valV t).toNat) (lead 10 t+1):=by unfold ansQ;rw[if_neg (fun h=>h rfl),Nat.zero_mul]
   rw[e]
   rfl
 ·have hb:bgD t=(0,0,errV t):=by unfold bgD;rw[if_pos he]
  have hd:decD t=([],0,errV t):=by unfold decD;rw[if_neg (by omega),if_pos he]
  rw[hb,hd]
  simp[ansQ,zend,he]
def finD (t:ByteArray) (l:List En) (a:Nat) (q:Int):List En × Nat × Int:=zend (if q≠0 then ([],a,q) else (l,a,0)) t.size
theorem dec_fin {t:ByteArray} (hsz:t.size≤65536) {n:Nat} {l1 l2 l3 l4:List En} {a1 a2 a3 a4:Nat} {q1 q2 q3 q4:Int} {B:Nat × Nat × Int} (hB:bgD t.data.toList=B)
  (h1:StepQ t.data.toList 0 B.1 (zerosE B.1) B.2.1 B.2.2 l1 a1 q1) (h2:StepQ t.data.toList 1 B.1 l1 a1 q1 l2 a2 q2) (h3:StepQ t.data.toList 2 B.1 l2 a2 q2 l3 a3 q3) (h4:StepQ t.data.toList 3 B.1 l3 a3 q3 l4 a4 q4):decD t.data.toList=finD t l4 a4 q4:=by
 have hl:t.data.toList.length=t.size:=by simp
 rw[dec_ans _ (by omega),hB,show 4*B.1=B.1+(B.1+(B.1+(B.1+0))) from by omega,ansQ_step h1,ansQ_step h2,ansQ_step h3,ansQ_step h4,hl]
 unfold finD ansQ
 by_cases hq:q4=0
 ·rw[if_neg (fun h=>h hq),if_neg (fun h=>h hq)];rfl
 ·rw[if_pos hq,if_pos hq]
theorem tak_made (w1:World) (t:ByteArray) (a q:Int) (v:Value) (T:TypeId):TakAt (w1.alloc (.cells #[.string t,.int .i64 a,.int .i64 q,v] T)) w1.heap.size t a q v:=by
 refine⟨⟨?_,?_,?_,fun o=>?_⟩,?_⟩
 ·rw[World.cell?_alloc_mark];rfl
 ·rw[World.cell?_alloc_mark];rfl
 ·rw[World.cell?_alloc_mark];rfl
 ·simp only[World.frozen?]
  rw[heap_alloc_new]
  simp
 ·rw[World.cell?_alloc_mark];rfl
theorem zeros_mays (n:Nat):MaysN (zerosE n):=(mays_ge (by simp[zerosE])).2 (zeros_may n)
theorem endV_bad (t:ByteArray) (a:Nat) (q:Int) (h:q≠0):endV t (a:Int) q=q:=by
 unfold endV firstOf
 rw[if_neg h]
theorem endV_left (t:ByteArray) (a:Nat) (h:a<t.size):endV t (a:Int) 0=4:=by
 have h1:placedV t (a:Int)=0:=by unfold placedV;rw[if_pos (by omega)]
 have h2:spentV t (a:Int)=4:=by unfold spentV;rw[if_pos (by omega)]
 simp[endV,firstOf,h1,h2]
theorem endV_ok (t:ByteArray) (a:Nat) (h:a=t.size):endV t (a:Int) 0=0:=by
 have h1:placedV t (a:Int)=0:=by unfold placedV;rw[if_pos (by omega)]
 have h2:spentV t (a:Int)=0:=by unfold spentV;rw[if_neg (by omega)]
 simp[endV,firstOf,h1,h2]
theorem dec_leaves {nn:Nat} {tmps:Array Value} {Ds:List Nat} {w W:World} {v':Value} {DD:List En × Nat × Int} (hm:MkAt Ds W) (hn:Ds.Nodup) (hge:∀ D,D ∈ Ds→w.heap.size≤D) (ho:OwnE W w.heap.size 147 v' DD.1) (hb:Below w.heap.size w W)
  (h2:tmps.getD 2 undef=v') (h3:tmps.getD 3 undef=.int .i64 (DD.2.1:Int)) (h4:tmps.getD 4 undef=.int .i64 DD.2.2):LeavesInM Fence.wide nn Tryz.prog Tryz.f44 tmps (DecEnd DD 147 w) (mksD Ds) .returning W:=by
 refine leaves_marks (fun W=>OwnE W w.heap.size 147 v' DD.1∧Below w.heap.size w W) Ds W hm hn ⟨ho,hb⟩ (fun X D hD hXD hp=>⟨ownsRow_putObj hp.1 _ hXD rfl,?_⟩) ?_
 ·exact(bears_belowBb (β:=Unit) (T:=fun _=>False) (Nat.le_refl _) (B:=w.heap.size) (Nat.le_refl _) (fun _ h=>h.elim)).put (s:=()) hp.2 _ (hge D hD) hXD rfl
 ·rintro W' ⟨h5,h6⟩
  refine⟨_,results_tmp3 rfl _ _ _,v',?_,h5,h6⟩
  rw[h2,h3,h4]
theorem mk_later {Ds:List Nat} {W W':World} (h:MkAt Ds W) (hb:Below W.heap.size W W'):MkAt Ds W':=fun D hD=>(hb.block D (hlt_of (h D hD))).trans (h D hD)
attribute [local go_sem] Oper.semAt_some
set_option maxRecDepth 100000 in
set_option maxHeartbeats 8000000 in
theorem pdecD_4 (t:ByteArray) (w:World) (hsz:t.size≤65536):Calls Tryz.prog 44 #[.string t] w (DecEnd (decD t.data.toList) 147 w):=by
 have hd:decide (65536<(t.size:Int))=false:=by simp;omega
 have hd2:decide (65536<t.size)=false:=by simp;omega
 have HBG:=Lib.hid (pbegun_any t w hsz)
 have HFN:=Lib.hid (fun l1 l2 l3 l4 a1 a2 a3 a4 q1 q2 q3 q4 h1 h2 h3 h4=>dec_fin (t:=t) (n:=0) hsz (l1:=l1) (l2:=l2) (l3:=l3) (l4:=l4) (a1:=a1) (a2:=a2) (a3:=a3) (a4:=a4) (q1:=q1) (q2:=q2) (q3:=q3) (q4:=q4) rfl h1 h2 h3 h4)
 have hb3:(bgD t.data.toList).1≤4096∧(bgD t.data.toList).2.1≤t.size:=by
  unfold bgD
  by_cases he:errV t.data.toList=0
  ·rw[if_neg (fun h=>h he)]
   split
   ·exact⟨Nat.zero_le _,Nat.zero_le _⟩
   ·refine⟨by have:=valV_bd _ he;simp only;omega,?_⟩
    have:=adv_le t 0 (Nat.zero_le _) (by rw[List.drop_zero];exact he)
    rw[List.drop_zero] at this
    simp only
    omega
  ·rw[if_pos he];exact⟨Nat.zero_le _,Nat.zero_le _⟩
 generalize decD t.data.toList=DD at *
 obtain⟨BB,hBB⟩:∃ BB,bgD t.data.toList=BB:=⟨_,rfl⟩
 rw[hBB] at HBG HFN hb3
 obtain⟨n,a0,q0⟩:=BB
 dsimp only at HBG HFN hb3
 have HSZ:=Lib.hid (And.intro hsz hb3)
 clear hBB hsz hb3
 refine(callsIn_wide (n:=9)).1 ?_
 refine callsIn_of_wp_marks Tryz.func44 rfl trivial ?_ rfl
 simp only[Tryz.ntmps44,List.size_toArray,List.length_cons,List.length_nil,Nat.reduceAdd,Nat.reduceSub,Array.replicate_succ,Array.replicate_zero,List.push_toArray,List.append_toArray,List.nil_append,List.cons_append]
 gi_wp2
 refine⟨trivial,(callsIn_wide.2 HBG.out).mono ?_⟩
 rintro x w1 ⟨al,cap,rfl,ho,hb⟩
 dsimp only at ho ⊢
 have hba:Below w1.heap.size w1 (w1.alloc (.cells #[.string t,.int .i64 (a0:Int),.int .i64 q0,.slice al n cap] 201)):=(Below.refl _ _).alloc (Nat.le_refl _) _
 have hfix:DFix w w1.heap.size t n al cap:=⟨hb.size,fun h=>by have:=(OwnE.lt ho _ h).2;omega,HSZ.out.2.1,HSZ.out.1⟩
 have hst:DSt w w1.heap.size t n al cap [] (zerosE n) a0 q0 (w1.alloc (.cells #[.string t,.int .i64 (a0:Int),.int .i64 q0,.slice al n cap] 201)) :=
  ⟨tak_made _ _ _ _ _ _,OwnE.below ho hba,hb.trans (hba.mono hb.size),fun D h=>by simp at h,List.nodup_nil,fun D h=>by simp at h,by simp[zerosE],zeros_mays n,HSZ.out.2.2⟩
 have HFX:=Lib.hid hfix
 obtain⟨W0,hW0⟩:∃ W0,w1.alloc (.cells #[.string t,.int .i64 (a0:Int),.int .i64 q0,.slice al n cap] 201)=W0:=⟨_,rfl⟩
 rw[hW0] at hst
 have HS0:=Lib.hid hst
 obtain⟨⟨⟨hc0,hc1,hc2,_⟩,hc3⟩,_⟩:=hst
 clear ho hb hba hfix
 gi_wp2
 refine⟨trivial,(callsIn_wide.2 (ptcol_any w1.heap.size 104 #[.slice al n cap] _)).mono ?_⟩
 rintro x V0 ⟨rfl,hV0⟩
 have HV0:=Lib.hid hV0
 gi_wp2
 rw[← hV0]
 clear hV0 hc0 hc1 hc2 hc3 hW0
 refine col_range (nn:=9) (r:=6) (s:=7) 0 (by decide) HFX.out HS0.out HV0.out rfl ?as0 ?bo0 ?do0
 case as0 =>
  intro lq x y W' K hK
  simp only[List.setIfInBounds_toArray,List.set_cons_zero,List.set_cons_succ] at hK ⊢
  gi_wp2
  exact hK
 case bo0 =>
  intro lq k gb y old W' R hk hal h3 hold hfr y0 y1 hR
  subst hal
  have hf:fldN 0=0:=rfl
  have hs:stvN 0 y=.int .u64 y:=rfl
  rw[hs,hf] at hR
  rw[hf] at hold
  rw[Nat.add_zero] at hold hR
  have hki:(k:Int)<(n:Int):=by omega
  have hkn:k<n:=hk
  have HR:=Lib.hid hR
  clear hR hf hs y1
  simp only[List.setIfInBounds_toArray,List.set_cons_zero,List.set_cons_succ]
  gi_wp2
  exact HR.out
 case do0 =>
  intro D1 l1 a1 q1 W1 hq hst
  have HS1:=Lib.hid hst
  have HQ1:=Lib.hid hq
  obtain⟨⟨⟨hc0,hc1,hc2,_⟩,hc3⟩,_⟩:=hst
  clear hq
  gi_wp2
  refine⟨trivial,(callsIn_wide.2 (ptcol_any w1.heap.size 105 #[] _)).mono ?_⟩
  rintro x V1 ⟨rfl,hV1⟩
  have HV1:=Lib.hid hV1
  gi_wp2
  rw[← hV1]
  clear hV1 hc0 hc1 hc2 hc3
  refine col_range (nn:=9) (r:=8) (s:=9) 1 (by decide) HFX.out HS1.out HV1.out rfl ?as1 ?bo1 ?do1
  case as1 =>
   intro lq x y W' K hK
   simp only[List.setIfInBounds_toArray,List.set_cons_zero,List.set_cons_succ] at hK ⊢
   gi_wp2
   exact hK
  case bo1 =>
   intro lq k gb y old W' R hk hal h3 hold hfr y0 y1 hR
   subst hal
   have hf:fldN 1=3:=rfl
   have hs:stvN 1 y=.int .u32 y:=rfl
   rw[hs,hf] at hR
   rw[hf] at hold
   have hki:(k:Int)<(n:Int):=by omega
   have hkn:k<n:=hk
   have hwp:IntKind.u32.wrap y=y:=by have:=y1 (by omega);rw[wrap_u32'];omega
   have HR:=Lib.hid hR
   clear hR hf hs y1
   simp only[List.setIfInBounds_toArray,List.set_cons_zero,List.set_cons_succ]
   gi_wp2
   exact HR.out
  case do1 =>
   intro D2 l2 a2 q2 W2 hq hst
   have HS2:=Lib.hid hst
   have HQ2:=Lib.hid hq
   obtain⟨⟨⟨hc0,hc1,hc2,_⟩,hc3⟩,_⟩:=hst
   clear hq
   gi_wp2
   refine⟨trivial,(callsIn_wide.2 (ptcol_any w1.heap.size 105 #[] _)).mono ?_⟩
   rintro x V2 ⟨rfl,hV2⟩
   have HV2:=Lib.hid hV2
   gi_wp2
   rw[← hV2]
   clear hV2 hc0 hc1 hc2 hc3
   refine col_range (nn:=9) (r:=10) (s:=11) 2 (by decide) HFX.out HS2.out HV2.out rfl ?as2 ?bo2 ?do2
   case as2 =>
    intro lq x y W' K hK
    simp only[List.setIfInBounds_toArray,List.set_cons_zero,List.set_cons_succ] at hK ⊢
    gi_wp2
    exact hK
   case bo2 =>
    intro lq k gb y old W' R hk hal h3 hold hfr y0 y1 hR
    subst hal
    have hf:fldN 2=2:=rfl
    have hs:stvN 2 y=.int .u32 y:=rfl
    rw[hs,hf] at hR
    rw[hf] at hold
    have hki:(k:Int)<(n:Int):=by omega
    have hkn:k<n:=hk
    have hwp:IntKind.u32.wrap y=y:=by have:=y1 (by omega);rw[wrap_u32'];omega
    have HR:=Lib.hid hR
    clear hR hf hs y1
    simp only[List.setIfInBounds_toArray,List.set_cons_zero,List.set_cons_succ]
    gi_wp2
    exact HR.out
   case do2 =>
    intro D3 l3 a3 q3 W3 hq hst
    have HS3:=Lib.hid hst
    have HQ3:=Lib.hid hq
    obtain⟨⟨⟨hc0,hc1,hc2,_⟩,hc3⟩,_⟩:=hst
    clear hq
    gi_wp2
    refine⟨trivial,(callsIn_wide.2 (ptcol_any w1.heap.size 106 #[.slice al n cap] _)).mono ?_⟩
    rintro x V3 ⟨rfl,hV3⟩
    have HV3:=Lib.hid hV3
    gi_wp2
    rw[← hV3]
    clear hV3 hc0 hc1 hc2 hc3
    refine col_range (nn:=9) (r:=12) (s:=13) 3 (by decide) HFX.out HS3.out HV3.out rfl ?as3 ?bo3 ?do3
    case as3 =>
     intro lq x y W' K hK
     simp only[List.setIfInBounds_toArray,List.set_cons_zero,List.set_cons_succ] at hK ⊢
     gi_wp2
     exact hK
    case bo3 =>
     intro lq k gb y old W' R hk hal h3 hold hfr y0 y1 hR
     subst hal
     have hf:fldN 3=1:=rfl
     have hs:stvN 3 y=.int .u64 y:=rfl
     rw[hs,hf] at hR
     rw[hf] at hold
     have hki:(k:Int)<(n:Int):=by omega
     have hkn:k<n:=hk
     have HR:=Lib.hid hR
     clear hR hf hs y1
     simp only[List.setIfInBounds_toArray,List.set_cons_zero,List.set_cons_succ]
     gi_wp2
     exact HR.out
    case do3 =>
     intro D4 l4 a4 q4 W4 hq hst
     have HS4:=Lib.hid hst
     have HQ4:=Lib.hid hq
     obtain⟨⟨⟨hc0,hc1,hc2,_⟩,hc3⟩,_⟩:=hst
     clear hq
     gi_wp2
     have hfin:=HFN.out _ _ _ _ _ _ _ _ _ _ _ _ HQ1.out HQ2.out HQ3.out HQ4.out
     have HFI:=Lib.hid hfin
     have h4:=HS4.out
     have hEnd:=Lib.hid (end_anyBb t a4 q4 W4)
     clear hfin hc0 hc1 hc2 hc3
     obtain⟨f1,f2,f3,f4,f5,f6,f7,f8,f9⟩:=h4
     have HOW:=Lib.hid (And.intro f2 (And.intro f3 (And.intro f4 (And.intro f5 (And.intro f6 (And.intro f7 (And.intro f8 f9)))))))
     have HTK:=Lib.hid f1
     clear f1 f2 f3 f4 f5 f6 f7 f8 f9
     by_cases hq4:q4=0
     ·subst hq4
      by_cases ha4:a4<t.size
      ·rw[endV_left t a4 ha4] at hEnd
       have hDD:DD=([],a4,4):=by rw[HFI.out];unfold finD zend;simp[ha4]
       refine⟨trivial,(callsIn_wide.2 hEnd.out).mono ?_⟩
       rintro x W5 ⟨rfl,hb5⟩
       obtain⟨⟨hc0,hc1,hc2,_⟩,hc3⟩:=HTK.out.later hb5
       have HB5:=Lib.hid hb5
       subst hDD
       clear hb5 hEnd
       gi_wp2
       gi_region
       all_goals
        gi_wp2
        refine dec_leaves (Ds:=[D4,D3,D2,D1]) (mk_later HOW.out.2.2.1 (HB5.out.trans (Below.drew (Below.refl _ _)))) HOW.out.2.2.2.1 HOW.out.2.2.2.2.1 (ownE_nil _ _ _) (HOW.out.2.1.trans (((HB5.out.trans (Below.drew (Below.refl _ _)))).mono HOW.out.2.1.size)) rfl rfl rfl
      ·have hae:a4=t.size:=by have:=HOW.out.2.2.2.2.2.2.2;omega
       rw[endV_ok t a4 hae] at hEnd
       have hDD:DD=if rowN l4≠0 then ([],t.size,rowN l4) else (l4,t.size,0):=by rw[HFI.out];unfold finD zend;simp[hae]
       refine⟨trivial,(callsIn_wide.2 hEnd.out).mono ?_⟩
       rintro x W5 ⟨rfl,hb5⟩
       obtain⟨⟨hc0,hc1,hc2,_⟩,hc3⟩:=HTK.out.later hb5
       have HB5:=Lib.hid hb5
       have HRow:=Lib.hid (prow_any (.slice al n cap) l4 W5 ((OwnE.below HOW.out.1 hb5).ensAt) HOW.out.2.2.2.2.2.2.1)
       clear hb5 hEnd hae ha4
       by_cases hr:rowN l4=0
       ·rw[if_neg (fun h=>h hr)] at hDD
        rw[hr] at HRow
        subst hDD
        clear hr
        gi_wp2
        refine⟨trivial,(callsIn_wide.2 HRow.out).mono ?_⟩
        rintro x W6 ⟨rfl,hb6⟩
        have HB6:=Lib.hid hb6
        have hc3:=ecell_later hb6 hc3
        clear hb6 HRow
        gi_wp2
        refine dec_leaves (Ds:=[D4,D3,D2,D1]) (mk_later HOW.out.2.2.1 (HB5.out.trans (HB6.out.mono HB5.out.size))) HOW.out.2.2.2.1 HOW.out.2.2.2.2.1 (OwnE.below HOW.out.1 (HB5.out.trans (HB6.out.mono HB5.out.size))) (HOW.out.2.1.trans (((HB5.out.trans (HB6.out.mono HB5.out.size))).mono HOW.out.2.1.size)) rfl rfl rfl
       ·rw[if_pos hr] at hDD
        have hne:(rowN l4 == 0)=false:=by simpa using hr
        generalize rowN l4=r4 at *
        subst hDD
        clear hr
        gi_wp2
        refine⟨trivial,(callsIn_wide.2 HRow.out).mono ?_⟩
        rintro x W6 ⟨rfl,hb6⟩
        have HB6:=Lib.hid hb6
        have hc3:=ecell_later hb6 hc3
        clear hb6 HRow
        gi_wp2
        refine dec_leaves (Ds:=[D4,D3,D2,D1]) (mk_later HOW.out.2.2.1 (HB5.out.trans (HB6.out.mono HB5.out.size))) HOW.out.2.2.2.1 HOW.out.2.2.2.2.1 (ownE_nil _ _ _) (HOW.out.2.1.trans (((HB5.out.trans (HB6.out.mono HB5.out.size))).mono HOW.out.2.1.size)) rfl rfl rfl
     ·rw[endV_bad t a4 q4 hq4] at hEnd
      have hDD:DD=([],a4,q4):=by rw[HFI.out];unfold finD zend;simp[hq4]
      have hne:(q4 == 0)=false:=by simpa using hq4
      refine⟨trivial,(callsIn_wide.2 hEnd.out).mono ?_⟩
      rintro x W5 ⟨rfl,hb5⟩
      obtain⟨⟨hc0,hc1,hc2,_⟩,hc3⟩:=HTK.out.later hb5
      have HB5:=Lib.hid hb5
      subst hDD
      clear hb5 hEnd hq4
      gi_wp2
      gi_region
      all_goals
       gi_wp2
       refine dec_leaves (Ds:=[D4,D3,D2,D1]) (mk_later HOW.out.2.2.1 (HB5.out.trans (Below.drew (Below.refl _ _)))) HOW.out.2.2.2.1 HOW.out.2.2.2.2.1 (ownE_nil _ _ _) (HOW.out.2.1.trans (((HB5.out.trans (Below.drew (Below.refl _ _)))).mono HOW.out.2.1.size)) rfl rfl rfl
end Go.Proofs.YtjkgkmmkehnggaaGreatDoor
namespace Go.Proofs.YtjkgkmmkehnggaaGreatDoor
set_option linter.unusedVariables false
set_option linter.unusedSimpArgs false
open Go.RowKit Go.Shelf
set_option maxRecDepth 20000
theorem pdecD_any (t:ByteArray) (w:World) (hm:t.size≤maxLen):Calls Tryz.prog 44 #[.string t] w (DecEnd (decD t.data.toList) 147 w):=by
 by_cases h1:65536<t.size
 ·have hl:t.data.toList.length=t.size:=by simp
  have hD:decD t.data.toList=([],0,5):=by unfold decD;rw[if_pos (by rw[hl];exact h1)]
  rw[hD]
  have hd:decide (65536<(t.size:Int))=true:=by simp;omega
  have hd2:decide (65536<t.size)=true:=by simp;omega
  clear h1 hl hD
  go_enter Tryz.func44,Tryz.ntmps44
  go_wp2_with fail
  go_ret3
  exact⟨_,rfl,ownE_nil _ _ _,Below.refl _ _⟩
 ·exact pdecD_4 t w (by omega)
theorem decD_few (t:List UInt8):(decD t).1.length≤4096:=by
 by_cases h:(decD t).2.2=0
 ·exact rowN_len (decD_back t h).1
 ·rw[(decD_bad t).1 h];exact Nat.zero_le _
end Go.Proofs.YtjkgkmmkehnggaaGreatDoor
namespace Go.Proofs.YtjkgkmmkehnggaaGreatDoor
set_option linter.unusedVariables false
set_option linter.unusedSimpArgs false
open Go.RowKit
set_option maxRecDepth 20000
theorem pinfoRe:(Tryz.prog.info? 147).map (fun i=>(i.zero,i.size,i.bytes))=some (some (.agg #[.int .u64 0,.int .u64 0,.int .u32 0,.int .u32 0]),4,24):=by kernel_rfl
end Go.Proofs.YtjkgkmmkehnggaaGreatDoor
