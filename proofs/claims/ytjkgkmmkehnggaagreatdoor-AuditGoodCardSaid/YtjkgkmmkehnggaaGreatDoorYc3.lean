/- cMN cYb cYe. -/
import Derived.Test.YtjkgkmmkehnggaaGreatDoorYs
import Derived.Test.YtjkgkmmkehnggaaGreatDoorYc2
namespace Go.Proofs.YtjkgkmmkehnggaaGreatDoor
set_option linter.unusedVariables false
set_option linter.unusedSimpArgs false
open Go.RowKit
set_option maxRecDepth 20000
def xbp (w:World) (ps:Nat→Addr) (val:Nat→Value):Nat→World
 | 0=>w
 | k+1=>(xbp w ps val k).setCell (ps k) (val k)
theorem xdP (w:World) (ps:Nat→Addr) (val:Nat→Value) (k:Nat):(xbp w ps val k).heap.size=w.heap.size:=by
 induction k with
 | zero=>rfl
 | succ k ih=>rw[xbp,World.size_setCell,ih]
theorem xdO (w:World) (ps:Nat→Addr) (val:Nat→Value) (k:Nat) (a:Addr) (h:∀ i,i<k→a.block≠(ps i).block):(xbp w ps val k).cell? a=w.cell? a:=by
 induction k with
 | zero=>rfl
 | succ k ih=>rw[xbp,xb6 _ (h k (by omega)),ih (fun i hi=>h i (by omega))]
theorem xfq (w:World) (ps:Nat→Addr) (val:Nat→Value) (k b:Nat) (h:∀ i,i<k→b≠(ps i).block):(xbp w ps val k).heap[b]?=w.heap[b]?:=by
 induction k with
 | zero=>rfl
 | succ k ih=>rw[xbp,Below.heap_setCell _ _ _ _ (h k (by omega)),ih (fun i hi=>h i (by omega))]
def xcE (w:World) (a:Addr):Prop:=(∃ v,w.cell? a=some v)∧w.frozen? a=false
theorem xcE.setCell {w:World} {a p:Addr} {v:Value} (h:xcE w a):xcE (w.setCell p v) a:=by
 obtain⟨⟨u,h1⟩,h2⟩:=h
 refine⟨?_,by rw[World.frozen?_setCell];exact h2⟩
 by_cases e:a=p
 ·subst e
  exact⟨v,World.cell?_setCell_same _ _ _ h1⟩
 ·exact⟨u,by rw[World.cell?_setCell_other _ _ _ _ (fun e2=>e e2.symm)];exact h1⟩
theorem xdS (w:World) (ps:Nat→Addr) (val:Nat→Value) (k:Nat) (a:Addr) (h:xcE w a):xcE (xbp w ps val k) a:=by
 induction k with
 | zero=>exact h
 | succ k ih=>exact ih.setCell
theorem xcE.below {B:Nat} {w w':World} {a:Addr} (h:xcE w a) (hb:Below B w w') (hB:a.block<B):xcE w' a:=by
 obtain⟨⟨u,h1⟩,h2⟩:=h
 refine⟨⟨u,(hb.cell hB).trans h1⟩,?_⟩
 unfold World.frozen? at h2 ⊢
 rw[hb.block _ hB];exact h2
theorem xdH {B:Nat} {a c:World} {p:Addr} {v:Value} (h:Below B a c):Below B (a.setCell p v) (c.setCell p v):=by
 refine⟨h.os,h.tape,h.output,by rw[World.size_setCell,World.size_setCell];exact h.size,fun k hk=>?_⟩
 have:=h.block k hk
 unfold World.setCell
 simp only[Array.getElem?_modify]
 rw[this]
def xk2 (w:World) (v:Value) (ps:Nat→Addr) (n:Nat):Prop :=
 ∃ b cap,v=.slice (some ⟨b,0,none⟩) n cap∧n≤cap∧cap≤maxLen∧b<w.heap.size∧∀ i,i<n→w.cell? ⟨b,i,none⟩=some (.pointer (some (ps i)))∧b≠(ps i).block∧(ps i).spot=none
def xiy (w:World) (t:ByteArray) (q:Nat) (ps:Nat→Addr) (val:Nat→Value) (n:Nat) (e:Ending) (w':World):Prop :=
 e=.returned (.agg #[.string t,.int .i64 q,.int .i64 0])∧Below w.heap.size (xbp w ps val n) w'
def xaJ (w:World) (b:Nat) (t:ByteArray) (q:Int):Prop:=w.heap[b]?=some (.cells #[.string t,.int .i64 q,.int .i64 0] 189 (0,0))
theorem xaJ.lt {w:World} {b:Nat} {t:ByteArray} {q:Int} (h:xaJ w b t q):b<w.heap.size:=by
 rcases Nat.lt_or_ge b w.heap.size with h'|h'
 ·exact h'
 ·unfold xaJ at h;rw[Array.getElem?_eq_none h'] at h;cases h
theorem xaJ.later {w w':World} {b:Nat} {t:ByteArray} {q:Int} (h:xaJ w b t q) (hb:Below w.heap.size w w'):xaJ w' b t q:=(hb.block b h.lt).trans h
theorem xaJ.cells {w:World} {b:Nat} {t:ByteArray} {q:Int} (h:xaJ w b t q):w.cell? ⟨b,0,none⟩=some (.string t)∧w.cell? ⟨b,1,none⟩=some (.int .i64 q)∧w.cell? ⟨b,2,none⟩=some (.int .i64 0)∧∀ o,w.frozen? ⟨b,o,none⟩=false:=by
 unfold xaJ at h
 refine⟨xag h 0,xag h 1,xag h 2,fun o=>by simp[World.frozen?,h]⟩
theorem xaJ.apart {w:World} {b:Nat} {t:ByteArray} {q:Int} {p:Addr} {v:Value} (h:xaJ w b t q) (hp:b≠p.block):xaJ (w.setCell p v) b t q:=(Below.heap_setCell _ _ _ _ hp).trans h
theorem xaJ.on {w:World} {b:Nat} {t:ByteArray} {q r:Int} (h:xaJ w b t q):xaJ (((w.setCell ⟨b,0,none⟩ (.string t)).setCell ⟨b,1,none⟩ (.int .i64 r)).setCell ⟨b,2,none⟩ (.int .i64 0)) b t r :=
 xa4 (i:=2) (xa4 (i:=1) (xa4 (i:=0) h _) _) _
set_option maxRecDepth 20000 in
theorem xsC (t:ByteArray) (p0 m:Nat) (v:Value) (ps:Nat→Addr) (w:World) (hm:t.size≤maxLen) (hv:xk2 w v ps m) (hp:∀ i,i<m→xcE w (ps i)∧(ps i).block<w.heap.size) (hs:p0+8*m≤t.size) :
  Calls Tryz.prog 173 #[.agg #[.string t,.int .i64 p0,.int .i64 0],.int .i64 8,v] w (xiy w t (p0+8*m) ps (fun k=>.int .u64 (nmB t (p0+8*k) 8)) m):=by
 obtain⟨c,cap,rfl,hc1,hc2,hc,hcell⟩:=hv
 have HC:=lH hcell;clear hcell
 have HP:=lH hp;clear hp
 have hml:m≤9223372036854775807:=by unfold maxLen at hc2;omega
 have HM:=lH hm;clear hm
 go_enter Tryz.func173,Tryz.ntmps173
 have hS0:xaJ ((w.alloc (.cells #[.string t,.int .i64 p0,.int .i64 0] 189)).alloc (.cells #[.string ⟨#[]⟩,.int .i64 0,.int .i64 0] 189)) w.heap.size t ((p0+8*0:Nat):Int):=((Below.refl _ _).alloc (B:=w.heap.size+1) (by rw[World.size_alloc];omega) _).block _ (by omega) |>.trans (heap_alloc_new w _)
 have hR0:xaJ ((w.alloc (.cells #[.string t,.int .i64 p0,.int .i64 0] 189)).alloc (.cells #[.string ⟨#[]⟩,.int .i64 0,.int .i64 0] 189)) (w.heap.size+1) ⟨#[]⟩ 0:=by
  have:=heap_alloc_new (w.alloc (.cells #[.string t,.int .i64 p0,.int .i64 0] 189)) (.cells #[.string ⟨#[]⟩,.int .i64 0,.int .i64 0] 189)
  rw[World.size_alloc] at this
  exact this
 have hB0:Below w.heap.size w ((w.alloc (.cells #[.string t,.int .i64 p0,.int .i64 0] 189)).alloc (.cells #[.string ⟨#[]⟩,.int .i64 0,.int .i64 0] 189)):=((Below.refl _ _).alloc (Nat.le_refl _) _).alloc (by rw[World.size_alloc];omega) _
 have HS0:=lH hS0
 have HR0:=lH hR0
 have HB0:=lH hB0
 clear hS0 hR0 hB0
 go_wp2_with fail
 go_loopw [12] (fun i wr=>∃ k:Nat,k≤m∧i=.int .i64 k∧xaJ wr w.heap.size t ((p0+8*k:Nat):Int)∧xaJ wr (w.heap.size+1) ⟨#[]⟩ 0∧Below w.heap.size (xbp w ps (fun k=>.int .u64 (nmB t (p0+8*k) 8)) k) wr) (fun i _=>m - (intOf i).toNat)
 case atStart=>exact⟨0,Nat.zero_le _,rfl,HS0.out,HR0.out,HB0.out⟩
 case round =>
  obtain⟨k,hk,rfl,hS,hR,hb⟩:=hrel
  by_cases hlt:k<m
  ·obtain⟨hc1,hcn,hsp⟩:=HC.out k hlt
   obtain⟨hop,hpb⟩:=HP.out k hlt
   have hsz:(xbp w ps (fun k=>.int .u64 (nmB t (p0+8*k) 8)) k).heap.size=w.heap.size:=xdP _ _ _ _
   have hrs:=hb.size
   rw[hsz] at hrs
   have c1:=(hb.cell (p:=⟨c,k,none⟩) hc).trans ((xdO _ _ _ _ _ (fun i hi=>(HC.out i (by omega)).2.1)).trans hc1)
   have hop1:=(xdS w ps (fun k=>.int .u64 (nmB t (p0+8*k) 8)) k _ hop).below hb hpb
   have HE:Hid (((p0+8*(k+1):Nat):Int)=((p0+8*k:Nat):Int)+8):=lH (by rw[Nat.mul_succ];omega)
   have hq8:p0+8*k+8≤t.size:=by have:=Nat.mul_le_mul_left 8 (show k+1≤m from hlt);omega
   have hval:∃ y:Value,y=(fun k=>.int .u64 (nmB t (p0+8*k) 8)) k:=⟨_,rfl⟩
   obtain⟨q,hq⟩:∃ q,p0+8*k=q:=⟨_,rfl⟩
   have HQ:=lH hq
   rw[hq] at hS HE hq8
   have HN:Hid (∀ W,Calls Tryz.prog 97 #[.agg #[.string t,.int .i64 q,.int .i64 0],.int .i64 8] W fun e w'=>e=.returned (.tuple #[.int .u64 (nmB t q 8),.agg #[.string t,.int .i64 ((q:Int)+8),.int .i64 0]])∧Below W.heap.size W w'):=lH (fun W=>by
    have:=xjn t q 8 W HM.out (by omega) (by omega) hq8
    rw[show ((q+8:Nat):Int)=(q:Int)+8 from by omega] at this
    exact this)
   clear hq hval
   obtain⟨s0,s1,s2,sf⟩:=hS.cells
   have HS:=lH hS
   have HR:=lH hR
   have HB:=lH hb
   have HO:=lH hop1
   clear hS hR hb hop hop1 hc1 hsz hcn
   obtain⟨x,hx⟩:∃ x,nmB t q 8=x:=⟨_,rfl⟩
   have HX:=lH hx
   rw[hx] at HN
   clear hx hq8
   go_wp2_with fail
   refine(HN.out _).mono ?_
   rintro e w2 ⟨rfl,hb2⟩
   have hS2:=HS.out.later hb2
   have hR2:=HR.out.later hb2
   obtain⟨p,hp⟩:∃ p,ps k=p:=⟨_,rfl⟩
   have hO2:=HO.out.below hb2 (by omega)
   rw[hp] at hO2 hpb hsp ⊢
   have HPP:=lH hp
   clear hp
   obtain⟨pb,po,sp⟩:=p
   simp only at hsp hpb
   subst hsp
   obtain⟨⟨u,o1⟩,o2⟩:=hO2
   obtain⟨r0,r1,r2,rf⟩:=hS2.cells
   have hB2:=HB.out.trans (hb2.mono (by omega))
   have HS2:=lH hS2
   have HR2:=lH hR2
   have HB2:=lH hB2
   have hn1:¬ pb=w.heap.size:=by omega
   have hn2:¬ w.heap.size=pb:=by omega
   clear hb2 hS2 hR2 hB2 HS HR HB HO s0 s1 s2 sf
   go_wp2_with fail
   have hset:xbp w ps (fun k=>.int .u64 (nmB t (p0+8*k) 8)) (k+1)=(xbp w ps (fun k=>.int .u64 (nmB t (p0+8*k) 8)) k).setCell ⟨pb,po,none⟩ (.int .u64 x):=by
    rw[xbp,HPP.out,HQ.out,HX.out]
   have HSET:=lH hset
   clear hset
   go_roundw
   case rel =>
    refine⟨k+1,by omega,by go_num,?_,?_,?_⟩
    ·rw[HE.out];exact HS2.out.on.apart hn2
    ·exact(((HR2.out.apart (by simp)).apart (by simp)).apart (by simp)).apart (by simp;omega)
    ·rw[HSET.out];exact xdH (((HB2.out.setCell (Nat.le_refl _) _).setCell (Nat.le_refl _) _).setCell (Nat.le_refl _) _)
   case measure=>simp[intOf];omega
  ·obtain rfl:k=m:=by omega
   obtain⟨q,hq⟩:∃ q,p0+8*k=q:=⟨_,rfl⟩
   have HQ:=lH hq
   rw[hq] at hS
   obtain⟨r0,r1,r2,rf⟩:=hS.cells
   obtain⟨t0,t1,t2,tf⟩:=hR.cells
   have HB:=lH hb
   clear hS hR hb hq
   go_wp2_with fail
   refine bodyPost_ret (v:=.agg #[.string t,.int .i64 q,.int .i64 0]) (by simp[results,Tryz.results173,go_sem,t0,t1,t2]) rfl ⟨by rw[HQ.out],((HB.out.setCell (by simp) _).setCell (by simp) _).setCell (by simp) _⟩
set_option maxRecDepth 20000 in
theorem xrn (t:ByteArray) (p0 m:Nat) (v:Value) (ps:Nat→Addr) (w:World) (hm:t.size≤maxLen) (hv:xk2 w v ps m) (hp:∀ i,i<m→xcE w (ps i)∧(ps i).block<w.heap.size) (hs:p0+1*m≤t.size) :
  Calls Tryz.prog 174 #[.agg #[.string t,.int .i64 p0,.int .i64 0],.int .i64 1,v] w (xiy w t (p0+1*m) ps (fun k=>.int .u8 (nmB t (p0+1*k) 1)) m):=by
 obtain⟨c,cap,rfl,hc1,hc2,hc,hcell⟩:=hv
 have HC:=lH hcell;clear hcell
 have HP:=lH hp;clear hp
 have hml:m≤9223372036854775807:=by unfold maxLen at hc2;omega
 have HM:=lH hm;clear hm
 go_enter Tryz.func174,Tryz.ntmps174
 have hS0:xaJ ((w.alloc (.cells #[.string t,.int .i64 p0,.int .i64 0] 189)).alloc (.cells #[.string ⟨#[]⟩,.int .i64 0,.int .i64 0] 189)) w.heap.size t ((p0+1*0:Nat):Int):=((Below.refl _ _).alloc (B:=w.heap.size+1) (by rw[World.size_alloc];omega) _).block _ (by omega) |>.trans (heap_alloc_new w _)
 have hR0:xaJ ((w.alloc (.cells #[.string t,.int .i64 p0,.int .i64 0] 189)).alloc (.cells #[.string ⟨#[]⟩,.int .i64 0,.int .i64 0] 189)) (w.heap.size+1) ⟨#[]⟩ 0:=by
  have:=heap_alloc_new (w.alloc (.cells #[.string t,.int .i64 p0,.int .i64 0] 189)) (.cells #[.string ⟨#[]⟩,.int .i64 0,.int .i64 0] 189)
  rw[World.size_alloc] at this
  exact this
 have hB0:Below w.heap.size w ((w.alloc (.cells #[.string t,.int .i64 p0,.int .i64 0] 189)).alloc (.cells #[.string ⟨#[]⟩,.int .i64 0,.int .i64 0] 189)):=((Below.refl _ _).alloc (Nat.le_refl _) _).alloc (by rw[World.size_alloc];omega) _
 have HS0:=lH hS0
 have HR0:=lH hR0
 have HB0:=lH hB0
 clear hS0 hR0 hB0
 go_wp2_with fail
 go_loopw [12] (fun i wr=>∃ k:Nat,k≤m∧i=.int .i64 k∧xaJ wr w.heap.size t ((p0+1*k:Nat):Int)∧xaJ wr (w.heap.size+1) ⟨#[]⟩ 0∧Below w.heap.size (xbp w ps (fun k=>.int .u8 (nmB t (p0+1*k) 1)) k) wr) (fun i _=>m - (intOf i).toNat)
 case atStart=>exact⟨0,Nat.zero_le _,rfl,HS0.out,HR0.out,HB0.out⟩
 case round =>
  obtain⟨k,hk,rfl,hS,hR,hb⟩:=hrel
  by_cases hlt:k<m
  ·obtain⟨hc1,hcn,hsp⟩:=HC.out k hlt
   obtain⟨hop,hpb⟩:=HP.out k hlt
   have hsz:(xbp w ps (fun k=>.int .u8 (nmB t (p0+1*k) 1)) k).heap.size=w.heap.size:=xdP _ _ _ _
   have hrs:=hb.size
   rw[hsz] at hrs
   have c1:=(hb.cell (p:=⟨c,k,none⟩) hc).trans ((xdO _ _ _ _ _ (fun i hi=>(HC.out i (by omega)).2.1)).trans hc1)
   have hop1:=(xdS w ps (fun k=>.int .u8 (nmB t (p0+1*k) 1)) k _ hop).below hb hpb
   have HE:Hid (((p0+1*(k+1):Nat):Int)=((p0+1*k:Nat):Int)+1):=lH (by rw[Nat.mul_succ];omega)
   have hq8:p0+1*k+1≤t.size:=by have:=Nat.mul_le_mul_left 1 (show k+1≤m from hlt);omega
   have hval:∃ y:Value,y=(fun k=>.int .u8 (nmB t (p0+1*k) 1)) k:=⟨_,rfl⟩
   obtain⟨q,hq⟩:∃ q,p0+1*k=q:=⟨_,rfl⟩
   have HQ:=lH hq
   rw[hq] at hS HE hq8
   have HN:Hid (∀ W,Calls Tryz.prog 97 #[.agg #[.string t,.int .i64 q,.int .i64 0],.int .i64 1] W fun e w'=>e=.returned (.tuple #[.int .u64 (nmB t q 1),.agg #[.string t,.int .i64 ((q:Int)+1),.int .i64 0]])∧Below W.heap.size W w'):=lH (fun W=>by
    have:=xjn t q 1 W HM.out (by omega) (by omega) hq8
    rw[show ((q+1:Nat):Int)=(q:Int)+1 from by omega] at this
    exact this)
   clear hq hval
   obtain⟨s0,s1,s2,sf⟩:=hS.cells
   have HS:=lH hS
   have HR:=lH hR
   have HB:=lH hb
   have HO:=lH hop1
   clear hS hR hb hop hop1 hc1 hsz hcn
   have hxb:=xrh t q 1 hq8
   rw[xns] at hxb
   obtain⟨x,hx⟩:∃ x,nmB t q 1=x:=⟨_,rfl⟩
   have HX:=lH hx
   rw[hx] at HN hxb
   have hwx:IntKind.u8.wrap x=x:=by rw[IntKind.wrap_u8] <;> omega
   clear hx hq8
   go_wp2_with fail
   refine(HN.out _).mono ?_
   rintro e w2 ⟨rfl,hb2⟩
   have hS2:=HS.out.later hb2
   have hR2:=HR.out.later hb2
   obtain⟨p,hp⟩:∃ p,ps k=p:=⟨_,rfl⟩
   have hO2:=HO.out.below hb2 (by omega)
   rw[hp] at hO2 hpb hsp ⊢
   have HPP:=lH hp
   clear hp
   obtain⟨pb,po,sp⟩:=p
   simp only at hsp hpb
   subst hsp
   obtain⟨⟨u,o1⟩,o2⟩:=hO2
   obtain⟨r0,r1,r2,rf⟩:=hS2.cells
   have hB2:=HB.out.trans (hb2.mono (by omega))
   have HS2:=lH hS2
   have HR2:=lH hR2
   have HB2:=lH hB2
   have hn1:¬ pb=w.heap.size:=by omega
   have hn2:¬ w.heap.size=pb:=by omega
   clear hb2 hS2 hR2 hB2 HS HR HB HO s0 s1 s2 sf
   go_wp2_with fail
   have hset:xbp w ps (fun k=>.int .u8 (nmB t (p0+1*k) 1)) (k+1)=(xbp w ps (fun k=>.int .u8 (nmB t (p0+1*k) 1)) k).setCell ⟨pb,po,none⟩ (.int .u8 x):=by
    rw[xbp,HPP.out,HQ.out,HX.out]
   have HSET:=lH hset
   clear hset
   go_roundw
   case rel =>
    refine⟨k+1,by omega,by go_num,?_,?_,?_⟩
    ·rw[HE.out];exact HS2.out.on.apart hn2
    ·exact(((HR2.out.apart (by simp)).apart (by simp)).apart (by simp)).apart (by simp;omega)
    ·rw[HSET.out];exact xdH (((HB2.out.setCell (Nat.le_refl _) _).setCell (Nat.le_refl _) _).setCell (Nat.le_refl _) _)
   case measure=>simp[intOf];omega
  ·obtain rfl:k=m:=by omega
   obtain⟨q,hq⟩:∃ q,p0+1*k=q:=⟨_,rfl⟩
   have HQ:=lH hq
   rw[hq] at hS
   obtain⟨r0,r1,r2,rf⟩:=hS.cells
   obtain⟨t0,t1,t2,tf⟩:=hR.cells
   have HB:=lH hb
   clear hS hR hb hq
   go_wp2_with fail
   refine bodyPost_ret (v:=.agg #[.string t,.int .i64 q,.int .i64 0]) (by simp[results,Tryz.results174,go_sem,t0,t1,t2]) rfl ⟨by rw[HQ.out],((HB.out.setCell (by simp) _).setCell (by simp) _).setCell (by simp) _⟩
set_option maxRecDepth 20000 in
theorem xtw (t:ByteArray) (p0 m:Nat) (v:Value) (ps:Nat→Addr) (w:World) (hm:t.size≤maxLen) (hv:xk2 w v ps m) (hp:∀ i,i<m→xcE w (ps i)∧(ps i).block<w.heap.size) (hs:p0+1*m≤t.size) :
  Calls Tryz.prog 175 #[.agg #[.string t,.int .i64 p0,.int .i64 0],.int .i64 1,v] w (xiy w t (p0+1*m) ps (fun k=>.int .i64 (nmB t (p0+1*k) 1)) m):=by
 obtain⟨c,cap,rfl,hc1,hc2,hc,hcell⟩:=hv
 have HC:=lH hcell;clear hcell
 have HP:=lH hp;clear hp
 have hml:m≤9223372036854775807:=by unfold maxLen at hc2;omega
 have HM:=lH hm;clear hm
 go_enter Tryz.func175,Tryz.ntmps175
 have hS0:xaJ ((w.alloc (.cells #[.string t,.int .i64 p0,.int .i64 0] 189)).alloc (.cells #[.string ⟨#[]⟩,.int .i64 0,.int .i64 0] 189)) w.heap.size t ((p0+1*0:Nat):Int):=((Below.refl _ _).alloc (B:=w.heap.size+1) (by rw[World.size_alloc];omega) _).block _ (by omega) |>.trans (heap_alloc_new w _)
 have hR0:xaJ ((w.alloc (.cells #[.string t,.int .i64 p0,.int .i64 0] 189)).alloc (.cells #[.string ⟨#[]⟩,.int .i64 0,.int .i64 0] 189)) (w.heap.size+1) ⟨#[]⟩ 0:=by
  have:=heap_alloc_new (w.alloc (.cells #[.string t,.int .i64 p0,.int .i64 0] 189)) (.cells #[.string ⟨#[]⟩,.int .i64 0,.int .i64 0] 189)
  rw[World.size_alloc] at this
  exact this
 have hB0:Below w.heap.size w ((w.alloc (.cells #[.string t,.int .i64 p0,.int .i64 0] 189)).alloc (.cells #[.string ⟨#[]⟩,.int .i64 0,.int .i64 0] 189)):=((Below.refl _ _).alloc (Nat.le_refl _) _).alloc (by rw[World.size_alloc];omega) _
 have HS0:=lH hS0
 have HR0:=lH hR0
 have HB0:=lH hB0
 clear hS0 hR0 hB0
 go_wp2_with fail
 go_loopw [12] (fun i wr=>∃ k:Nat,k≤m∧i=.int .i64 k∧xaJ wr w.heap.size t ((p0+1*k:Nat):Int)∧xaJ wr (w.heap.size+1) ⟨#[]⟩ 0∧Below w.heap.size (xbp w ps (fun k=>.int .i64 (nmB t (p0+1*k) 1)) k) wr) (fun i _=>m - (intOf i).toNat)
 case atStart=>exact⟨0,Nat.zero_le _,rfl,HS0.out,HR0.out,HB0.out⟩
 case round =>
  obtain⟨k,hk,rfl,hS,hR,hb⟩:=hrel
  by_cases hlt:k<m
  ·obtain⟨hc1,hcn,hsp⟩:=HC.out k hlt
   obtain⟨hop,hpb⟩:=HP.out k hlt
   have hsz:(xbp w ps (fun k=>.int .i64 (nmB t (p0+1*k) 1)) k).heap.size=w.heap.size:=xdP _ _ _ _
   have hrs:=hb.size
   rw[hsz] at hrs
   have c1:=(hb.cell (p:=⟨c,k,none⟩) hc).trans ((xdO _ _ _ _ _ (fun i hi=>(HC.out i (by omega)).2.1)).trans hc1)
   have hop1:=(xdS w ps (fun k=>.int .i64 (nmB t (p0+1*k) 1)) k _ hop).below hb hpb
   have HE:Hid (((p0+1*(k+1):Nat):Int)=((p0+1*k:Nat):Int)+1):=lH (by rw[Nat.mul_succ];omega)
   have hq8:p0+1*k+1≤t.size:=by have:=Nat.mul_le_mul_left 1 (show k+1≤m from hlt);omega
   have hval:∃ y:Value,y=(fun k=>.int .i64 (nmB t (p0+1*k) 1)) k:=⟨_,rfl⟩
   obtain⟨q,hq⟩:∃ q,p0+1*k=q:=⟨_,rfl⟩
   have HQ:=lH hq
   rw[hq] at hS HE hq8
   have HN:Hid (∀ W,Calls Tryz.prog 97 #[.agg #[.string t,.int .i64 q,.int .i64 0],.int .i64 1] W fun e w'=>e=.returned (.tuple #[.int .u64 (nmB t q 1),.agg #[.string t,.int .i64 ((q:Int)+1),.int .i64 0]])∧Below W.heap.size W w'):=lH (fun W=>by
    have:=xjn t q 1 W HM.out (by omega) (by omega) hq8
    rw[show ((q+1:Nat):Int)=(q:Int)+1 from by omega] at this
    exact this)
   clear hq hval
   obtain⟨s0,s1,s2,sf⟩:=hS.cells
   have HS:=lH hS
   have HR:=lH hR
   have HB:=lH hb
   have HO:=lH hop1
   clear hS hR hb hop hop1 hc1 hsz hcn
   have hxb:=xrh t q 1 hq8
   rw[xns] at hxb
   obtain⟨x,hx⟩:∃ x,nmB t q 1=x:=⟨_,rfl⟩
   have HX:=lH hx
   rw[hx] at HN hxb
   have hwx:wrap64 x=x:=by rw[IntWalk.wrap64_in _ (by omega)]
   have hwy:IntKind.i64.wrap x=x:=by rw[IntKind.wrap_i64] <;> omega
   clear hx hq8
   go_wp2_with fail
   refine(HN.out _).mono ?_
   rintro e w2 ⟨rfl,hb2⟩
   have hS2:=HS.out.later hb2
   have hR2:=HR.out.later hb2
   obtain⟨p,hp⟩:∃ p,ps k=p:=⟨_,rfl⟩
   have hO2:=HO.out.below hb2 (by omega)
   rw[hp] at hO2 hpb hsp ⊢
   have HPP:=lH hp
   clear hp
   obtain⟨pb,po,sp⟩:=p
   simp only at hsp hpb
   subst hsp
   obtain⟨⟨u,o1⟩,o2⟩:=hO2
   obtain⟨r0,r1,r2,rf⟩:=hS2.cells
   have hB2:=HB.out.trans (hb2.mono (by omega))
   have HS2:=lH hS2
   have HR2:=lH hR2
   have HB2:=lH hB2
   have hn1:¬ pb=w.heap.size:=by omega
   have hn2:¬ w.heap.size=pb:=by omega
   clear hb2 hS2 hR2 hB2 HS HR HB HO s0 s1 s2 sf
   go_wp2_with fail
   have hset:xbp w ps (fun k=>.int .i64 (nmB t (p0+1*k) 1)) (k+1)=(xbp w ps (fun k=>.int .i64 (nmB t (p0+1*k) 1)) k).setCell ⟨pb,po,none⟩ (.int .i64 x):=by
    rw[xbp,HPP.out,HQ.out,HX.out]
   have HSET:=lH hset
   clear hset
   go_roundw
   case rel =>
    refine⟨k+1,by omega,by go_num,?_,?_,?_⟩
    ·rw[HE.out];exact HS2.out.on.apart hn2
    ·exact(((HR2.out.apart (by simp)).apart (by simp)).apart (by simp)).apart (by simp;omega)
    ·rw[HSET.out];exact xdH (((HB2.out.setCell (Nat.le_refl _) _).setCell (Nat.le_refl _) _).setCell (Nat.le_refl _) _)
   case measure=>simp[intOf];omega
  ·obtain rfl:k=m:=by omega
   obtain⟨q,hq⟩:∃ q,p0+1*k=q:=⟨_,rfl⟩
   have HQ:=lH hq
   rw[hq] at hS
   obtain⟨r0,r1,r2,rf⟩:=hS.cells
   obtain⟨t0,t1,t2,tf⟩:=hR.cells
   have HB:=lH hb
   clear hS hR hb hq
   go_wp2_with fail
   refine bodyPost_ret (v:=.agg #[.string t,.int .i64 q,.int .i64 0]) (by simp[results,Tryz.results175,go_sem,t0,t1,t2]) rfl ⟨by rw[HQ.out],((HB.out.setCell (by simp) _).setCell (by simp) _).setCell (by simp) _⟩
set_option maxRecDepth 20000 in
theorem xlf (t:ByteArray) (p0 m:Nat) (v:Value) (ps:Nat→Addr) (w:World) (hm:t.size≤maxLen) (hv:xk2 w v ps m) (hp:∀ i,i<m→xcE w (ps i)∧(ps i).block<w.heap.size) (hs:p0+4*m≤t.size) :
  Calls Tryz.prog 176 #[.agg #[.string t,.int .i64 p0,.int .i64 0],v] w (xiy w t (p0+4*m) ps (fun k=>.int .i64 (sgB t (p0+4*k))) m):=by
 obtain⟨c,cap,rfl,hc1,hc2,hc,hcell⟩:=hv
 have HC:=lH hcell;clear hcell
 have HP:=lH hp;clear hp
 have hml:m≤9223372036854775807:=by unfold maxLen at hc2;omega
 have HM:=lH hm;clear hm
 go_enter Tryz.func176,Tryz.ntmps176
 have hS0:xaJ ((w.alloc (.cells #[.string t,.int .i64 p0,.int .i64 0] 189)).alloc (.cells #[.string ⟨#[]⟩,.int .i64 0,.int .i64 0] 189)) w.heap.size t ((p0+4*0:Nat):Int):=((Below.refl _ _).alloc (B:=w.heap.size+1) (by rw[World.size_alloc];omega) _).block _ (by omega) |>.trans (heap_alloc_new w _)
 have hR0:xaJ ((w.alloc (.cells #[.string t,.int .i64 p0,.int .i64 0] 189)).alloc (.cells #[.string ⟨#[]⟩,.int .i64 0,.int .i64 0] 189)) (w.heap.size+1) ⟨#[]⟩ 0:=by
  have:=heap_alloc_new (w.alloc (.cells #[.string t,.int .i64 p0,.int .i64 0] 189)) (.cells #[.string ⟨#[]⟩,.int .i64 0,.int .i64 0] 189)
  rw[World.size_alloc] at this
  exact this
 have hB0:Below w.heap.size w ((w.alloc (.cells #[.string t,.int .i64 p0,.int .i64 0] 189)).alloc (.cells #[.string ⟨#[]⟩,.int .i64 0,.int .i64 0] 189)):=((Below.refl _ _).alloc (Nat.le_refl _) _).alloc (by rw[World.size_alloc];omega) _
 have HS0:=lH hS0
 have HR0:=lH hR0
 have HB0:=lH hB0
 clear hS0 hR0 hB0
 go_wp2_with fail
 go_loopw [12] (fun i wr=>∃ k:Nat,k≤m∧i=.int .i64 k∧xaJ wr w.heap.size t ((p0+4*k:Nat):Int)∧xaJ wr (w.heap.size+1) ⟨#[]⟩ 0∧Below w.heap.size (xbp w ps (fun k=>.int .i64 (sgB t (p0+4*k))) k) wr) (fun i _=>m - (intOf i).toNat)
 case atStart=>exact⟨0,Nat.zero_le _,rfl,HS0.out,HR0.out,HB0.out⟩
 case round =>
  obtain⟨k,hk,rfl,hS,hR,hb⟩:=hrel
  by_cases hlt:k<m
  ·obtain⟨hc1,hcn,hsp⟩:=HC.out k hlt
   obtain⟨hop,hpb⟩:=HP.out k hlt
   have hsz:(xbp w ps (fun k=>.int .i64 (sgB t (p0+4*k))) k).heap.size=w.heap.size:=xdP _ _ _ _
   have hrs:=hb.size
   rw[hsz] at hrs
   have c1:=(hb.cell (p:=⟨c,k,none⟩) hc).trans ((xdO _ _ _ _ _ (fun i hi=>(HC.out i (by omega)).2.1)).trans hc1)
   have hop1:=(xdS w ps (fun k=>.int .i64 (sgB t (p0+4*k))) k _ hop).below hb hpb
   have HE:Hid (((p0+4*(k+1):Nat):Int)=((p0+4*k:Nat):Int)+4):=lH (by rw[Nat.mul_succ];omega)
   have hq8:p0+4*k+4≤t.size:=by have:=Nat.mul_le_mul_left 4 (show k+1≤m from hlt);omega
   have hval:∃ y:Value,y=(fun k=>.int .i64 (sgB t (p0+4*k))) k:=⟨_,rfl⟩
   obtain⟨q,hq⟩:∃ q,p0+4*k=q:=⟨_,rfl⟩
   have HQ:=lH hq
   rw[hq] at hS HE hq8
   have HN:Hid (∀ W,Calls Tryz.prog 97 #[.agg #[.string t,.int .i64 q,.int .i64 0],.int .i64 4] W fun e w'=>e=.returned (.tuple #[.int .u64 (nmB t q 4),.agg #[.string t,.int .i64 ((q:Int)+4),.int .i64 0]])∧Below W.heap.size W w'):=lH (fun W=>by
    have:=xjn t q 4 W HM.out (by omega) (by omega) hq8
    rw[show ((q+4:Nat):Int)=(q:Int)+4 from by omega] at this
    exact this)
   clear hq hval
   obtain⟨s0,s1,s2,sf⟩:=hS.cells
   have HS:=lH hS
   have HR:=lH hR
   have HB:=lH hb
   have HO:=lH hop1
   clear hS hR hb hop hop1 hc1 hsz hcn hq8
   have HX:Hid (sgn (nmB t q 4) 4=sgB t q):=lH rfl
   obtain⟨x,hx⟩:∃ x,nmB t q 4=x:=⟨_,rfl⟩
   rw[hx] at HN HX
   have HG:=lH (fun W=>xoS x 4 W (by omega) (by omega))
   rw[HX.out] at HG
   obtain⟨y,hy⟩:∃ y,sgB t q=y:=⟨_,rfl⟩
   rw[hy] at HG
   have HY:=lH hy
   clear hy
   clear hx
   go_wp2_with fail
   refine(HN.out _).mono ?_
   rintro e w2 ⟨rfl,hb2⟩
   have hS2:=HS.out.later hb2
   have hR2:=HR.out.later hb2
   obtain⟨p,hp⟩:∃ p,ps k=p:=⟨_,rfl⟩
   have hO2:=HO.out.below hb2 (by omega)
   rw[hp] at hO2 hpb hsp ⊢
   have HPP:=lH hp
   clear hp
   obtain⟨pb,po,sp⟩:=p
   simp only at hsp hpb
   subst hsp
   obtain⟨⟨u,o1⟩,o2⟩:=hO2
   obtain⟨r0,r1,r2,rf⟩:=hS2.cells
   have hB2:=HB.out.trans (hb2.mono (by omega))
   have HS2:=lH hS2
   have HR2:=lH hR2
   have HB2:=lH hB2
   have hn1:¬ pb=w.heap.size:=by omega
   have hn2:¬ w.heap.size=pb:=by omega
   clear hb2 hS2 hR2 hB2 HS HR HB HO s0 s1 s2 sf
   go_wp2_with fail
   refine(HG.out _).mono ?_
   rintro e w' ⟨rfl,rfl⟩
   go_wp2_with fail
   have hset:xbp w ps (fun k=>.int .i64 (sgB t (p0+4*k))) (k+1)=(xbp w ps (fun k=>.int .i64 (sgB t (p0+4*k))) k).setCell ⟨pb,po,none⟩ (.int .i64 y):=by
    rw[xbp,HPP.out,HQ.out,HY.out]
   have HSET:=lH hset
   clear hset
   go_roundw
   case rel =>
    refine⟨k+1,by omega,by go_num,?_,?_,?_⟩
    ·rw[HE.out];exact HS2.out.on.apart hn2
    ·exact(((HR2.out.apart (by simp)).apart (by simp)).apart (by simp)).apart (by simp;omega)
    ·rw[HSET.out];exact xdH (((HB2.out.setCell (Nat.le_refl _) _).setCell (Nat.le_refl _) _).setCell (Nat.le_refl _) _)
   case measure=>simp[intOf];omega
  ·obtain rfl:k=m:=by omega
   obtain⟨q,hq⟩:∃ q,p0+4*k=q:=⟨_,rfl⟩
   have HQ:=lH hq
   rw[hq] at hS
   obtain⟨r0,r1,r2,rf⟩:=hS.cells
   obtain⟨t0,t1,t2,tf⟩:=hR.cells
   have HB:=lH hb
   clear hS hR hb hq
   go_wp2_with fail
   refine bodyPost_ret (v:=.agg #[.string t,.int .i64 q,.int .i64 0]) (by simp[results,Tryz.results176,go_sem,t0,t1,t2]) rfl ⟨by rw[HQ.out],((HB.out.setCell (by simp) _).setCell (by simp) _).setCell (by simp) _⟩
def xdg (C:Array Value) (o:Nat) (val:Nat→Value):Nat→Array Value
 | 0=>C
 | k+1=>(xdg C o val k).setIfInBounds (o+k) (val k)
theorem xrI {w:World} {g o:Nat} {C:Array Value} {T:TypeId} {f:Nat × Nat} (val:Nat→Value) (k:Nat) (H:w.heap[g]?=some (.cells C T f)):(xbp w (fun i=>⟨g,o+i,none⟩) val k).heap[g]?=some (.cells (xdg C o val k) T f):=by
 induction k with
 | zero=>exact H
 | succ k ih=>exact xa4 ih _
theorem xha {w0 w:World} {B:Nat} (ps:Nat→Addr) (val:Nat→Value) (k:Nat) (h:Below B w0 w) (hp:∀ i,i<k→B≤(ps i).block):Below B w0 (xbp w ps val k):=by
 induction k with
 | zero=>exact h
 | succ k ih=>exact(ih (fun i hi=>hp i (by omega))).setCell (hp k (by omega)) _
def FAt (w wx:World) (t:ByteArray) (q:Int) (a:Hd) (c:Int):Prop :=
 xaJ wx w.heap.size t q∧HAt wx (w.heap.size+1) 93 xae∧HAt wx (w.heap.size+2) 93 a∧wx.heap[w.heap.size+3]?=some (.cells #[.int .u8 c] 5 (0,0))∧Below w.heap.size w wx
theorem FAt.big {w wx:World} {t:ByteArray} {q c:Int} {a:Hd} (h:FAt w wx t q a c):w.heap.size+4≤wx.heap.size:=by
 rcases Nat.lt_or_ge (w.heap.size+3) wx.heap.size with h'|h'
 ·omega
 ·have:=h.2.2.2.1
  rw[Array.getElem?_eq_none h'] at this
  cases this
theorem FAt.scan {w wx:World} {t:ByteArray} {q c:Int} {a:Hd} (h:FAt w wx t q a c):wx.cell? ⟨w.heap.size,0,none⟩=some (.string t)∧wx.cell? ⟨w.heap.size,1,none⟩=some (.int .i64 q)∧wx.cell? ⟨w.heap.size,2,none⟩=some (.int .i64 0)∧∀ o,wx.frozen? ⟨w.heap.size,o,none⟩=false:=h.1.cells
theorem FAt.on {w wx:World} {t:ByteArray} {q r c:Int} {a:Hd} (h:FAt w wx t q a c):FAt w (((wx.setCell ⟨w.heap.size,0,none⟩ (.string t)).setCell ⟨w.heap.size,1,none⟩ (.int .i64 r)).setCell ⟨w.heap.size,2,none⟩ (.int .i64 0)) t r a c:=by
 have hk:∀ k,k≠w.heap.size→(((wx.setCell ⟨w.heap.size,0,none⟩ (.string t)).setCell ⟨w.heap.size,1,none⟩ (.int .i64 r)).setCell ⟨w.heap.size,2,none⟩ (.int .i64 0)).heap[k]?=wx.heap[k]?:=fun k hk=>by rw[xaL hk,xaL hk,xaL hk]
 exact⟨h.1.on,(hk _ (by omega)).trans h.2.1,(hk _ (by omega)).trans h.2.2.1,(hk _ (by omega)).trans h.2.2.2.1,((h.2.2.2.2.setCell (Nat.le_refl _) _).setCell (Nat.le_refl _) _).setCell (Nat.le_refl _) _⟩
theorem xac {w:World} {o:Obj} {k:Nat} (h:k<w.heap.size):(w.alloc o).heap[k]?=w.heap[k]?:=((Below.refl w.heap.size w).alloc (Nat.le_refl _) o).block k h
theorem xey {w:World} {b k:Nat} {T:TypeId} {h:Hd} (H:HAt w b T h) (hk:k<24):xcE w ⟨b,k,none⟩:=by
 refine⟨⟨_,(xag H k).trans (Array.getElem?_eq_getElem (by rw[xxQ];exact hk))⟩,?_⟩
 unfold HAt at H
 simp[World.frozen?,H]
theorem xwO {w:World} {b:Nat} {v:Value} {T:TypeId} (H:w.heap[b]?=some (.cells #[v] T (0,0))):xcE w ⟨b,0,none⟩ :=
 ⟨⟨v,xag H 0⟩,by simp[World.frozen?,H]⟩
theorem xpV {wx w':World} {P:Obj} {g n:Nat} {off:Nat→Nat} {val:Nat→Value} (hb:Below (wx.alloc P).heap.size (xbp (wx.alloc P) (fun i=>⟨g,off i,none⟩) val n) w') (k:Nat) (h1:k<wx.heap.size) (h2:k≠g):w'.heap[k]?=wx.heap[k]?:=by
 rw[hb.block k (by rw[World.size_alloc];omega),xfq _ _ _ _ _ (fun i _=>h2),xac h1]
theorem FAt.take {w wx w':World} {t:ByteArray} {q c:Int} {a b:Hd} {o n:Nat} {val:Nat→Value} {P:Obj} (h:FAt w wx t q a c)
  (hb:Below (wx.alloc P).heap.size (xbp (wx.alloc P) (fun i=>⟨w.heap.size+2,o+i,none⟩) val n) w') (hC:xdg (cH a) o val n=cH b):FAt w w' t q b c:=by
 have hz:=h.big
 have ha:(wx.alloc P).heap.size=wx.heap.size+1:=World.size_alloc ..
 have hk:∀ k,k<wx.heap.size→k≠w.heap.size+2→w'.heap[k]?=wx.heap[k]?:=fun k h1 h2=>by
  rw[hb.block k (by omega),xfq _ _ _ _ _ (fun i _=>h2),xac h1]
 refine⟨(hk _ (by omega) (by omega)).trans h.1,(hk _ (by omega) (by omega)).trans h.2.1,?_,(hk _ (by omega) (by omega)).trans h.2.2.2.1,?_⟩
 ·unfold HAt
  rw[hb.block _ (by omega),← hC]
  exact xrI val n ((xac (by omega)).trans h.2.2.1)
 ·exact(xha _ val n (h.2.2.2.2.alloc (by omega) _) (fun i _=>by show w.heap.size≤w.heap.size+2;omega)).trans (hb.mono (by omega))
theorem xdJ {w:World} (ps:Nat→Addr) (n:Nat) (cs:Array Value) (T:TypeId) (hn:n≤4) (hc:∀ i,i<n→cs[i]?=some (.pointer (some (ps i)))∧w.heap.size≠(ps i).block∧(ps i).spot=none):xk2 (w.alloc (.cells cs T)) (.slice (some ⟨w.heap.size,0,none⟩) n n) ps n:=by
 refine⟨_,_,rfl,Nat.le_refl _,by unfold maxLen;omega,by rw[World.size_alloc];omega,fun i hi=>⟨?_,(hc i hi).2⟩⟩
 exact(xag (heap_alloc_new w _) i).trans (hc i hi).1
theorem xth {w wx:World} {t:ByteArray} {q:Nat} {a b:Hd} {c:Int} (o n:Nat) (cs:Array Value) (T:TypeId) (hF:FAt w wx t q a c) (hm:t.size≤maxLen) (hn:n≤4) (ho:o+n≤24) (hq:q+8*n≤t.size)
  (hcs:∀ i,i<n→cs[i]?=some (.pointer (some ⟨w.heap.size+2,o+i,none⟩))) (hC:xdg (cH a) o (fun k=>.int .u64 (nmB t (q+8*k) 8)) n=cH b) :
  Calls Tryz.prog 173 #[.agg #[.string t,.int .i64 q,.int .i64 0],.int .i64 8,.slice (some ⟨wx.heap.size,0,none⟩) n n] (wx.alloc (.cells cs T)) fun e w'=>e=.returned (.agg #[.string t,.int .i64 ((q+8*n:Nat):Int),.int .i64 0])∧FAt w w' t q b c∧∀ k,k<wx.heap.size→k≠w.heap.size+2→w'.heap[k]?=wx.heap[k]?:=by
 have hz:=hF.big
 refine(xsC t q n _ (fun i=>⟨w.heap.size+2,o+i,none⟩) _ hm (xdJ _ n cs T hn (fun i hi=>⟨hcs i hi,by show wx.heap.size≠w.heap.size+2;omega,rfl⟩)) (fun i hi=>⟨xey (T:=93) (h:=a) ((xac (by omega)).trans hF.2.2.1) (by omega),by rw[World.size_alloc];show w.heap.size+2<_;omega⟩) hq).mono ?_
 rintro e w' ⟨rfl,hb⟩
 exact⟨rfl,hF.take hb hC,xpV hb⟩
theorem xrm {w wx:World} {t:ByteArray} {q:Nat} {a b:Hd} {c:Int} (o n:Nat) (cs:Array Value) (T:TypeId) (hF:FAt w wx t q a c) (hm:t.size≤maxLen) (hn:n≤4) (ho:o+n≤24) (hq:q+1*n≤t.size)
  (hcs:∀ i,i<n→cs[i]?=some (.pointer (some ⟨w.heap.size+2,o+i,none⟩))) (hC:xdg (cH a) o (fun k=>.int .i64 (nmB t (q+1*k) 1)) n=cH b) :
  Calls Tryz.prog 175 #[.agg #[.string t,.int .i64 q,.int .i64 0],.int .i64 1,.slice (some ⟨wx.heap.size,0,none⟩) n n] (wx.alloc (.cells cs T)) fun e w'=>e=.returned (.agg #[.string t,.int .i64 ((q+1*n:Nat):Int),.int .i64 0])∧FAt w w' t q b c:=by
 have hz:=hF.big
 refine(xtw t q n _ (fun i=>⟨w.heap.size+2,o+i,none⟩) _ hm (xdJ _ n cs T hn (fun i hi=>⟨hcs i hi,by show wx.heap.size≠w.heap.size+2;omega,rfl⟩)) (fun i hi=>⟨xey (T:=93) (h:=a) ((xac (by omega)).trans hF.2.2.1) (by omega),by rw[World.size_alloc];show w.heap.size+2<_;omega⟩) hq).mono ?_
 rintro e w' ⟨rfl,hb⟩
 exact⟨rfl,hF.take hb hC⟩
theorem xks {w wx:World} {t:ByteArray} {q:Nat} {a b:Hd} {c:Int} (o n:Nat) (cs:Array Value) (T:TypeId) (hF:FAt w wx t q a c) (hm:t.size≤maxLen) (hn:n≤4) (ho:o+n≤24) (hq:q+4*n≤t.size)
  (hcs:∀ i,i<n→cs[i]?=some (.pointer (some ⟨w.heap.size+2,o+i,none⟩))) (hC:xdg (cH a) o (fun k=>.int .i64 (sgB t (q+4*k))) n=cH b) :
  Calls Tryz.prog 176 #[.agg #[.string t,.int .i64 q,.int .i64 0],.slice (some ⟨wx.heap.size,0,none⟩) n n] (wx.alloc (.cells cs T)) fun e w'=>e=.returned (.agg #[.string t,.int .i64 ((q+4*n:Nat):Int),.int .i64 0])∧FAt w w' t q b c:=by
 have hz:=hF.big
 refine(xlf t q n _ (fun i=>⟨w.heap.size+2,o+i,none⟩) _ hm (xdJ _ n cs T hn (fun i hi=>⟨hcs i hi,by show wx.heap.size≠w.heap.size+2;omega,rfl⟩)) (fun i hi=>⟨xey (T:=93) (h:=a) ((xac (by omega)).trans hF.2.2.1) (by omega),by rw[World.size_alloc];show w.heap.size+2<_;omega⟩) hq).mono ?_
 rintro e w' ⟨rfl,hb⟩
 exact⟨rfl,hF.take hb hC⟩
def psB (n:Nat) (i:Nat):Addr:=if i=0 then ⟨n+3,0,none⟩ else ⟨n+2,11+i,none⟩
theorem xx8 {w wx:World} {t:ByteArray} {a b:Hd} {c:Int} (T:TypeId) (hF:FAt w wx t 96 a c) (hm:t.size≤maxLen) (hq:100≤t.size)
  (hC:(((cH a).setIfInBounds 12 (.int .u8 (nmB t 97 1))).setIfInBounds 13 (.int .u8 (nmB t 98 1))).setIfInBounds 14 (.int .u8 (nmB t 99 1))=cH b) :
  Calls Tryz.prog 174 #[.agg #[.string t,.int .i64 96,.int .i64 0],.int .i64 1,.slice (some ⟨wx.heap.size,0,none⟩) 4 4] (wx.alloc (.cells #[.pointer (some ⟨w.heap.size+3,0,none⟩),.pointer (some ⟨w.heap.size+2,12,none⟩),.pointer (some ⟨w.heap.size+2,13,none⟩),.pointer (some ⟨w.heap.size+2,14,none⟩)] T)) fun e w'=>e=.returned (.agg #[.string t,.int .i64 100,.int .i64 0])∧FAt w w' t 96 b (nmB t 96 1):=by
 have hz:=hF.big
 have ha:∀ P,(wx.alloc P).heap.size=wx.heap.size+1:=fun P=>World.size_alloc ..
 refine(xrn t 96 4 _ (psB w.heap.size) _ hm (xdJ _ 4 _ T (by omega) ?_) ?_ hq).mono ?_
 ·intro i hi
  obtain rfl|rfl|rfl|rfl:i=0∨i=1∨i=2∨i=3:=by omega
  all_goals exact⟨rfl,by simp[psB];omega,rfl⟩
 ·intro i hi
  obtain rfl|rfl|rfl|rfl:i=0∨i=1∨i=2∨i=3:=by omega
  ·exact⟨xwO (T:=5) ((xac (by omega)).trans hF.2.2.2.1),by rw[ha];show w.heap.size+3<_;omega⟩
  all_goals exact⟨xey (T:=93) (h:=a) ((xac (by omega)).trans hF.2.2.1) (by omega),by rw[ha];show w.heap.size+2<_;omega⟩
 rintro e w' ⟨rfl,hb⟩
 generalize Obj.cells _ T=P at hb
 have hk:∀ k,k<wx.heap.size→k≠w.heap.size+2→k≠w.heap.size+3→w'.heap[k]?=wx.heap[k]?:=fun k h1 h2 h3=>by
  rw[hb.block k (by rw[ha];omega),xfq _ _ _ _ _ (fun i _=>by unfold psB;split <;> assumption),xac h1]
 refine⟨rfl,(hk _ (by omega) (by omega) (by omega)).trans hF.1,(hk _ (by omega) (by omega) (by omega)).trans hF.2.1,?_,?_,?_⟩
 ·unfold HAt
  rw[hb.block _ (by rw[ha];omega),← hC]
  have H:(wx.alloc P).heap[w.heap.size+2]?=some (.cells (cH a) 93 (0,0)):=(xac (by omega)).trans hF.2.2.1
  exact xa4 (i:=14) (xa4 (i:=13) (xa4 (i:=12) ((xaL (i:=0) (v:=.int .u8 (nmB t 96 1)) (show w.heap.size+2≠w.heap.size+3 by omega)).trans H) _) _) _
 ·rw[hb.block _ (by rw[ha];omega)]
  have H:(wx.alloc P).heap[w.heap.size+3]?=some (.cells #[.int .u8 c] 5 (0,0)):=(xac (by omega)).trans hF.2.2.2.1
  have hne:w.heap.size+3≠w.heap.size+2:=by omega
  exact(xaL (i:=14) hne).trans ((xaL (i:=13) hne).trans ((xaL (i:=12) hne).trans (xa4 (i:=0) H (.int .u8 (nmB t 96 1)))))
 ·exact(xha _ _ 4 (hF.2.2.2.2.alloc (by omega) _) (fun i _=>by unfold psB;split <;> simp)).trans (hb.mono (by rw[ha];omega))
theorem xyy (w:World) (t:ByteArray) (R:Obj):FAt w (((((w.alloc (.cells #[.string t,.int .i64 8,.int .i64 0] 189)).alloc (.cells (cH xae) 93)).alloc (.cells (cH xae) 93)).alloc (.cells #[.int .u8 0] 5)).alloc R) t 8 xae 0∧(((((w.alloc (.cells #[.string t,.int .i64 8,.int .i64 0] 189)).alloc (.cells (cH xae) 93)).alloc (.cells (cH xae) 93)).alloc (.cells #[.int .u8 0] 5)).alloc R).heap[w.heap.size+4]?=(w.alloc R).heap[w.heap.size]?:=by
 obtain⟨w1,h1⟩:∃ x,w.alloc (.cells #[.string t,.int .i64 8,.int .i64 0] 189)=x:=⟨_,rfl⟩
 have z1:w1.heap.size=w.heap.size+1:=by rw[← h1,World.size_alloc]
 have e1:w1.heap[w.heap.size]?=_:=h1 ▸ heap_alloc_new w _
 have b1:Below w.heap.size w w1:=h1 ▸ (Below.refl _ _).alloc (Nat.le_refl _) _
 rw[h1];clear h1
 obtain⟨w2,h2⟩:∃ x,w1.alloc (.cells (cH xae) 93)=x:=⟨_,rfl⟩
 have z2:w2.heap.size=w.heap.size+2:=by rw[← h2,World.size_alloc,z1]
 have e2:w2.heap[w.heap.size+1]?=_:=z1 ▸ h2 ▸ heap_alloc_new w1 _
 have e12:w2.heap[w.heap.size]?=_:=(h2 ▸ xac (by omega)).trans e1
 have b2:Below w.heap.size w w2:=h2 ▸ b1.alloc (by omega) _
 rw[h2];clear h2
 obtain⟨w3,h3⟩:∃ x,w2.alloc (.cells (cH xae) 93)=x:=⟨_,rfl⟩
 have z3:w3.heap.size=w.heap.size+3:=by rw[← h3,World.size_alloc,z2]
 have e3:w3.heap[w.heap.size+2]?=_:=z2 ▸ h3 ▸ heap_alloc_new w2 _
 have e13:w3.heap[w.heap.size]?=_:=(h3 ▸ xac (by omega)).trans e12
 have e23:w3.heap[w.heap.size+1]?=_:=(h3 ▸ xac (by omega)).trans e2
 have b3:Below w.heap.size w w3:=h3 ▸ b2.alloc (by omega) _
 rw[h3];clear h3
 obtain⟨w4,h4⟩:∃ x,w3.alloc (.cells #[.int .u8 0] 5)=x:=⟨_,rfl⟩
 have z4:w4.heap.size=w.heap.size+4:=by rw[← h4,World.size_alloc,z3]
 have e4:w4.heap[w.heap.size+3]?=_:=z3 ▸ h4 ▸ heap_alloc_new w3 _
 have e14:w4.heap[w.heap.size]?=_:=(h4 ▸ xac (by omega)).trans e13
 have e24:w4.heap[w.heap.size+1]?=_:=(h4 ▸ xac (by omega)).trans e23
 have e34:w4.heap[w.heap.size+2]?=_:=(h4 ▸ xac (by omega)).trans e3
 have b4:Below w.heap.size w w4:=h4 ▸ b3.alloc (by omega) _
 rw[h4];clear h4
 refine⟨⟨(xac (by omega)).trans e14,(xac (by omega)).trans e24,(xac (by omega)).trans e34,(xac (by omega)).trans e4,b4.alloc (by omega) _⟩,?_⟩
 rw[← z4,heap_alloc_new,heap_alloc_new]
def uK (T:Hd) (k:Nat):Hd:={ xae with rf:=if 0<k then T.rf else 0,rl:=if 0<k then T.rl else 0,mf:=if 1<k then T.mf else 0,ml:=if 1<k then T.ml else 0,lf:=if 2<k then T.lf else 0,ll:=if 2<k then T.ll else 0,df:=if 3<k then T.df else 0,dl:=if 3<k then T.dl else 0 }
theorem xA6 (t:ByteArray) (k:Nat) (h:k<4):xdg (cH (uK (xaN t) k)) (2*k) (fun j=>.int .u64 (nmB t (8+16*k+8*j) 8)) 2=cH (uK (xaN t) (k+1)):=by
 obtain rfl|rfl|rfl|rfl:k=0∨k=1∨k=2∨k=3:=by omega
 all_goals simp[xdg,cH,uK,xyU,xza,xyq,xAb,xx3,xy0,xzi,xyz]
def fA (T:Hd):Hd:={ uK T 4 with ad:=T.ad,en:=T.en,co:=T.co }
def fB (T:Hd):Hd:={ fA T with inn:=T.inn,out:=T.out,knd:=T.knd }
def fC (T:Hd):Hd:={ fB T with z0:=T.z0,z1:=T.z1 }
def fD (T:Hd):Hd:={ fC T with lo0:=T.lo0,la0:=T.la0,lo1:=T.lo1,la1:=T.la1 }
def fE (T:Hd):Hd:={ fD T with zm:=T.zm }
def fF (T:Hd):Hd:={ T with cl:=false }
theorem xAX (t:ByteArray):xdg (cH (uK (xaN t) 4)) 8 (fun j=>.int .u64 (nmB t (72+8*j) 8)) 3=cH (fA (xaN t)):=by
 simp only[xdg,cH,uK,fA,xzu,xyp,xzM,List.setIfInBounds_toArray,List.set_cons_zero,List.set_cons_succ,Nat.reduceAdd,Nat.reduceMul]
theorem xBR (t:ByteArray):(((cH (fA (xaN t))).setIfInBounds 12 (.int .u8 (nmB t 97 1))).setIfInBounds 13 (.int .u8 (nmB t 98 1))).setIfInBounds 14 (.int .u8 (nmB t 99 1))=cH (fB (xaN t)):=by
 simp only[cH,fB,fA,xv6,xvO,xve,List.setIfInBounds_toArray,List.set_cons_zero,List.set_cons_succ]
theorem xAR (t:ByteArray):xdg (cH (fB (xaN t))) 15 (fun j=>.int .i64 (nmB t (100+1*j) 1)) 2=cH (fC (xaN t)):=by
 simp only[xdg,cH,fB,fC,xyV,xy2,List.setIfInBounds_toArray,List.set_cons_zero,List.set_cons_succ,Nat.reduceAdd,Nat.reduceMul]
theorem xBf (t:ByteArray):xdg (cH (fC (xaN t))) 17 (fun j=>.int .i64 (sgB t (102+4*j))) 4=cH (fD (xaN t)):=by
 simp only[xdg,cH,fD,fC,xvB,xv5,xuw,xvK,List.setIfInBounds_toArray,List.set_cons_zero,List.set_cons_succ,Nat.reduceAdd,Nat.reduceMul]
theorem xAY (t:ByteArray):xdg (cH (fD (xaN t))) 21 (fun j=>.int .i64 (nmB t (118+1*j) 1)) 1=cH (fE (xaN t)):=by
 simp only[xdg,cH,fE,fD,xxJ,List.setIfInBounds_toArray,List.set_cons_zero,List.set_cons_succ,Nat.reduceAdd,Nat.reduceMul]
theorem xA5 (t:ByteArray):xdg (cH (fE (xaN t))) 22 (fun j=>.int .i64 (sgB t (119+4*j))) 2=cH (fF (xaN t)):=by
 simp only[xdg,cH,fF,fE,fD,fC,fB,fA,uK,xae,xuO,xvR,List.setIfInBounds_toArray,List.set_cons_zero,List.set_cons_succ,Nat.reduceAdd,Nat.reduceMul]
 simp
theorem xCa (T:Hd):(cH (fF T)).setIfInBounds 11 (.bool T.cl)=cH T:=by
 simp only[cH,fF,List.setIfInBounds_toArray,List.set_cons_zero,List.set_cons_succ]
theorem xhI (w:World) (o:Obj):(w.alloc o).heap[w.heap.size]?=some o:=by
 show (w.heap.push o)[w.heap.size]?=_
 simp
def Box (w:World) (b:Nat) (arr:Array Value):Prop:=∃ T,w.heap[b]?=some (.cells arr T (0,0))
theorem xiB (w:World) (arr:Array Value) (T:TypeId):Box (w.alloc (.cells arr T)) w.heap.size arr:=⟨T,xhI w _⟩
theorem Box.lt {w:World} {b:Nat} {arr:Array Value} (h:Box w b arr):b<w.heap.size:=by obtain⟨T,h⟩:=h;exact(Array.getElem?_eq_some_iff.1 h).1
theorem Box.below {w w':World} {b:Nat} {arr:Array Value} (h:Box w b arr) (hb:Below w.heap.size w w'):Box w' b arr:=by
 have hl:=h.lt
 obtain⟨T,h⟩:=h
 exact⟨T,(hb.block b hl).trans h⟩
theorem Box.cell {w:World} {b:Nat} {arr:Array Value} (h:Box w b arr) (j:Nat):w.cell? ⟨b,j,none⟩=arr[j]?:=by
 obtain⟨T,h⟩:=h
 simp[World.cell?,h]
theorem hset {w:World} {b:Nat} {arr:Array Value} {T:TypeId} (H:w.heap[b]?=some (.cells arr T (0,0))) (j:Nat) (v:Value):(w.setCell ⟨b,j,none⟩ v).heap[b]?=some (.cells (arr.setIfInBounds j v) T (0,0)):=by
 simp[World.setCell,Array.getElem?_modify,H]
theorem xen {w:World} {b b':Nat} {o:Obj} (H:w.heap[b]?=some o) (hn:b≠b') (j:Nat) (v:Value):(w.setCell ⟨b',j,none⟩ v).heap[b]?=some o:=(Below.heap_setCell _ _ _ _ (by simpa using hn)).trans H
theorem hrow {w:World} {b:Nat} {arr cs:Array Value} {T:TypeId} (H:w.heap[b]?=some (.cells arr T (0,0))) (hs:arr.size=cs.size):(w.setRow b cs).heap[b]?=some (.cells cs T (0,0)):=by
 simp[World.setRow,Array.getElem?_modify,H]
def xlq (s:Sc):Array Value:=#[.int .u64 s.rf,.int .u64 s.rl,.int .u64 s.mf,.int .u64 s.ml,.int .u64 s.lf,.int .u64 s.ll,.int .u64 s.df,.int .u64 s.dl]
def xdc (P:Pl) (w:World) (e:Ending) (w':World):Prop:=e=.returned (.tuple #[.agg (xlq P.sec),.int .u64 P.all,.int .i64 P.err])∧Below w.heap.size w w'
end Go.Proofs.YtjkgkmmkehnggaaGreatDoor
namespace Go.Proofs.YtjkgkmmkehnggaaGreatDoor
set_option linter.unusedVariables false
set_option linter.unusedSimpArgs false
open Go.RowKit
set_option maxRecDepth 100000
def xB9 (p:Pt):Array Value:=#[.string p.p0,.string p.p1,.string p.p2,.string p.p3]
def Few (p:Pt) (n:Nat):Prop:=p.p0.size≤n∧p.p1.size≤n∧p.p2.size≤n∧p.p3.size≤n
theorem xhd {p:Pt} (h:Few p 200000000):xdf p=⟨⟨127,p.p0.size,127+p.p0.size,p.p1.size,127+p.p0.size+p.p1.size,p.p2.size,127+p.p0.size+p.p1.size+p.p2.size,p.p3.size⟩,127+p.p0.size+p.p1.size+p.p2.size+p.p3.size,0⟩:=by
 obtain⟨h0,h1,h2,h3⟩:=h
 unfold xdf xrj
 rw[if_neg (by unfold xgW;omega)]
theorem xmG {p:Pt} (h:Few p 200000000):xCS (xdf p).sec:=by
 rw[xhd h]
 obtain⟨h0,h1,h2,h3⟩:=h
 unfold xCS U64
 simp only
 omega
theorem xnL {h:Hd} {s:Sc} (hm:xeR h) (hs:xCS s):xeR (xde h s):=by
 obtain⟨a0,a1,a2,a3,a4,a5,a6,a7,r⟩:=hm
 obtain⟨b0,b1,b2,b3,b4,b5,b6,b7⟩:=hs
 exact⟨b0,b1,b2,b3,b4,b5,b6,b7,r⟩
end Go.Proofs.YtjkgkmmkehnggaaGreatDoor
