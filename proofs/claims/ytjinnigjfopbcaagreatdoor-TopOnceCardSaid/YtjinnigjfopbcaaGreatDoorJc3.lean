/- cMN cMR. -/
import Derived.Test.YtjinnigjfopbcaaGreatDoorJc2
import Derived.Test.YtjinnigjfopbcaaGreatDoorJs
set_option maxHeartbeats 16000000
namespace Go.Proofs.YtjinnigjfopbcaaGreatDoor
set_option linter.unusedVariables false
set_option linter.unusedSimpArgs false
open Go.RowKit
set_option maxRecDepth 20000
def xa7 (w:World) (ps:Nat→Addr) (val:Nat→Value):Nat→World
 | 0=>w
 | k+1=>(xa7 w ps val k).setCell (ps k) (val k)
theorem xc2 (w:World) (ps:Nat→Addr) (val:Nat→Value) (k:Nat):(xa7 w ps val k).heap.size=w.heap.size:=by
 induction k with
 | zero=>rfl
 | succ k ih=>rw[xa7,World.size_setCell,ih]
theorem xc3 (w:World) (ps:Nat→Addr) (val:Nat→Value) (k:Nat) (a:Addr) (h:∀ i,i<k→a.block≠(ps i).block):(xa7 w ps val k).cell? a=w.cell? a:=by
 induction k with
 | zero=>rfl
 | succ k ih=>rw[xa7,xbH _ (h k (by omega)),ih (fun i hi=>h i (by omega))]
theorem xed (w:World) (ps:Nat→Addr) (val:Nat→Value) (k b:Nat) (h:∀ i,i<k→b≠(ps i).block):(xa7 w ps val k).heap[b]?=w.heap[b]?:=by
 induction k with
 | zero=>rfl
 | succ k ih=>rw[xa7,Below.heap_setCell _ _ _ _ (h k (by omega)),ih (fun i hi=>h i (by omega))]
def xbZ (w:World) (a:Addr):Prop:=(∃ v,w.cell? a=some v)∧w.frozen? a=false
theorem xbZ.setCell {w:World} {a p:Addr} {v:Value} (h:xbZ w a):xbZ (w.setCell p v) a:=by
 obtain⟨⟨u,h1⟩,h2⟩:=h
 refine⟨?_,by rw[World.frozen?_setCell];exact h2⟩
 by_cases e:a=p
 ·subst e
  exact⟨v,World.cell?_setCell_same _ _ _ h1⟩
 ·exact⟨u,by rw[World.cell?_setCell_other _ _ _ _ (fun e2=>e e2.symm)];exact h1⟩
theorem xdb (w:World) (ps:Nat→Addr) (val:Nat→Value) (k:Nat) (a:Addr) (h:xbZ w a):xbZ (xa7 w ps val k) a:=by
 induction k with
 | zero=>exact h
 | succ k ih=>exact ih.setCell
theorem xbZ.below {B:Nat} {w w':World} {a:Addr} (h:xbZ w a) (hb:Below B w w') (hB:a.block<B):xbZ w' a:=by
 obtain⟨⟨u,h1⟩,h2⟩:=h
 refine⟨⟨u,(hb.cell hB).trans h1⟩,?_⟩
 unfold World.frozen? at h2 ⊢
 rw[hb.block _ hB];exact h2
theorem xc7 {B:Nat} {a c:World} {p:Addr} {v:Value} (h:Below B a c):Below B (a.setCell p v) (c.setCell p v):=by
 refine⟨h.os,h.tape,h.output,by rw[World.size_setCell,World.size_setCell];exact h.size,fun k hk=>?_⟩
 have:=h.block k hk
 unfold World.setCell
 simp only[Array.getElem?_modify]
 rw[this]
def xir (w:World) (v:Value) (ps:Nat→Addr) (n:Nat):Prop :=
 ∃ b cap,v=.slice (some ⟨b,0,none⟩) n cap∧n≤cap∧cap≤maxLen∧b<w.heap.size∧∀ i,i<n→w.cell? ⟨b,i,none⟩=some (.pointer (some (ps i)))∧b≠(ps i).block∧(ps i).spot=none
def xgJ (w:World) (t:ByteArray) (q:Nat) (ps:Nat→Addr) (val:Nat→Value) (n:Nat) (e:Ending) (w':World):Prop :=
 e=.returned (.agg #[.string t,.int .i64 q,.int .i64 0])∧Below w.heap.size (xa7 w ps val n) w'
def xaz (w:World) (b:Nat) (t:ByteArray) (q:Int):Prop:=w.heap[b]?=some (.cells #[.string t,.int .i64 q,.int .i64 0] 204 (0,0))
theorem xaz.lt {w:World} {b:Nat} {t:ByteArray} {q:Int} (h:xaz w b t q):b<w.heap.size:=by
 rcases Nat.lt_or_ge b w.heap.size with h'|h'
 ·exact h'
 ·unfold xaz at h;rw[Array.getElem?_eq_none h'] at h;cases h
theorem xaz.later {w w':World} {b:Nat} {t:ByteArray} {q:Int} (h:xaz w b t q) (hb:Below w.heap.size w w'):xaz w' b t q:=(hb.block b h.lt).trans h
theorem xaz.cells {w:World} {b:Nat} {t:ByteArray} {q:Int} (h:xaz w b t q):w.cell? ⟨b,0,none⟩=some (.string t)∧w.cell? ⟨b,1,none⟩=some (.int .i64 q)∧w.cell? ⟨b,2,none⟩=some (.int .i64 0)∧∀ o,w.frozen? ⟨b,o,none⟩=false:=by
 unfold xaz at h
 refine⟨xai h 0,xai h 1,xai h 2,fun o=>by simp[World.frozen?,h]⟩
theorem xaz.apart {w:World} {b:Nat} {t:ByteArray} {q:Int} {p:Addr} {v:Value} (h:xaz w b t q) (hp:b≠p.block):xaz (w.setCell p v) b t q:=(Below.heap_setCell _ _ _ _ hp).trans h
theorem xaz.on {w:World} {b:Nat} {t:ByteArray} {q r:Int} (h:xaz w b t q):xaz (((w.setCell ⟨b,0,none⟩ (.string t)).setCell ⟨b,1,none⟩ (.int .i64 r)).setCell ⟨b,2,none⟩ (.int .i64 0)) b t r :=
 xaS (i:=2) (xaS (i:=1) (xaS (i:=0) h _) _) _
set_option maxRecDepth 20000 in
theorem xo2 (t:ByteArray) (p0 m:Nat) (v:Value) (ps:Nat→Addr) (w:World) (hm:t.size≤maxLen) (hv:xir w v ps m) (hp:∀ i,i<m→xbZ w (ps i)∧(ps i).block<w.heap.size) (hs:p0+8*m≤t.size) :
  Calls Tryz.prog 243 #[.agg #[.string t,.int .i64 p0,.int .i64 0],.int .i64 8,v] w (xgJ w t (p0+8*m) ps (fun k=>.int .u64 (nmB t (p0+8*k) 8)) m):=by
 obtain⟨c,cap,rfl,hc1,hc2,hc,hcell⟩:=hv
 have HC:=lH hcell;clear hcell
 have HP:=lH hp;clear hp
 have hml:m≤9223372036854775807:=by unfold maxLen at hc2;omega
 have HM:=lH hm;clear hm
 go_enter Tryz.func243,Tryz.ntmps243
 have hS0:xaz ((w.alloc (.cells #[.string t,.int .i64 p0,.int .i64 0] 204)).alloc (.cells #[.string ⟨#[]⟩,.int .i64 0,.int .i64 0] 204)) w.heap.size t ((p0+8*0:Nat):Int):=((Below.refl _ _).alloc (B:=w.heap.size+1) (by rw[World.size_alloc];omega) _).block _ (by omega) |>.trans (heap_alloc_new w _)
 have hR0:xaz ((w.alloc (.cells #[.string t,.int .i64 p0,.int .i64 0] 204)).alloc (.cells #[.string ⟨#[]⟩,.int .i64 0,.int .i64 0] 204)) (w.heap.size+1) ⟨#[]⟩ 0:=by
  have:=heap_alloc_new (w.alloc (.cells #[.string t,.int .i64 p0,.int .i64 0] 204)) (.cells #[.string ⟨#[]⟩,.int .i64 0,.int .i64 0] 204)
  rw[World.size_alloc] at this
  exact this
 have hB0:Below w.heap.size w ((w.alloc (.cells #[.string t,.int .i64 p0,.int .i64 0] 204)).alloc (.cells #[.string ⟨#[]⟩,.int .i64 0,.int .i64 0] 204)):=((Below.refl _ _).alloc (Nat.le_refl _) _).alloc (by rw[World.size_alloc];omega) _
 have HS0:=lH hS0
 have HR0:=lH hR0
 have HB0:=lH hB0
 clear hS0 hR0 hB0
 go_wp2_with fail
 go_loopw [12] (fun i wr=>∃ k:Nat,k≤m∧i=.int .i64 k∧xaz wr w.heap.size t ((p0+8*k:Nat):Int)∧xaz wr (w.heap.size+1) ⟨#[]⟩ 0∧Below w.heap.size (xa7 w ps (fun k=>.int .u64 (nmB t (p0+8*k) 8)) k) wr) (fun i _=>m - (intOf i).toNat)
 case atStart=>exact⟨0,Nat.zero_le _,rfl,HS0.out,HR0.out,HB0.out⟩
 case round =>
  obtain⟨k,hk,rfl,hS,hR,hb⟩:=hrel
  by_cases hlt:k<m
  ·obtain⟨hc1,hcn,hsp⟩:=HC.out k hlt
   obtain⟨hop,hpb⟩:=HP.out k hlt
   have hsz:(xa7 w ps (fun k=>.int .u64 (nmB t (p0+8*k) 8)) k).heap.size=w.heap.size:=xc2 _ _ _ _
   have hrs:=hb.size
   rw[hsz] at hrs
   have c1:=(hb.cell (p:=⟨c,k,none⟩) hc).trans ((xc3 _ _ _ _ _ (fun i hi=>(HC.out i (by omega)).2.1)).trans hc1)
   have hop1:=(xdb w ps (fun k=>.int .u64 (nmB t (p0+8*k) 8)) k _ hop).below hb hpb
   have HE:Hid (((p0+8*(k+1):Nat):Int)=((p0+8*k:Nat):Int)+8):=lH (by rw[Nat.mul_succ];omega)
   have hq8:p0+8*k+8≤t.size:=by have:=Nat.mul_le_mul_left 8 (show k+1≤m from hlt);omega
   have hval:∃ y:Value,y=(fun k=>.int .u64 (nmB t (p0+8*k) 8)) k:=⟨_,rfl⟩
   obtain⟨q,hq⟩:∃ q,p0+8*k=q:=⟨_,rfl⟩
   have HQ:=lH hq
   rw[hq] at hS HE hq8
   have HN:Hid (∀ W,Calls Tryz.prog 166 #[.agg #[.string t,.int .i64 q,.int .i64 0],.int .i64 8] W fun e w'=>e=.returned (.tuple #[.int .u64 (nmB t q 8),.agg #[.string t,.int .i64 ((q:Int)+8),.int .i64 0]])∧Below W.heap.size W w'):=lH (fun W=>by
    have:=xhO t q 8 W HM.out (by omega) (by omega) hq8
    rw[show ((q+8:Nat):Int)=(q:Int)+8 from by omega] at this
    exact this)
   clear hq hval
   obtain⟨s0,s1,s2,sf⟩:=hS.cells
   have HS:=lH hS
   have HR:=lH hR
   have HB:=lH hb
   have HO:=lH hop1
   clear hS hR hb hop hop1 hc1 hsz hcn
   obtain⟨x,hx⟩:∃ x,nmB t q 8=x:=⟨_,rfl⟩
   have HX:=lH hx
   rw[hx] at HN
   clear hx hq8
   go_wp2_with fail
   refine(HN.out _).mono ?_
   rintro e w2 ⟨rfl,hb2⟩
   have hS2:=HS.out.later hb2
   have hR2:=HR.out.later hb2
   obtain⟨p,hp⟩:∃ p,ps k=p:=⟨_,rfl⟩
   have hO2:=HO.out.below hb2 (by omega)
   rw[hp] at hO2 hpb hsp ⊢
   have HPP:=lH hp
   clear hp
   obtain⟨pb,po,sp⟩:=p
   simp only at hsp hpb
   subst hsp
   obtain⟨⟨u,o1⟩,o2⟩:=hO2
   obtain⟨r0,r1,r2,rf⟩:=hS2.cells
   have hB2:=HB.out.trans (hb2.mono (by omega))
   have HS2:=lH hS2
   have HR2:=lH hR2
   have HB2:=lH hB2
   have hn1:¬ pb=w.heap.size:=by omega
   have hn2:¬ w.heap.size=pb:=by omega
   clear hb2 hS2 hR2 hB2 HS HR HB HO s0 s1 s2 sf
   go_wp2_with fail
   have hset:xa7 w ps (fun k=>.int .u64 (nmB t (p0+8*k) 8)) (k+1)=(xa7 w ps (fun k=>.int .u64 (nmB t (p0+8*k) 8)) k).setCell ⟨pb,po,none⟩ (.int .u64 x):=by
    rw[xa7,HPP.out,HQ.out,HX.out]
   have HSET:=lH hset
   clear hset
   go_roundw
   case rel =>
    refine⟨k+1,by omega,by go_num,?_,?_,?_⟩
    ·rw[HE.out];exact HS2.out.on.apart hn2
    ·exact(((HR2.out.apart (by simp)).apart (by simp)).apart (by simp)).apart (by simp;omega)
    ·rw[HSET.out];exact xc7 (((HB2.out.setCell (Nat.le_refl _) _).setCell (Nat.le_refl _) _).setCell (Nat.le_refl _) _)
   case measure=>simp[intOf];omega
  ·obtain rfl:k=m:=by omega
   obtain⟨q,hq⟩:∃ q,p0+8*k=q:=⟨_,rfl⟩
   have HQ:=lH hq
   rw[hq] at hS
   obtain⟨r0,r1,r2,rf⟩:=hS.cells
   obtain⟨t0,t1,t2,tf⟩:=hR.cells
   have HB:=lH hb
   clear hS hR hb hq
   go_wp2_with fail
   refine bodyPost_ret (v:=.agg #[.string t,.int .i64 q,.int .i64 0]) (by simp[results,Tryz.results243,go_sem,t0,t1,t2]) rfl ⟨by rw[HQ.out],((HB.out.setCell (by simp) _).setCell (by simp) _).setCell (by simp) _⟩
set_option maxRecDepth 20000 in
theorem xn8 (t:ByteArray) (p0 m:Nat) (v:Value) (ps:Nat→Addr) (w:World) (hm:t.size≤maxLen) (hv:xir w v ps m) (hp:∀ i,i<m→xbZ w (ps i)∧(ps i).block<w.heap.size) (hs:p0+1*m≤t.size) :
  Calls Tryz.prog 244 #[.agg #[.string t,.int .i64 p0,.int .i64 0],.int .i64 1,v] w (xgJ w t (p0+1*m) ps (fun k=>.int .u8 (nmB t (p0+1*k) 1)) m):=by
 obtain⟨c,cap,rfl,hc1,hc2,hc,hcell⟩:=hv
 have HC:=lH hcell;clear hcell
 have HP:=lH hp;clear hp
 have hml:m≤9223372036854775807:=by unfold maxLen at hc2;omega
 have HM:=lH hm;clear hm
 go_enter Tryz.func244,Tryz.ntmps244
 have hS0:xaz ((w.alloc (.cells #[.string t,.int .i64 p0,.int .i64 0] 204)).alloc (.cells #[.string ⟨#[]⟩,.int .i64 0,.int .i64 0] 204)) w.heap.size t ((p0+1*0:Nat):Int):=((Below.refl _ _).alloc (B:=w.heap.size+1) (by rw[World.size_alloc];omega) _).block _ (by omega) |>.trans (heap_alloc_new w _)
 have hR0:xaz ((w.alloc (.cells #[.string t,.int .i64 p0,.int .i64 0] 204)).alloc (.cells #[.string ⟨#[]⟩,.int .i64 0,.int .i64 0] 204)) (w.heap.size+1) ⟨#[]⟩ 0:=by
  have:=heap_alloc_new (w.alloc (.cells #[.string t,.int .i64 p0,.int .i64 0] 204)) (.cells #[.string ⟨#[]⟩,.int .i64 0,.int .i64 0] 204)
  rw[World.size_alloc] at this
  exact this
 have hB0:Below w.heap.size w ((w.alloc (.cells #[.string t,.int .i64 p0,.int .i64 0] 204)).alloc (.cells #[.string ⟨#[]⟩,.int .i64 0,.int .i64 0] 204)):=((Below.refl _ _).alloc (Nat.le_refl _) _).alloc (by rw[World.size_alloc];omega) _
 have HS0:=lH hS0
 have HR0:=lH hR0
 have HB0:=lH hB0
 clear hS0 hR0 hB0
 go_wp2_with fail
 go_loopw [12] (fun i wr=>∃ k:Nat,k≤m∧i=.int .i64 k∧xaz wr w.heap.size t ((p0+1*k:Nat):Int)∧xaz wr (w.heap.size+1) ⟨#[]⟩ 0∧Below w.heap.size (xa7 w ps (fun k=>.int .u8 (nmB t (p0+1*k) 1)) k) wr) (fun i _=>m - (intOf i).toNat)
 case atStart=>exact⟨0,Nat.zero_le _,rfl,HS0.out,HR0.out,HB0.out⟩
 case round =>
  obtain⟨k,hk,rfl,hS,hR,hb⟩:=hrel
  by_cases hlt:k<m
  ·obtain⟨hc1,hcn,hsp⟩:=HC.out k hlt
   obtain⟨hop,hpb⟩:=HP.out k hlt
   have hsz:(xa7 w ps (fun k=>.int .u8 (nmB t (p0+1*k) 1)) k).heap.size=w.heap.size:=xc2 _ _ _ _
   have hrs:=hb.size
   rw[hsz] at hrs
   have c1:=(hb.cell (p:=⟨c,k,none⟩) hc).trans ((xc3 _ _ _ _ _ (fun i hi=>(HC.out i (by omega)).2.1)).trans hc1)
   have hop1:=(xdb w ps (fun k=>.int .u8 (nmB t (p0+1*k) 1)) k _ hop).below hb hpb
   have HE:Hid (((p0+1*(k+1):Nat):Int)=((p0+1*k:Nat):Int)+1):=lH (by rw[Nat.mul_succ];omega)
   have hq8:p0+1*k+1≤t.size:=by have:=Nat.mul_le_mul_left 1 (show k+1≤m from hlt);omega
   have hval:∃ y:Value,y=(fun k=>.int .u8 (nmB t (p0+1*k) 1)) k:=⟨_,rfl⟩
   obtain⟨q,hq⟩:∃ q,p0+1*k=q:=⟨_,rfl⟩
   have HQ:=lH hq
   rw[hq] at hS HE hq8
   have HN:Hid (∀ W,Calls Tryz.prog 166 #[.agg #[.string t,.int .i64 q,.int .i64 0],.int .i64 1] W fun e w'=>e=.returned (.tuple #[.int .u64 (nmB t q 1),.agg #[.string t,.int .i64 ((q:Int)+1),.int .i64 0]])∧Below W.heap.size W w'):=lH (fun W=>by
    have:=xhO t q 1 W HM.out (by omega) (by omega) hq8
    rw[show ((q+1:Nat):Int)=(q:Int)+1 from by omega] at this
    exact this)
   clear hq hval
   obtain⟨s0,s1,s2,sf⟩:=hS.cells
   have HS:=lH hS
   have HR:=lH hR
   have HB:=lH hb
   have HO:=lH hop1
   clear hS hR hb hop hop1 hc1 hsz hcn
   have hxb:=xmK t q 1 hq8
   rw[xhF] at hxb
   obtain⟨x,hx⟩:∃ x,nmB t q 1=x:=⟨_,rfl⟩
   have HX:=lH hx
   rw[hx] at HN hxb
   have hwx:IntKind.u8.wrap x=x:=by rw[IntKind.wrap_u8] <;> omega
   clear hx hq8
   go_wp2_with fail
   refine(HN.out _).mono ?_
   rintro e w2 ⟨rfl,hb2⟩
   have hS2:=HS.out.later hb2
   have hR2:=HR.out.later hb2
   obtain⟨p,hp⟩:∃ p,ps k=p:=⟨_,rfl⟩
   have hO2:=HO.out.below hb2 (by omega)
   rw[hp] at hO2 hpb hsp ⊢
   have HPP:=lH hp
   clear hp
   obtain⟨pb,po,sp⟩:=p
   simp only at hsp hpb
   subst hsp
   obtain⟨⟨u,o1⟩,o2⟩:=hO2
   obtain⟨r0,r1,r2,rf⟩:=hS2.cells
   have hB2:=HB.out.trans (hb2.mono (by omega))
   have HS2:=lH hS2
   have HR2:=lH hR2
   have HB2:=lH hB2
   have hn1:¬ pb=w.heap.size:=by omega
   have hn2:¬ w.heap.size=pb:=by omega
   clear hb2 hS2 hR2 hB2 HS HR HB HO s0 s1 s2 sf
   go_wp2_with fail
   have hset:xa7 w ps (fun k=>.int .u8 (nmB t (p0+1*k) 1)) (k+1)=(xa7 w ps (fun k=>.int .u8 (nmB t (p0+1*k) 1)) k).setCell ⟨pb,po,none⟩ (.int .u8 x):=by
    rw[xa7,HPP.out,HQ.out,HX.out]
   have HSET:=lH hset
   clear hset
   go_roundw
   case rel =>
    refine⟨k+1,by omega,by go_num,?_,?_,?_⟩
    ·rw[HE.out];exact HS2.out.on.apart hn2
    ·exact(((HR2.out.apart (by simp)).apart (by simp)).apart (by simp)).apart (by simp;omega)
    ·rw[HSET.out];exact xc7 (((HB2.out.setCell (Nat.le_refl _) _).setCell (Nat.le_refl _) _).setCell (Nat.le_refl _) _)
   case measure=>simp[intOf];omega
  ·obtain rfl:k=m:=by omega
   obtain⟨q,hq⟩:∃ q,p0+1*k=q:=⟨_,rfl⟩
   have HQ:=lH hq
   rw[hq] at hS
   obtain⟨r0,r1,r2,rf⟩:=hS.cells
   obtain⟨t0,t1,t2,tf⟩:=hR.cells
   have HB:=lH hb
   clear hS hR hb hq
   go_wp2_with fail
   refine bodyPost_ret (v:=.agg #[.string t,.int .i64 q,.int .i64 0]) (by simp[results,Tryz.results244,go_sem,t0,t1,t2]) rfl ⟨by rw[HQ.out],((HB.out.setCell (by simp) _).setCell (by simp) _).setCell (by simp) _⟩
set_option maxRecDepth 20000 in
theorem xmY (t:ByteArray) (p0 m:Nat) (v:Value) (ps:Nat→Addr) (w:World) (hm:t.size≤maxLen) (hv:xir w v ps m) (hp:∀ i,i<m→xbZ w (ps i)∧(ps i).block<w.heap.size) (hs:p0+1*m≤t.size) :
  Calls Tryz.prog 245 #[.agg #[.string t,.int .i64 p0,.int .i64 0],.int .i64 1,v] w (xgJ w t (p0+1*m) ps (fun k=>.int .i64 (nmB t (p0+1*k) 1)) m):=by
 obtain⟨c,cap,rfl,hc1,hc2,hc,hcell⟩:=hv
 have HC:=lH hcell;clear hcell
 have HP:=lH hp;clear hp
 have hml:m≤9223372036854775807:=by unfold maxLen at hc2;omega
 have HM:=lH hm;clear hm
 go_enter Tryz.func245,Tryz.ntmps245
 have hS0:xaz ((w.alloc (.cells #[.string t,.int .i64 p0,.int .i64 0] 204)).alloc (.cells #[.string ⟨#[]⟩,.int .i64 0,.int .i64 0] 204)) w.heap.size t ((p0+1*0:Nat):Int):=((Below.refl _ _).alloc (B:=w.heap.size+1) (by rw[World.size_alloc];omega) _).block _ (by omega) |>.trans (heap_alloc_new w _)
 have hR0:xaz ((w.alloc (.cells #[.string t,.int .i64 p0,.int .i64 0] 204)).alloc (.cells #[.string ⟨#[]⟩,.int .i64 0,.int .i64 0] 204)) (w.heap.size+1) ⟨#[]⟩ 0:=by
  have:=heap_alloc_new (w.alloc (.cells #[.string t,.int .i64 p0,.int .i64 0] 204)) (.cells #[.string ⟨#[]⟩,.int .i64 0,.int .i64 0] 204)
  rw[World.size_alloc] at this
  exact this
 have hB0:Below w.heap.size w ((w.alloc (.cells #[.string t,.int .i64 p0,.int .i64 0] 204)).alloc (.cells #[.string ⟨#[]⟩,.int .i64 0,.int .i64 0] 204)):=((Below.refl _ _).alloc (Nat.le_refl _) _).alloc (by rw[World.size_alloc];omega) _
 have HS0:=lH hS0
 have HR0:=lH hR0
 have HB0:=lH hB0
 clear hS0 hR0 hB0
 go_wp2_with fail
 go_loopw [12] (fun i wr=>∃ k:Nat,k≤m∧i=.int .i64 k∧xaz wr w.heap.size t ((p0+1*k:Nat):Int)∧xaz wr (w.heap.size+1) ⟨#[]⟩ 0∧Below w.heap.size (xa7 w ps (fun k=>.int .i64 (nmB t (p0+1*k) 1)) k) wr) (fun i _=>m - (intOf i).toNat)
 case atStart=>exact⟨0,Nat.zero_le _,rfl,HS0.out,HR0.out,HB0.out⟩
 case round =>
  obtain⟨k,hk,rfl,hS,hR,hb⟩:=hrel
  by_cases hlt:k<m
  ·obtain⟨hc1,hcn,hsp⟩:=HC.out k hlt
   obtain⟨hop,hpb⟩:=HP.out k hlt
   have hsz:(xa7 w ps (fun k=>.int .i64 (nmB t (p0+1*k) 1)) k).heap.size=w.heap.size:=xc2 _ _ _ _
   have hrs:=hb.size
   rw[hsz] at hrs
   have c1:=(hb.cell (p:=⟨c,k,none⟩) hc).trans ((xc3 _ _ _ _ _ (fun i hi=>(HC.out i (by omega)).2.1)).trans hc1)
   have hop1:=(xdb w ps (fun k=>.int .i64 (nmB t (p0+1*k) 1)) k _ hop).below hb hpb
   have HE:Hid (((p0+1*(k+1):Nat):Int)=((p0+1*k:Nat):Int)+1):=lH (by rw[Nat.mul_succ];omega)
   have hq8:p0+1*k+1≤t.size:=by have:=Nat.mul_le_mul_left 1 (show k+1≤m from hlt);omega
   have hval:∃ y:Value,y=(fun k=>.int .i64 (nmB t (p0+1*k) 1)) k:=⟨_,rfl⟩
   obtain⟨q,hq⟩:∃ q,p0+1*k=q:=⟨_,rfl⟩
   have HQ:=lH hq
   rw[hq] at hS HE hq8
   have HN:Hid (∀ W,Calls Tryz.prog 166 #[.agg #[.string t,.int .i64 q,.int .i64 0],.int .i64 1] W fun e w'=>e=.returned (.tuple #[.int .u64 (nmB t q 1),.agg #[.string t,.int .i64 ((q:Int)+1),.int .i64 0]])∧Below W.heap.size W w'):=lH (fun W=>by
    have:=xhO t q 1 W HM.out (by omega) (by omega) hq8
    rw[show ((q+1:Nat):Int)=(q:Int)+1 from by omega] at this
    exact this)
   clear hq hval
   obtain⟨s0,s1,s2,sf⟩:=hS.cells
   have HS:=lH hS
   have HR:=lH hR
   have HB:=lH hb
   have HO:=lH hop1
   clear hS hR hb hop hop1 hc1 hsz hcn
   have hxb:=xmK t q 1 hq8
   rw[xhF] at hxb
   obtain⟨x,hx⟩:∃ x,nmB t q 1=x:=⟨_,rfl⟩
   have HX:=lH hx
   rw[hx] at HN hxb
   have hwx:wrap64 x=x:=by rw[IntWalk.wrap64_in _ (by omega)]
   have hwy:IntKind.i64.wrap x=x:=by rw[IntKind.wrap_i64] <;> omega
   clear hx hq8
   go_wp2_with fail
   refine(HN.out _).mono ?_
   rintro e w2 ⟨rfl,hb2⟩
   have hS2:=HS.out.later hb2
   have hR2:=HR.out.later hb2
   obtain⟨p,hp⟩:∃ p,ps k=p:=⟨_,rfl⟩
   have hO2:=HO.out.below hb2 (by omega)
   rw[hp] at hO2 hpb hsp ⊢
   have HPP:=lH hp
   clear hp
   obtain⟨pb,po,sp⟩:=p
   simp only at hsp hpb
   subst hsp
   obtain⟨⟨u,o1⟩,o2⟩:=hO2
   obtain⟨r0,r1,r2,rf⟩:=hS2.cells
   have hB2:=HB.out.trans (hb2.mono (by omega))
   have HS2:=lH hS2
   have HR2:=lH hR2
   have HB2:=lH hB2
   have hn1:¬ pb=w.heap.size:=by omega
   have hn2:¬ w.heap.size=pb:=by omega
   clear hb2 hS2 hR2 hB2 HS HR HB HO s0 s1 s2 sf
   go_wp2_with fail
   have hset:xa7 w ps (fun k=>.int .i64 (nmB t (p0+1*k) 1)) (k+1)=(xa7 w ps (fun k=>.int .i64 (nmB t (p0+1*k) 1)) k).setCell ⟨pb,po,none⟩ (.int .i64 x):=by
    rw[xa7,HPP.out,HQ.out,HX.out]
   have HSET:=lH hset
   clear hset
   go_roundw
   case rel =>
    refine⟨k+1,by omega,by go_num,?_,?_,?_⟩
    ·rw[HE.out];exact HS2.out.on.apart hn2
    ·exact(((HR2.out.apart (by simp)).apart (by simp)).apart (by simp)).apart (by simp;omega)
    ·rw[HSET.out];exact xc7 (((HB2.out.setCell (Nat.le_refl _) _).setCell (Nat.le_refl _) _).setCell (Nat.le_refl _) _)
   case measure=>simp[intOf];omega
  ·obtain rfl:k=m:=by omega
   obtain⟨q,hq⟩:∃ q,p0+1*k=q:=⟨_,rfl⟩
   have HQ:=lH hq
   rw[hq] at hS
   obtain⟨r0,r1,r2,rf⟩:=hS.cells
   obtain⟨t0,t1,t2,tf⟩:=hR.cells
   have HB:=lH hb
   clear hS hR hb hq
   go_wp2_with fail
   refine bodyPost_ret (v:=.agg #[.string t,.int .i64 q,.int .i64 0]) (by simp[results,Tryz.results245,go_sem,t0,t1,t2]) rfl ⟨by rw[HQ.out],((HB.out.setCell (by simp) _).setCell (by simp) _).setCell (by simp) _⟩
set_option maxRecDepth 20000 in
theorem xi6 (t:ByteArray) (p0 m:Nat) (v:Value) (ps:Nat→Addr) (w:World) (hm:t.size≤maxLen) (hv:xir w v ps m) (hp:∀ i,i<m→xbZ w (ps i)∧(ps i).block<w.heap.size) (hs:p0+4*m≤t.size) :
  Calls Tryz.prog 246 #[.agg #[.string t,.int .i64 p0,.int .i64 0],v] w (xgJ w t (p0+4*m) ps (fun k=>.int .i64 (sgB t (p0+4*k))) m):=by
 obtain⟨c,cap,rfl,hc1,hc2,hc,hcell⟩:=hv
 have HC:=lH hcell;clear hcell
 have HP:=lH hp;clear hp
 have hml:m≤9223372036854775807:=by unfold maxLen at hc2;omega
 have HM:=lH hm;clear hm
 go_enter Tryz.func246,Tryz.ntmps246
 have hS0:xaz ((w.alloc (.cells #[.string t,.int .i64 p0,.int .i64 0] 204)).alloc (.cells #[.string ⟨#[]⟩,.int .i64 0,.int .i64 0] 204)) w.heap.size t ((p0+4*0:Nat):Int):=((Below.refl _ _).alloc (B:=w.heap.size+1) (by rw[World.size_alloc];omega) _).block _ (by omega) |>.trans (heap_alloc_new w _)
 have hR0:xaz ((w.alloc (.cells #[.string t,.int .i64 p0,.int .i64 0] 204)).alloc (.cells #[.string ⟨#[]⟩,.int .i64 0,.int .i64 0] 204)) (w.heap.size+1) ⟨#[]⟩ 0:=by
  have:=heap_alloc_new (w.alloc (.cells #[.string t,.int .i64 p0,.int .i64 0] 204)) (.cells #[.string ⟨#[]⟩,.int .i64 0,.int .i64 0] 204)
  rw[World.size_alloc] at this
  exact this
 have hB0:Below w.heap.size w ((w.alloc (.cells #[.string t,.int .i64 p0,.int .i64 0] 204)).alloc (.cells #[.string ⟨#[]⟩,.int .i64 0,.int .i64 0] 204)):=((Below.refl _ _).alloc (Nat.le_refl _) _).alloc (by rw[World.size_alloc];omega) _
 have HS0:=lH hS0
 have HR0:=lH hR0
 have HB0:=lH hB0
 clear hS0 hR0 hB0
 go_wp2_with fail
 go_loopw [12] (fun i wr=>∃ k:Nat,k≤m∧i=.int .i64 k∧xaz wr w.heap.size t ((p0+4*k:Nat):Int)∧xaz wr (w.heap.size+1) ⟨#[]⟩ 0∧Below w.heap.size (xa7 w ps (fun k=>.int .i64 (sgB t (p0+4*k))) k) wr) (fun i _=>m - (intOf i).toNat)
 case atStart=>exact⟨0,Nat.zero_le _,rfl,HS0.out,HR0.out,HB0.out⟩
 case round =>
  obtain⟨k,hk,rfl,hS,hR,hb⟩:=hrel
  by_cases hlt:k<m
  ·obtain⟨hc1,hcn,hsp⟩:=HC.out k hlt
   obtain⟨hop,hpb⟩:=HP.out k hlt
   have hsz:(xa7 w ps (fun k=>.int .i64 (sgB t (p0+4*k))) k).heap.size=w.heap.size:=xc2 _ _ _ _
   have hrs:=hb.size
   rw[hsz] at hrs
   have c1:=(hb.cell (p:=⟨c,k,none⟩) hc).trans ((xc3 _ _ _ _ _ (fun i hi=>(HC.out i (by omega)).2.1)).trans hc1)
   have hop1:=(xdb w ps (fun k=>.int .i64 (sgB t (p0+4*k))) k _ hop).below hb hpb
   have HE:Hid (((p0+4*(k+1):Nat):Int)=((p0+4*k:Nat):Int)+4):=lH (by rw[Nat.mul_succ];omega)
   have hq8:p0+4*k+4≤t.size:=by have:=Nat.mul_le_mul_left 4 (show k+1≤m from hlt);omega
   have hval:∃ y:Value,y=(fun k=>.int .i64 (sgB t (p0+4*k))) k:=⟨_,rfl⟩
   obtain⟨q,hq⟩:∃ q,p0+4*k=q:=⟨_,rfl⟩
   have HQ:=lH hq
   rw[hq] at hS HE hq8
   have HN:Hid (∀ W,Calls Tryz.prog 166 #[.agg #[.string t,.int .i64 q,.int .i64 0],.int .i64 4] W fun e w'=>e=.returned (.tuple #[.int .u64 (nmB t q 4),.agg #[.string t,.int .i64 ((q:Int)+4),.int .i64 0]])∧Below W.heap.size W w'):=lH (fun W=>by
    have:=xhO t q 4 W HM.out (by omega) (by omega) hq8
    rw[show ((q+4:Nat):Int)=(q:Int)+4 from by omega] at this
    exact this)
   clear hq hval
   obtain⟨s0,s1,s2,sf⟩:=hS.cells
   have HS:=lH hS
   have HR:=lH hR
   have HB:=lH hb
   have HO:=lH hop1
   clear hS hR hb hop hop1 hc1 hsz hcn hq8
   have HX:Hid (sgn (nmB t q 4) 4=sgB t q):=lH rfl
   obtain⟨x,hx⟩:∃ x,nmB t q 4=x:=⟨_,rfl⟩
   rw[hx] at HN HX
   have HG:=lH (fun W=>xl2 x 4 W (by omega) (by omega))
   rw[HX.out] at HG
   obtain⟨y,hy⟩:∃ y,sgB t q=y:=⟨_,rfl⟩
   rw[hy] at HG
   have HY:=lH hy
   clear hy
   clear hx
   go_wp2_with fail
   refine(HN.out _).mono ?_
   rintro e w2 ⟨rfl,hb2⟩
   have hS2:=HS.out.later hb2
   have hR2:=HR.out.later hb2
   obtain⟨p,hp⟩:∃ p,ps k=p:=⟨_,rfl⟩
   have hO2:=HO.out.below hb2 (by omega)
   rw[hp] at hO2 hpb hsp ⊢
   have HPP:=lH hp
   clear hp
   obtain⟨pb,po,sp⟩:=p
   simp only at hsp hpb
   subst hsp
   obtain⟨⟨u,o1⟩,o2⟩:=hO2
   obtain⟨r0,r1,r2,rf⟩:=hS2.cells
   have hB2:=HB.out.trans (hb2.mono (by omega))
   have HS2:=lH hS2
   have HR2:=lH hR2
   have HB2:=lH hB2
   have hn1:¬ pb=w.heap.size:=by omega
   have hn2:¬ w.heap.size=pb:=by omega
   clear hb2 hS2 hR2 hB2 HS HR HB HO s0 s1 s2 sf
   go_wp2_with fail
   refine(HG.out _).mono ?_
   rintro e w' ⟨rfl,rfl⟩
   go_wp2_with fail
   have hset:xa7 w ps (fun k=>.int .i64 (sgB t (p0+4*k))) (k+1)=(xa7 w ps (fun k=>.int .i64 (sgB t (p0+4*k))) k).setCell ⟨pb,po,none⟩ (.int .i64 y):=by
    rw[xa7,HPP.out,HQ.out,HY.out]
   have HSET:=lH hset
   clear hset
   go_roundw
   case rel =>
    refine⟨k+1,by omega,by go_num,?_,?_,?_⟩
    ·rw[HE.out];exact HS2.out.on.apart hn2
    ·exact(((HR2.out.apart (by simp)).apart (by simp)).apart (by simp)).apart (by simp;omega)
    ·rw[HSET.out];exact xc7 (((HB2.out.setCell (Nat.le_refl _) _).setCell (Nat.le_refl _) _).setCell (Nat.le_refl _) _)
   case measure=>simp[intOf];omega
  ·obtain rfl:k=m:=by omega
   obtain⟨q,hq⟩:∃ q,p0+4*k=q:=⟨_,rfl⟩
   have HQ:=lH hq
   rw[hq] at hS
   obtain⟨r0,r1,r2,rf⟩:=hS.cells
   obtain⟨t0,t1,t2,tf⟩:=hR.cells
   have HB:=lH hb
   clear hS hR hb hq
   go_wp2_with fail
   refine bodyPost_ret (v:=.agg #[.string t,.int .i64 q,.int .i64 0]) (by simp[results,Tryz.results246,go_sem,t0,t1,t2]) rfl ⟨by rw[HQ.out],((HB.out.setCell (by simp) _).setCell (by simp) _).setCell (by simp) _⟩
def xcA (C:Array Value) (o:Nat) (val:Nat→Value):Nat→Array Value
 | 0=>C
 | k+1=>(xcA C o val k).setIfInBounds (o+k) (val k)
theorem xot {w:World} {g o:Nat} {C:Array Value} {T:TypeId} {f:Nat × Nat} (val:Nat→Value) (k:Nat) (H:w.heap[g]?=some (.cells C T f)):(xa7 w (fun i=>⟨g,o+i,none⟩) val k).heap[g]?=some (.cells (xcA C o val k) T f):=by
 induction k with
 | zero=>exact H
 | succ k ih=>exact xaS ih _
theorem xfG {w0 w:World} {B:Nat} (ps:Nat→Addr) (val:Nat→Value) (k:Nat) (h:Below B w0 w) (hp:∀ i,i<k→B≤(ps i).block):Below B w0 (xa7 w ps val k):=by
 induction k with
 | zero=>exact h
 | succ k ih=>exact(ih (fun i hi=>hp i (by omega))).setCell (hp k (by omega)) _
def FAt (w wx:World) (t:ByteArray) (q:Int) (a:Hd) (c:Int):Prop :=
 xaz wx w.heap.size t q∧HAt wx (w.heap.size+1) 124 xac∧HAt wx (w.heap.size+2) 124 a∧wx.heap[w.heap.size+3]?=some (.cells #[.int .u8 c] 5 (0,0))∧Below w.heap.size w wx
theorem FAt.big {w wx:World} {t:ByteArray} {q c:Int} {a:Hd} (h:FAt w wx t q a c):w.heap.size+4≤wx.heap.size:=by
 rcases Nat.lt_or_ge (w.heap.size+3) wx.heap.size with h'|h'
 ·omega
 ·have:=h.2.2.2.1
  rw[Array.getElem?_eq_none h'] at this
  cases this
theorem FAt.scan {w wx:World} {t:ByteArray} {q c:Int} {a:Hd} (h:FAt w wx t q a c):wx.cell? ⟨w.heap.size,0,none⟩=some (.string t)∧wx.cell? ⟨w.heap.size,1,none⟩=some (.int .i64 q)∧wx.cell? ⟨w.heap.size,2,none⟩=some (.int .i64 0)∧∀ o,wx.frozen? ⟨w.heap.size,o,none⟩=false:=h.1.cells
theorem FAt.on {w wx:World} {t:ByteArray} {q r c:Int} {a:Hd} (h:FAt w wx t q a c):FAt w (((wx.setCell ⟨w.heap.size,0,none⟩ (.string t)).setCell ⟨w.heap.size,1,none⟩ (.int .i64 r)).setCell ⟨w.heap.size,2,none⟩ (.int .i64 0)) t r a c:=by
 have hk:∀ k,k≠w.heap.size→(((wx.setCell ⟨w.heap.size,0,none⟩ (.string t)).setCell ⟨w.heap.size,1,none⟩ (.int .i64 r)).setCell ⟨w.heap.size,2,none⟩ (.int .i64 0)).heap[k]?=wx.heap[k]?:=fun k hk=>by rw[xaE hk,xaE hk,xaE hk]
 exact⟨h.1.on,(hk _ (by omega)).trans h.2.1,(hk _ (by omega)).trans h.2.2.1,(hk _ (by omega)).trans h.2.2.2.1,((h.2.2.2.2.setCell (Nat.le_refl _) _).setCell (Nat.le_refl _) _).setCell (Nat.le_refl _) _⟩
theorem xab {w:World} {o:Obj} {k:Nat} (h:k<w.heap.size):(w.alloc o).heap[k]?=w.heap[k]?:=((Below.refl w.heap.size w).alloc (Nat.le_refl _) o).block k h
theorem xdv {w:World} {b k:Nat} {T:TypeId} {h:Hd} (H:HAt w b T h) (hk:k<24):xbZ w ⟨b,k,none⟩:=by
 refine⟨⟨_,(xai H k).trans (Array.getElem?_eq_getElem (by rw[xtE];exact hk))⟩,?_⟩
 unfold HAt at H
 simp[World.frozen?,H]
theorem xp2 {w:World} {b:Nat} {v:Value} {T:TypeId} (H:w.heap[b]?=some (.cells #[v] T (0,0))):xbZ w ⟨b,0,none⟩ :=
 ⟨⟨v,xai H 0⟩,by simp[World.frozen?,H]⟩
theorem xlr {wx w':World} {P:Obj} {g n:Nat} {off:Nat→Nat} {val:Nat→Value} (hb:Below (wx.alloc P).heap.size (xa7 (wx.alloc P) (fun i=>⟨g,off i,none⟩) val n) w') (k:Nat) (h1:k<wx.heap.size) (h2:k≠g):w'.heap[k]?=wx.heap[k]?:=by
 rw[hb.block k (by rw[World.size_alloc];omega),xed _ _ _ _ _ (fun i _=>h2),xab h1]
theorem FAt.take {w wx w':World} {t:ByteArray} {q c:Int} {a b:Hd} {o n:Nat} {val:Nat→Value} {P:Obj} (h:FAt w wx t q a c)
  (hb:Below (wx.alloc P).heap.size (xa7 (wx.alloc P) (fun i=>⟨w.heap.size+2,o+i,none⟩) val n) w') (hC:xcA (cH a) o val n=cH b):FAt w w' t q b c:=by
 have hz:=h.big
 have ha:(wx.alloc P).heap.size=wx.heap.size+1:=World.size_alloc ..
 have hk:∀ k,k<wx.heap.size→k≠w.heap.size+2→w'.heap[k]?=wx.heap[k]?:=fun k h1 h2=>by
  rw[hb.block k (by omega),xed _ _ _ _ _ (fun i _=>h2),xab h1]
 refine⟨(hk _ (by omega) (by omega)).trans h.1,(hk _ (by omega) (by omega)).trans h.2.1,?_,(hk _ (by omega) (by omega)).trans h.2.2.2.1,?_⟩
 ·unfold HAt
  rw[hb.block _ (by omega),← hC]
  exact xot val n ((xab (by omega)).trans h.2.2.1)
 ·exact(xfG _ val n (h.2.2.2.2.alloc (by omega) _) (fun i _=>by show w.heap.size≤w.heap.size+2;omega)).trans (hb.mono (by omega))
theorem xcY {w:World} (ps:Nat→Addr) (n:Nat) (cs:Array Value) (T:TypeId) (hn:n≤4) (hc:∀ i,i<n→cs[i]?=some (.pointer (some (ps i)))∧w.heap.size≠(ps i).block∧(ps i).spot=none):xir (w.alloc (.cells cs T)) (.slice (some ⟨w.heap.size,0,none⟩) n n) ps n:=by
 refine⟨_,_,rfl,Nat.le_refl _,by unfold maxLen;omega,by rw[World.size_alloc];omega,fun i hi=>⟨?_,(hc i hi).2⟩⟩
 exact(xai (heap_alloc_new w _) i).trans (hc i hi).1
theorem xno {w wx:World} {t:ByteArray} {q:Nat} {a b:Hd} {c:Int} (o n:Nat) (cs:Array Value) (T:TypeId) (hF:FAt w wx t q a c) (hm:t.size≤maxLen) (hn:n≤4) (ho:o+n≤24) (hq:q+8*n≤t.size)
  (hcs:∀ i,i<n→cs[i]?=some (.pointer (some ⟨w.heap.size+2,o+i,none⟩))) (hC:xcA (cH a) o (fun k=>.int .u64 (nmB t (q+8*k) 8)) n=cH b) :
  Calls Tryz.prog 243 #[.agg #[.string t,.int .i64 q,.int .i64 0],.int .i64 8,.slice (some ⟨wx.heap.size,0,none⟩) n n] (wx.alloc (.cells cs T)) fun e w'=>e=.returned (.agg #[.string t,.int .i64 ((q+8*n:Nat):Int),.int .i64 0])∧FAt w w' t q b c∧∀ k,k<wx.heap.size→k≠w.heap.size+2→w'.heap[k]?=wx.heap[k]?:=by
 have hz:=hF.big
 refine(xo2 t q n _ (fun i=>⟨w.heap.size+2,o+i,none⟩) _ hm (xcY _ n cs T hn (fun i hi=>⟨hcs i hi,by show wx.heap.size≠w.heap.size+2;omega,rfl⟩)) (fun i hi=>⟨xdv (T:=124) (h:=a) ((xab (by omega)).trans hF.2.2.1) (by omega),by rw[World.size_alloc];show w.heap.size+2<_;omega⟩) hq).mono ?_
 rintro e w' ⟨rfl,hb⟩
 exact⟨rfl,hF.take hb hC,xlr hb⟩
theorem xoC {w wx:World} {t:ByteArray} {q:Nat} {a b:Hd} {c:Int} (o n:Nat) (cs:Array Value) (T:TypeId) (hF:FAt w wx t q a c) (hm:t.size≤maxLen) (hn:n≤4) (ho:o+n≤24) (hq:q+1*n≤t.size)
  (hcs:∀ i,i<n→cs[i]?=some (.pointer (some ⟨w.heap.size+2,o+i,none⟩))) (hC:xcA (cH a) o (fun k=>.int .i64 (nmB t (q+1*k) 1)) n=cH b) :
  Calls Tryz.prog 245 #[.agg #[.string t,.int .i64 q,.int .i64 0],.int .i64 1,.slice (some ⟨wx.heap.size,0,none⟩) n n] (wx.alloc (.cells cs T)) fun e w'=>e=.returned (.agg #[.string t,.int .i64 ((q+1*n:Nat):Int),.int .i64 0])∧FAt w w' t q b c:=by
 have hz:=hF.big
 refine(xmY t q n _ (fun i=>⟨w.heap.size+2,o+i,none⟩) _ hm (xcY _ n cs T hn (fun i hi=>⟨hcs i hi,by show wx.heap.size≠w.heap.size+2;omega,rfl⟩)) (fun i hi=>⟨xdv (T:=124) (h:=a) ((xab (by omega)).trans hF.2.2.1) (by omega),by rw[World.size_alloc];show w.heap.size+2<_;omega⟩) hq).mono ?_
 rintro e w' ⟨rfl,hb⟩
 exact⟨rfl,hF.take hb hC⟩
theorem xiz {w wx:World} {t:ByteArray} {q:Nat} {a b:Hd} {c:Int} (o n:Nat) (cs:Array Value) (T:TypeId) (hF:FAt w wx t q a c) (hm:t.size≤maxLen) (hn:n≤4) (ho:o+n≤24) (hq:q+4*n≤t.size)
  (hcs:∀ i,i<n→cs[i]?=some (.pointer (some ⟨w.heap.size+2,o+i,none⟩))) (hC:xcA (cH a) o (fun k=>.int .i64 (sgB t (q+4*k))) n=cH b) :
  Calls Tryz.prog 246 #[.agg #[.string t,.int .i64 q,.int .i64 0],.slice (some ⟨wx.heap.size,0,none⟩) n n] (wx.alloc (.cells cs T)) fun e w'=>e=.returned (.agg #[.string t,.int .i64 ((q+4*n:Nat):Int),.int .i64 0])∧FAt w w' t q b c:=by
 have hz:=hF.big
 refine(xi6 t q n _ (fun i=>⟨w.heap.size+2,o+i,none⟩) _ hm (xcY _ n cs T hn (fun i hi=>⟨hcs i hi,by show wx.heap.size≠w.heap.size+2;omega,rfl⟩)) (fun i hi=>⟨xdv (T:=124) (h:=a) ((xab (by omega)).trans hF.2.2.1) (by omega),by rw[World.size_alloc];show w.heap.size+2<_;omega⟩) hq).mono ?_
 rintro e w' ⟨rfl,hb⟩
 exact⟨rfl,hF.take hb hC⟩
def psB (n:Nat) (i:Nat):Addr:=if i=0 then ⟨n+3,0,none⟩ else ⟨n+2,11+i,none⟩
theorem xtO {w wx:World} {t:ByteArray} {a b:Hd} {c:Int} (T:TypeId) (hF:FAt w wx t 96 a c) (hm:t.size≤maxLen) (hq:100≤t.size)
  (hC:(((cH a).setIfInBounds 12 (.int .u8 (nmB t 97 1))).setIfInBounds 13 (.int .u8 (nmB t 98 1))).setIfInBounds 14 (.int .u8 (nmB t 99 1))=cH b) :
  Calls Tryz.prog 244 #[.agg #[.string t,.int .i64 96,.int .i64 0],.int .i64 1,.slice (some ⟨wx.heap.size,0,none⟩) 4 4] (wx.alloc (.cells #[.pointer (some ⟨w.heap.size+3,0,none⟩),.pointer (some ⟨w.heap.size+2,12,none⟩),.pointer (some ⟨w.heap.size+2,13,none⟩),.pointer (some ⟨w.heap.size+2,14,none⟩)] T)) fun e w'=>e=.returned (.agg #[.string t,.int .i64 100,.int .i64 0])∧FAt w w' t 96 b (nmB t 96 1):=by
 have hz:=hF.big
 have ha:∀ P,(wx.alloc P).heap.size=wx.heap.size+1:=fun P=>World.size_alloc ..
 refine(xn8 t 96 4 _ (psB w.heap.size) _ hm (xcY _ 4 _ T (by omega) ?_) ?_ hq).mono ?_
 ·intro i hi
  obtain rfl|rfl|rfl|rfl:i=0∨i=1∨i=2∨i=3:=by omega
  all_goals exact⟨rfl,by simp[psB];omega,rfl⟩
 ·intro i hi
  obtain rfl|rfl|rfl|rfl:i=0∨i=1∨i=2∨i=3:=by omega
  ·exact⟨xp2 (T:=5) ((xab (by omega)).trans hF.2.2.2.1),by rw[ha];show w.heap.size+3<_;omega⟩
  all_goals exact⟨xdv (T:=124) (h:=a) ((xab (by omega)).trans hF.2.2.1) (by omega),by rw[ha];show w.heap.size+2<_;omega⟩
 rintro e w' ⟨rfl,hb⟩
 generalize Obj.cells _ T=P at hb
 have hk:∀ k,k<wx.heap.size→k≠w.heap.size+2→k≠w.heap.size+3→w'.heap[k]?=wx.heap[k]?:=fun k h1 h2 h3=>by
  rw[hb.block k (by rw[ha];omega),xed _ _ _ _ _ (fun i _=>by unfold psB;split <;> assumption),xab h1]
 refine⟨rfl,(hk _ (by omega) (by omega) (by omega)).trans hF.1,(hk _ (by omega) (by omega) (by omega)).trans hF.2.1,?_,?_,?_⟩
 ·unfold HAt
  rw[hb.block _ (by rw[ha];omega),← hC]
  have H:(wx.alloc P).heap[w.heap.size+2]?=some (.cells (cH a) 124 (0,0)):=(xab (by omega)).trans hF.2.2.1
  exact xaS (i:=14) (xaS (i:=13) (xaS (i:=12) ((xaE (i:=0) (v:=.int .u8 (nmB t 96 1)) (show w.heap.size+2≠w.heap.size+3 by omega)).trans H) _) _) _
 ·rw[hb.block _ (by rw[ha];omega)]
  have H:(wx.alloc P).heap[w.heap.size+3]?=some (.cells #[.int .u8 c] 5 (0,0)):=(xab (by omega)).trans hF.2.2.2.1
  have hne:w.heap.size+3≠w.heap.size+2:=by omega
  exact(xaE (i:=14) hne).trans ((xaE (i:=13) hne).trans ((xaE (i:=12) hne).trans (xaS (i:=0) H (.int .u8 (nmB t 96 1)))))
 ·exact(xfG _ _ 4 (hF.2.2.2.2.alloc (by omega) _) (fun i _=>by unfold psB;split <;> simp)).trans (hb.mono (by rw[ha];omega))
theorem xtv (w:World) (t:ByteArray) (R:Obj):FAt w (((((w.alloc (.cells #[.string t,.int .i64 8,.int .i64 0] 204)).alloc (.cells (cH xac) 124)).alloc (.cells (cH xac) 124)).alloc (.cells #[.int .u8 0] 5)).alloc R) t 8 xac 0∧(((((w.alloc (.cells #[.string t,.int .i64 8,.int .i64 0] 204)).alloc (.cells (cH xac) 124)).alloc (.cells (cH xac) 124)).alloc (.cells #[.int .u8 0] 5)).alloc R).heap[w.heap.size+4]?=(w.alloc R).heap[w.heap.size]?:=by
 obtain⟨w1,h1⟩:∃ x,w.alloc (.cells #[.string t,.int .i64 8,.int .i64 0] 204)=x:=⟨_,rfl⟩
 have z1:w1.heap.size=w.heap.size+1:=by rw[← h1,World.size_alloc]
 have e1:w1.heap[w.heap.size]?=_:=h1 ▸ heap_alloc_new w _
 have b1:Below w.heap.size w w1:=h1 ▸ (Below.refl _ _).alloc (Nat.le_refl _) _
 rw[h1];clear h1
 obtain⟨w2,h2⟩:∃ x,w1.alloc (.cells (cH xac) 124)=x:=⟨_,rfl⟩
 have z2:w2.heap.size=w.heap.size+2:=by rw[← h2,World.size_alloc,z1]
 have e2:w2.heap[w.heap.size+1]?=_:=z1 ▸ h2 ▸ heap_alloc_new w1 _
 have e12:w2.heap[w.heap.size]?=_:=(h2 ▸ xab (by omega)).trans e1
 have b2:Below w.heap.size w w2:=h2 ▸ b1.alloc (by omega) _
 rw[h2];clear h2
 obtain⟨w3,h3⟩:∃ x,w2.alloc (.cells (cH xac) 124)=x:=⟨_,rfl⟩
 have z3:w3.heap.size=w.heap.size+3:=by rw[← h3,World.size_alloc,z2]
 have e3:w3.heap[w.heap.size+2]?=_:=z2 ▸ h3 ▸ heap_alloc_new w2 _
 have e13:w3.heap[w.heap.size]?=_:=(h3 ▸ xab (by omega)).trans e12
 have e23:w3.heap[w.heap.size+1]?=_:=(h3 ▸ xab (by omega)).trans e2
 have b3:Below w.heap.size w w3:=h3 ▸ b2.alloc (by omega) _
 rw[h3];clear h3
 obtain⟨w4,h4⟩:∃ x,w3.alloc (.cells #[.int .u8 0] 5)=x:=⟨_,rfl⟩
 have z4:w4.heap.size=w.heap.size+4:=by rw[← h4,World.size_alloc,z3]
 have e4:w4.heap[w.heap.size+3]?=_:=z3 ▸ h4 ▸ heap_alloc_new w3 _
 have e14:w4.heap[w.heap.size]?=_:=(h4 ▸ xab (by omega)).trans e13
 have e24:w4.heap[w.heap.size+1]?=_:=(h4 ▸ xab (by omega)).trans e23
 have e34:w4.heap[w.heap.size+2]?=_:=(h4 ▸ xab (by omega)).trans e3
 have b4:Below w.heap.size w w4:=h4 ▸ b3.alloc (by omega) _
 rw[h4];clear h4
 refine⟨⟨(xab (by omega)).trans e14,(xab (by omega)).trans e24,(xab (by omega)).trans e34,(xab (by omega)).trans e4,b4.alloc (by omega) _⟩,?_⟩
 rw[← z4,heap_alloc_new,heap_alloc_new]
def uK (T:Hd) (k:Nat):Hd:={ xac with rf:=if 0<k then T.rf else 0,rl:=if 0<k then T.rl else 0,mf:=if 1<k then T.mf else 0,ml:=if 1<k then T.ml else 0,lf:=if 2<k then T.lf else 0,ll:=if 2<k then T.ll else 0,df:=if 3<k then T.df else 0,dl:=if 3<k then T.dl else 0 }
theorem xuP (t:ByteArray) (k:Nat) (h:k<4):xcA (cH (uK (xaF t) k)) (2*k) (fun j=>.int .u64 (nmB t (8+16*k+8*j) 8)) 2=cH (uK (xaF t) (k+1)):=by
 obtain rfl|rfl|rfl|rfl:k=0∨k=1∨k=2∨k=3:=by omega
 all_goals simp[xcA,cH,uK,xua,xuw,xsR,xtU,xtZ,xsF,xtT,xsP]
def fA (T:Hd):Hd:={ uK T 4 with ad:=T.ad,en:=T.en,co:=T.co }
def fB (T:Hd):Hd:={ fA T with inn:=T.inn,out:=T.out,knd:=T.knd }
def fC (T:Hd):Hd:={ fB T with z0:=T.z0,z1:=T.z1 }
def fD (T:Hd):Hd:={ fC T with lo0:=T.lo0,la0:=T.la0,lo1:=T.lo1,la1:=T.la1 }
def fE (T:Hd):Hd:={ fD T with zm:=T.zm }
def fF (T:Hd):Hd:={ T with cl:=false }
theorem xu1 (t:ByteArray):xcA (cH (uK (xaF t) 4)) 8 (fun j=>.int .u64 (nmB t (72+8*j) 8)) 3=cH (fA (xaF t)):=by
 simp only[xcA,cH,uK,fA,xsw,xug,xtt,List.setIfInBounds_toArray,List.set_cons_zero,List.set_cons_succ,Nat.reduceAdd,Nat.reduceMul]
theorem xv8 (t:ByteArray):(((cH (fA (xaF t))).setIfInBounds 12 (.int .u8 (nmB t 97 1))).setIfInBounds 13 (.int .u8 (nmB t 98 1))).setIfInBounds 14 (.int .u8 (nmB t 99 1))=cH (fB (xaF t)):=by
 simp only[cH,fB,fA,xqf,xqv,xpM,List.setIfInBounds_toArray,List.set_cons_zero,List.set_cons_succ]
theorem xu4 (t:ByteArray):xcA (cH (fB (xaF t))) 15 (fun j=>.int .i64 (nmB t (100+1*j) 1)) 2=cH (fC (xaF t)):=by
 simp only[xcA,cH,fB,fC,xto,xuA,List.setIfInBounds_toArray,List.set_cons_zero,List.set_cons_succ,Nat.reduceAdd,Nat.reduceMul]
theorem xvx (t:ByteArray):xcA (cH (fC (xaF t))) 17 (fun j=>.int .i64 (sgB t (102+4*j))) 4=cH (fD (xaF t)):=by
 simp only[xcA,cH,fD,fC,xqV,xp6,xqa,xrC,List.setIfInBounds_toArray,List.set_cons_zero,List.set_cons_succ,Nat.reduceAdd,Nat.reduceMul]
theorem xv6 (t:ByteArray):xcA (cH (fD (xaF t))) 21 (fun j=>.int .i64 (nmB t (118+1*j) 1)) 1=cH (fE (xaF t)):=by
 simp only[xcA,cH,fE,fD,xti,List.setIfInBounds_toArray,List.set_cons_zero,List.set_cons_succ,Nat.reduceAdd,Nat.reduceMul]
theorem xvk (t:ByteArray):xcA (cH (fE (xaF t))) 22 (fun j=>.int .i64 (sgB t (119+4*j))) 2=cH (fF (xaF t)):=by
 simp only[xcA,cH,fF,fE,fD,fC,fB,fA,uK,xac,xqm,xpS,List.setIfInBounds_toArray,List.set_cons_zero,List.set_cons_succ,Nat.reduceAdd,Nat.reduceMul]
 simp
theorem xu6 (T:Hd):(cH (fF T)).setIfInBounds 11 (.bool T.cl)=cH T:=by
 simp only[cH,fF,List.setIfInBounds_toArray,List.set_cons_zero,List.set_cons_succ]
theorem xw5 (g a:Nat):∀ i,i<1→(#[.pointer (some ⟨g,a,none⟩)]:Array Value)[i]?=some (.pointer (some ⟨g,a+i,none⟩)):=by
 intro i hi
 obtain rfl:i=0:=by omega
 rfl
theorem row2 (g a:Nat):∀ i,i<2→(#[.pointer (some ⟨g,a,none⟩),.pointer (some ⟨g,a+1,none⟩)]:Array Value)[i]?=some (.pointer (some ⟨g,a+i,none⟩)):=by
 intro i hi
 obtain rfl|rfl:i=0∨i=1:=by omega
 all_goals rfl
theorem xxq (g a:Nat):∀ i,i<3→(#[.pointer (some ⟨g,a,none⟩),.pointer (some ⟨g,a+1,none⟩),.pointer (some ⟨g,a+2,none⟩)]:Array Value)[i]?=some (.pointer (some ⟨g,a+i,none⟩)):=by
 intro i hi
 obtain rfl|rfl|rfl:i=0∨i=1∨i=2:=by omega
 all_goals rfl
theorem xxl (g a:Nat):∀ i,i<4→(#[.pointer (some ⟨g,a,none⟩),.pointer (some ⟨g,a+1,none⟩),.pointer (some ⟨g,a+2,none⟩),.pointer (some ⟨g,a+3,none⟩)]:Array Value)[i]?=some (.pointer (some ⟨g,a+i,none⟩)):=by
 intro i hi
 obtain rfl|rfl|rfl|rfl:i=0∨i=1∨i=2∨i=3:=by omega
 all_goals rfl
theorem xgX {w w':World} {b o:Nat} (h:w'.heap[b]?=w.heap[b]?):w'.cell? ⟨b,o,none⟩=w.cell? ⟨b,o,none⟩:=by simp[World.cell?,h]
theorem FAt.cl {w wx:World} {t:ByteArray} {q c:Int} {T:Hd} {b:Bool} (h:FAt w wx t q (fF T) c) (hb:b=T.cl):FAt w (wx.setCell ⟨w.heap.size+2,11,none⟩ (.bool b)) t q T c:=by
 subst hb
 refine⟨(xaE (by omega)).trans h.1,(xaE (by omega)).trans h.2.1,?_,(xaE (by omega)).trans h.2.2.2.1,h.2.2.2.2.setCell (by show w.heap.size≤w.heap.size+2;omega) _⟩
 unfold HAt
 rw[← xu6 T]
 exact xaS h.2.2.1 _
theorem FAt.drew {w wx:World} {t:ByteArray} {q c:Int} {a:Hd} (h:FAt w wx t q a c):FAt w wx.drew t q a c:=⟨h.1,h.2.1,h.2.2.1,h.2.2.2.1,h.2.2.2.2.drew⟩
set_option maxRecDepth 20000 in
theorem xkM (t:ByteArray) (w:World) (hm:t.size≤maxLen) (h:127≤t.size):Calls Tryz.prog 167 #[.agg #[.string t,.int .i64 8,.int .i64 0]] w fun e w'=>e=.returned (.tuple #[.agg (cH (xaF t)),.int .u8 (nmB t 96 1)])∧Below w.heap.size w w':=by
 have HL:=lH h;clear h
 have HM:=lH hm;clear hm
 have H0:=lH (xtv w t)
 go_enter Tryz.func167,Tryz.ntmps167
 go_wp2_with fail
 go_loopw [14] (fun i wr=>∃ k:Nat,k≤4∧i=.int .i64 k∧FAt w wr t ((8+16*k:Nat):Int) (uK (xaF t) k) 0∧(∀ j,j<4→wr.cell? ⟨w.heap.size+4,j,none⟩=some (.pointer (some ⟨w.heap.size+2,2*j,none⟩)))) (fun i _=>4 - (intOf i).toNat)
 case atStart =>
  obtain⟨hf,hr⟩:=H0.out (.cells #[.pointer (some ⟨w.heap.size+2,0,none⟩),.pointer (some ⟨w.heap.size+2,2,none⟩),.pointer (some ⟨w.heap.size+2,4,none⟩),.pointer (some ⟨w.heap.size+2,6,none⟩)] 360)
  refine⟨0,by omega,rfl,hf,fun j hj=>(xai (hr.trans (heap_alloc_new w _)) j).trans ?_⟩
  obtain rfl|rfl|rfl|rfl:j=0∨j=1∨j=2∨j=3:=by omega
  all_goals rfl
 case round =>
  obtain⟨k,hk,rfl,hF,hP⟩:=hrel
  by_cases hlt:k<4
  ·have hp:=hP k hlt
   obtain⟨s0,s1,s2,sf⟩:=hF.scan
   have hbig:w.heap.size<wr.heap.size:=by have:=hF.big;omega
   have HFd:=lH hF.drew
   have HP:=lH hP
   have hk1:((8+16*(k+1):Nat):Int)=((8+16*k+8*2:Nat):Int):=by omega
   have K6:=lH (fun(wx:World) (T:TypeId) (hh:FAt w wx t ((8+16*k:Nat):Int) (uK (xaF t) k) 0)=>xno (2*k) 2 #[.pointer (some ⟨w.heap.size+2,2*k,none⟩),.pointer (some ⟨w.heap.size+2,2*k+1,none⟩)] T hh HM.out (by omega) (by omega) (by have:=HL.out;omega) (row2 _ _) (xuP t k hlt))
   rw[← hk1] at K6
   clear hF hP hk1
   obtain⟨q,hq⟩:∃ q,8+16*k=q:=⟨_,rfl⟩
   obtain⟨r,hr⟩:∃ r,8+16*(k+1)=r:=⟨_,rfl⟩
   rw[hq,hr] at K6
   rw[hq] at HFd s1
   have HR:=lH hr
   clear hq hr
   go_upto_region 6 with fail
   go_region_with (first|(go_at_call 243;refine(K6.out _ _ HFd.out).mono ?_;rintro e w' ⟨rfl,hF2,hO2⟩;obtain⟨r0,r1,r2,rf⟩:=hF2.scan))
   all_goals
    go_wp2_with fail
    go_roundw
    case rel =>
     have h4:w.heap.size+4<wr.heap.size:=xkb hp
     refine⟨k+1,by omega,by go_num,by rw[HR.out];exact hF2.on,fun j hj=>?_⟩
     rw[xbH _ (by simp),xbH _ (by simp),xbH _ (by simp)]
     exact(xgX (hO2 _ h4 (by omega))).trans (HP.out j hj)
    case measure=>simp[intOf];omega
  ·obtain rfl:k=4:=by omega
   have hF:FAt w wr t 72 (uK (xaF t) 4) 0:=hF
   clear hP hlt hk H0
   have HCl:=lH (xs0 t)
   have HFG:=lH (fun(wx:World) (q c:Int) (h:FAt w wx t q (fF (xaF t)) c) (b:Bool) (hb:b=(xaF t).cl)=>h.cl hb)
   have K8:Hid (∀ (wx:World) (T:TypeId),FAt w wx t 72 (uK (xaF t) 4) 0→Calls Tryz.prog 243 #[.agg #[.string t,.int .i64 72,.int .i64 0],.int .i64 8,.slice (some ⟨wx.heap.size,0,none⟩) 3 3] (wx.alloc (.cells #[.pointer (some ⟨w.heap.size+2,8,none⟩),.pointer (some ⟨w.heap.size+2,9,none⟩),.pointer (some ⟨w.heap.size+2,10,none⟩)] T)) fun e w'=>e=.returned (.agg #[.string t,.int .i64 96,.int .i64 0])∧FAt w w' t 72 (fA (xaF t)) 0):=lH (fun wx T hh=>(xno (q:=72) 8 3 _ T hh HM.out (by omega) (by omega) (by have:=HL.out;omega) (xxq _ 8) (xu1 t)).mono fun e w' h=>⟨h.1,h.2.1⟩)
   obtain⟨s0,s1,s2,sf⟩:=hF.scan
   have HF:=lH hF
   clear hF
   go_upto_region 8 with fail
   go_cut [] (fun wx=>FAt w wx t 96 (fA (xaF t)) 0)
   case first =>
    go_wp2_with fail
    refine(K8.out _ _ HF.out).mono ?_
    rintro e w' ⟨rfl,hF2⟩
    obtain⟨r0,r1,r2,rf⟩:=hF2.scan
    have HF2:=lH hF2
    clear hF2
    go_wp2_with fail
    go_meet
    case rel=>exact HF2.out.on
   case rest =>
   have hF:=hcut
   clear hcut HF K8 s0 s1 s2 sf
   generalize wc=w8 at *
   have K9:Hid (∀ (wx:World) (T:TypeId),FAt w wx t 96 (fA (xaF t)) 0→Calls Tryz.prog 244 #[.agg #[.string t,.int .i64 96,.int .i64 0],.int .i64 1,.slice (some ⟨wx.heap.size,0,none⟩) 4 4] (wx.alloc (.cells #[.pointer (some ⟨w.heap.size+3,0,none⟩),.pointer (some ⟨w.heap.size+2,12,none⟩),.pointer (some ⟨w.heap.size+2,13,none⟩),.pointer (some ⟨w.heap.size+2,14,none⟩)] T)) fun e w'=>e=.returned (.agg #[.string t,.int .i64 100,.int .i64 0])∧FAt w w' t 96 (fB (xaF t)) (nmB t 96 1)):=lH (fun wx T hh=>xtO T hh HM.out (by have:=HL.out;omega) (xv8 t))
   obtain⟨s0,s1,s2,sf⟩:=hF.scan
   have HF:=lH hF
   clear hF
   go_upto_region 9 with fail
   go_cut [] (fun wx=>FAt w wx t 100 (fB (xaF t)) (nmB t 96 1))
   case first =>
    go_wp2_with fail
    refine(K9.out _ _ HF.out).mono ?_
    rintro e w' ⟨rfl,hF2⟩
    obtain⟨r0,r1,r2,rf⟩:=hF2.scan
    have HF2:=lH hF2
    clear hF2
    go_wp2_with fail
    go_meet
    case rel=>exact HF2.out.on
   case rest =>
   have hF:=hcut
   clear hcut HF K9 s0 s1 s2 sf
   generalize wc=w9 at *
   have K10:Hid (∀ (wx:World) (T:TypeId),FAt w wx t 100 (fB (xaF t)) (nmB t 96 1)→Calls Tryz.prog 245 #[.agg #[.string t,.int .i64 100,.int .i64 0],.int .i64 1,.slice (some ⟨wx.heap.size,0,none⟩) 2 2] (wx.alloc (.cells #[.pointer (some ⟨w.heap.size+2,15,none⟩),.pointer (some ⟨w.heap.size+2,16,none⟩)] T)) fun e w'=>e=.returned (.agg #[.string t,.int .i64 102,.int .i64 0])∧FAt w w' t 100 (fC (xaF t)) (nmB t 96 1)):=lH (fun wx T hh=>(xoC (q:=100) 15 2 _ T hh HM.out (by omega) (by omega) (by have:=HL.out;omega) (row2 _ 15) (xu4 t)))
   obtain⟨s0,s1,s2,sf⟩:=hF.scan
   have HF:=lH hF
   clear hF
   go_upto_region 10 with fail
   go_cut [] (fun wx=>FAt w wx t 102 (fC (xaF t)) (nmB t 96 1))
   case first =>
    go_wp2_with fail
    refine(K10.out _ _ HF.out).mono ?_
    rintro e w' ⟨rfl,hF2⟩
    obtain⟨r0,r1,r2,rf⟩:=hF2.scan
    have HF2:=lH hF2
    clear hF2
    go_wp2_with fail
    go_meet
    case rel=>exact HF2.out.on
   case rest =>
   have hF:=hcut
   clear hcut HF K10 s0 s1 s2 sf
   generalize wc=w10 at *
   have K11:Hid (∀ (wx:World) (T:TypeId),FAt w wx t 102 (fC (xaF t)) (nmB t 96 1)→Calls Tryz.prog 246 #[.agg #[.string t,.int .i64 102,.int .i64 0],.slice (some ⟨wx.heap.size,0,none⟩) 4 4] (wx.alloc (.cells #[.pointer (some ⟨w.heap.size+2,17,none⟩),.pointer (some ⟨w.heap.size+2,18,none⟩),.pointer (some ⟨w.heap.size+2,19,none⟩),.pointer (some ⟨w.heap.size+2,20,none⟩)] T)) fun e w'=>e=.returned (.agg #[.string t,.int .i64 118,.int .i64 0])∧FAt w w' t 102 (fD (xaF t)) (nmB t 96 1)):=lH (fun wx T hh=>(xiz (q:=102) 17 4 _ T hh HM.out (by omega) (by omega) (by have:=HL.out;omega) (xxl _ 17) (xvx t)))
   obtain⟨s0,s1,s2,sf⟩:=hF.scan
   have HF:=lH hF
   clear hF
   go_upto_region 11 with fail
   go_cut [] (fun wx=>FAt w wx t 118 (fD (xaF t)) (nmB t 96 1))
   case first =>
    go_wp2_with fail
    refine(K11.out _ _ HF.out).mono ?_
    rintro e w' ⟨rfl,hF2⟩
    obtain⟨r0,r1,r2,rf⟩:=hF2.scan
    have HF2:=lH hF2
    clear hF2
    go_wp2_with fail
    go_meet
    case rel=>exact HF2.out.on
   case rest =>
   have hF:=hcut
   clear hcut HF K11 s0 s1 s2 sf
   generalize wc=w11 at *
   have K12:Hid (∀ (wx:World) (T:TypeId),FAt w wx t 118 (fD (xaF t)) (nmB t 96 1)→Calls Tryz.prog 245 #[.agg #[.string t,.int .i64 118,.int .i64 0],.int .i64 1,.slice (some ⟨wx.heap.size,0,none⟩) 1 1] (wx.alloc (.cells #[.pointer (some ⟨w.heap.size+2,21,none⟩)] T)) fun e w'=>e=.returned (.agg #[.string t,.int .i64 119,.int .i64 0])∧FAt w w' t 118 (fE (xaF t)) (nmB t 96 1)):=lH (fun wx T hh=>(xoC (q:=118) 21 1 _ T hh HM.out (by omega) (by omega) (by have:=HL.out;omega) (xw5 _ 21) (xv6 t)))
   obtain⟨s0,s1,s2,sf⟩:=hF.scan
   have HF:=lH hF
   clear hF
   go_upto_region 12 with fail
   go_cut [] (fun wx=>FAt w wx t 119 (fE (xaF t)) (nmB t 96 1))
   case first =>
    go_wp2_with fail
    refine(K12.out _ _ HF.out).mono ?_
    rintro e w' ⟨rfl,hF2⟩
    obtain⟨r0,r1,r2,rf⟩:=hF2.scan
    have HF2:=lH hF2
    clear hF2
    go_wp2_with fail
    go_meet
    case rel=>exact HF2.out.on
   case rest =>
   have hF:=hcut
   clear hcut HF K12 s0 s1 s2 sf
   generalize wc=w12 at *
   have K13:Hid (∀ (wx:World) (T:TypeId),FAt w wx t 119 (fE (xaF t)) (nmB t 96 1)→Calls Tryz.prog 246 #[.agg #[.string t,.int .i64 119,.int .i64 0],.slice (some ⟨wx.heap.size,0,none⟩) 2 2] (wx.alloc (.cells #[.pointer (some ⟨w.heap.size+2,22,none⟩),.pointer (some ⟨w.heap.size+2,23,none⟩)] T)) fun e w'=>e=.returned (.agg #[.string t,.int .i64 127,.int .i64 0])∧FAt w w' t 119 (fF (xaF t)) (nmB t 96 1)):=lH (fun wx T hh=>(xiz (q:=119) 22 2 _ T hh HM.out (by omega) (by omega) (by have:=HL.out;omega) (row2 _ 22) (xvk t)))
   obtain⟨s0,s1,s2,sf⟩:=hF.scan
   have HF:=lH hF
   clear hF
   go_upto_region 13 with fail
   go_cut [] (fun wx=>FAt w wx t 119 (fF (xaF t)) (nmB t 96 1))
   case first =>
    go_wp2_with fail
    refine(K13.out _ _ HF.out).mono ?_
    rintro e w' ⟨rfl,hF2⟩
    obtain⟨r0,r1,r2,rf⟩:=hF2.scan
    have HF2:=lH hF2
    clear hF2
    go_wp2_with fail
    go_meet
    case rel=>exact HF2.out
   case rest =>
   have hF:=hcut
   clear hcut HF K13 s0 s1 s2 sf
   generalize wc=w13 at *
   obtain⟨x,hx⟩:∃ x,nmB t 96 1=x:=⟨_,rfl⟩
   rw[hx] at hF HCl
   have HX:=lH hx
   clear hx
   have e11:=xwT hF.2.2.1
   have c0:w13.cell? ⟨w.heap.size+3,0,none⟩=some (.int .u8 x):=xai hF.2.2.2.1 0
   have gf:∀ o,w13.frozen? ⟨w.heap.size+2,o,none⟩=false:=fun o=>by have:=hF.2.2.1;unfold HAt at this;simp[World.frozen?,this]
   have HF:=lH hF
   clear hF
   go_upto_region 14 with fail
   go_cut [] (fun wx=>FAt w wx t 119 (xaF t) x)
   case first =>
    go_wp2_with fail
    go_meet
    case rel=>exact HFG.out _ _ _ HF.out _ HCl.out.symm
   case rest =>
   have hF:=hcut
   clear hcut HF HFG HCl e11 c0 gf
   generalize wc=w14 at *
   obtain⟨T,hT⟩:∃ T,xaF t=T:=⟨_,rfl⟩
   rw[hT] at hF
   have HT:=lH hT
   clear hT
   have c0:w14.cell? ⟨w.heap.size+3,0,none⟩=some (.int .u8 x):=xai hF.2.2.2.1 0
   have HF:=lH hF
   clear hF
   go_upto_region 15 with fail
   go_cut [3] (fun y wx=>y=.int .u8 x∧HAt wx (w.heap.size+1) 124 T∧Below w.heap.size w wx)
   case first =>
    refine wp_region_any (by kernel_rfl) ?_
    change wpAny _ _ _ _ _ _ _ (World.drew _)
    have hR:HAt w14.drew (w.heap.size+1) 124 xac:=HF.out.2.1
    have hA:HAt w14.drew (w.heap.size+2) 124 T:=HF.out.2.2.1
    have hU:Below w.heap.size w w14.drew:=HF.out.2.2.2.2.drew
    have HP:=xh1 w14.drew (w.heap.size+1) 124 xac T hR
    refine wpAny_ready (rs:=[0,1]) (by kernel_rfl) (by simp) ?_
    refine AllReady.cons rfl (fun K hK=>?_) (AllReady.cons rfl (fun K hK=>?_) AllReady.nil)
    ·rw[if_pos (by rfl)]
     refine wp_load_row 124 _ rfl (w.heap.size+2) rfl 124 (cH T) (0,0) _ hA Tryz.underlying124 rfl xar (hK _ _ ?_)
     clear hK K
     try simp only[Act.put,zsA,zsB,zsC]
     refine wpAny_ready (rs:=[1,2]) (by kernel_rfl) (by simp) ?_
     refine AllReady.cons rfl (fun K hK=>?_) (AllReady.cons rfl (fun K hK=>?_) AllReady.nil)
     ·go_simp
      refine hK _ _ ?_
      clear hK K
      try simp only[Act.put,zsA,zsB,zsC]
      refine wpAny_ready (rs:=[2]) (by kernel_rfl) (by simp) ?_
      refine AllReady.cons rfl (fun K hK=>?_) AllReady.nil
      rw[if_pos (by rfl)]
      refine wp_store_row 124 _ _ rfl (w.heap.size+1) (cH T) rfl rfl 124 (cH xac) hR xar rfl (xdY T) (hK _ _ ?_)
      clear hK K
      generalize w14.drew.setRow (w.heap.size+1) (cH T)=w15 at HP ⊢
      have c0:w15.cell? ⟨w.heap.size+3,0,none⟩=some (.int .u8 x):=(xgX (HP.2.2.2 _ (by omega))).trans c0
      try simp only[Act.put,zsA,zsB,zsC]
      refine wpAny_ready (rs:=[3]) (by kernel_rfl) (by simp) ?_
      refine AllReady.cons rfl (fun K hK=>?_) AllReady.nil
      go_simp
      refine hK _ _ ?_
      clear hK K
      try simp only[Act.put,zsA,zsB,zsC]
      refine wpAny_done (by kernel_rfl) ?_ _
      go_wp2_with fail
      go_meet
      case rel=>exact⟨rfl,HP.1,HP.2.2.1 _ _ (by omega) hU⟩
     ·rw[if_pos (by rfl)]
      refine wp_store_row 124 _ _ rfl (w.heap.size+1) (cH T) rfl rfl 124 (cH xac) hR xar rfl (xdY T) (hK _ _ ?_)
      clear hK K
      generalize w14.drew.setRow (w.heap.size+1) (cH T)=w15 at HP ⊢
      have c0:w15.cell? ⟨w.heap.size+3,0,none⟩=some (.int .u8 x):=(xgX (HP.2.2.2 _ (by omega))).trans c0
      try simp only[Act.put,zsA,zsB,zsC]
      refine wpAny_ready (rs:=[1]) (by kernel_rfl) (by simp) ?_
      refine AllReady.cons rfl (fun K hK=>?_) AllReady.nil
      go_simp
      refine hK _ _ ?_
      clear hK K
      try simp only[Act.put,zsA,zsB,zsC]
      refine wpAny_ready (rs:=[3]) (by kernel_rfl) (by simp) ?_
      refine AllReady.cons rfl (fun K hK=>?_) AllReady.nil
      go_simp
      refine hK _ _ ?_
      clear hK K
      try simp only[Act.put,zsA,zsB,zsC]
      refine wpAny_done (by kernel_rfl) ?_ _
      go_wp2_with fail
      go_meet
      case rel=>exact⟨rfl,HP.1,HP.2.2.1 _ _ (by omega) hU⟩
    ·go_simp
     refine hK _ _ ?_
     clear hK K
     try simp only[Act.put,zsA,zsB,zsC]
     refine wpAny_ready (rs:=[0]) (by kernel_rfl) (by simp) ?_
     refine AllReady.cons rfl (fun K hK=>?_) AllReady.nil
     rw[if_pos (by rfl)]
     refine wp_load_row 124 _ rfl (w.heap.size+2) rfl 124 (cH T) (0,0) _ hA Tryz.underlying124 rfl xar (hK _ _ ?_)
     clear hK K
     try simp only[Act.put,zsA,zsB,zsC]
     refine wpAny_ready (rs:=[2]) (by kernel_rfl) (by simp) ?_
     refine AllReady.cons rfl (fun K hK=>?_) AllReady.nil
     rw[if_pos (by rfl)]
     refine wp_store_row 124 _ _ rfl (w.heap.size+1) (cH T) rfl rfl 124 (cH xac) hR xar rfl (xdY T) (hK _ _ ?_)
     clear hK K
     generalize w14.drew.setRow (w.heap.size+1) (cH T)=w15 at HP ⊢
     have c0:w15.cell? ⟨w.heap.size+3,0,none⟩=some (.int .u8 x):=(xgX (HP.2.2.2 _ (by omega))).trans c0
     try simp only[Act.put,zsA,zsB,zsC]
     refine wpAny_ready (rs:=[3]) (by kernel_rfl) (by simp) ?_
     refine AllReady.cons rfl (fun K hK=>?_) AllReady.nil
     go_simp
     refine hK _ _ ?_
     clear hK K
     try simp only[Act.put,zsA,zsB,zsC]
     refine wpAny_done (by kernel_rfl) ?_ _
     go_wp2_with fail
     go_meet
     case rel=>exact⟨rfl,HP.1,HP.2.2.1 _ _ (by omega) hU⟩
   case rest =>
    obtain⟨rfl,hA,hU⟩:=hcut
    have HH:=lH (And.intro hA hU)
    clear hA hU
    go_wp2_with fail
    refine bodyPost_ret (v:=.tuple #[.agg (cH T),.int .u8 x]) (xaX Tryz.results167 _ _ _ _ _ _ rfl rfl HH.out.1) rfl ⟨by rw[HT.out,HX.out],HH.out.2⟩
end Go.Proofs.YtjinnigjfopbcaaGreatDoor
