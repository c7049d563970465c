/- aGi aNd aVd aPa. -/
import Derived.Test.YtjkgkmmkehnggaaGreatDoorYa4
import Derived.Test.YtjkgkmmkehnggaaGreatDoorRb
import Derived.Test.YtjkgkmmkehnggaaGreatDoorYs
set_option maxHeartbeats 16000000
namespace Go.Proofs.YtjkgkmmkehnggaaGreatDoor
set_option linter.unusedVariables false
set_option linter.unusedSimpArgs false
open Go.RowKit
set_option maxRecDepth 20000
theorem Two.keep {w w':World} {g:Nat} {x y:Value} (h:Two w g x y) (hk:w'.heap[g]?=w.heap[g]?):Two w' g x y :=
 ⟨(World.cell?_of_block (a:=⟨g,0,none⟩) hk).trans h.1,(World.cell?_of_block (a:=⟨g,1,none⟩) hk).trans h.2.1,(World.frozen?_of_block (a:=⟨g,0,none⟩) hk).trans h.2.2.1,(World.frozen?_of_block (a:=⟨g,1,none⟩) hk).trans h.2.2.2⟩
theorem xdX.keep {w w':World} {g:Nat} {t:Kt} (h:xdX w g t) (hk:w'.heap[g]?=w.heap[g]?):xdX w' g t :=
 ⟨(World.cell?_of_block (a:=⟨g,0,none⟩) hk).trans h.1,(World.cell?_of_block (a:=⟨g,1,none⟩) hk).trans h.2.1,(World.cell?_of_block (a:=⟨g,2,none⟩) hk).trans h.2.2⟩
theorem xm9 (S:Nat→Prop) (w:World) (p:Addr) (v:Value) (hp:S p.block):Kept S S w (w.setCell p v) :=
 ⟨rfl,rfl,rfl,by simp,fun b hb hn=>Below.heap_setCell _ _ _ _ (by intro e;subst e;exact hn hp),fun _ h=>.inl h⟩
theorem xfx (S:Nat→Prop) {w w':World} {row:Option Nat} (hg:w.grownBy w' row) (hr:∀ k,row=some k→S k∨w.heap.size≤k):Kept S S w w' :=
 ⟨hg.os,hg.tape,hg.output,hg.size,fun b hb hn=>hg.block b hb (fun e=>by rcases hr b e.symm with h|h;exact hn h;omega),fun _ h=>.inl h⟩
theorem xdv.form3 {w:World} {B:Nat} {v:Value} {l:List Kt} (h:xdv w B v l):∃ a n c,v=.slice a n c:=by
 obtain⟨a,c,e⟩:=h.slice
 exact⟨_,_,_,e⟩
theorem Mid2.map7 {w W X w7:World} {pb rb kb mb:Nat} {va vm va':Value} {G:Int→Value} {l:List ByteArray} {s:ByteArray} (h:Mid2 w W pb rb kb mb va vm va' G l s) (hX:Below W.heap.size W X) {k:Int} (hgr:X.grownBy w7 (G k).ownBlock):xfT w7 mb l.length G :=
 (h.below hX).map.keep (hgr.block mb (h.below hX).map.lt (fun e=>xfl (h.below hX).map ((h.below hX).grps k) e.symm))
theorem Mid2.two7 {w W X w7:World} {pb rb kb mb:Nat} {va vm va':Value} {G:Int→Value} {l:List ByteArray} {s:ByteArray} (h:Mid2 w W pb rb kb mb va vm va' G l s) (hX:Below W.heap.size W X) {k:Int} (hgr:X.grownBy w7 (G k).ownBlock) (hn:(G k).ownBlock≠some pb):Two w7 pb va' (.map (some mb)) :=
 (h.below hX).two.keep (hgr.block pb (h.below hX).two.lt (fun e=>hn e.symm))
theorem Kept.set2 {S S':Nat→Prop} {w w':World} (h:Kept S S' w w') (r:Nat) (hr:w.heap.size≤r) (x y:Value):Kept S S' w ((w'.setCell ⟨r,0,none⟩ x).setCell ⟨r,1,none⟩ y) :=
 ⟨h.os,h.tape,h.output,by simpa using h.size,fun b hb hn=>by rw[Below.heap_setCell _ _ _ _ (by simp;omega),Below.heap_setCell _ _ _ _ (by simp;omega)];exact h.same b hb hn,h.own⟩
theorem PoolAt.set2 {w:World} {pb:Nat} {va vm:Value} {G:Int→Value} {l:List ByteArray} (h:PoolAt w pb va vm G l) (r:Nat) (hr:¬ xfX pb va vm G r) (x y:Value):PoolAt ((w.setCell ⟨r,0,none⟩ x).setCell ⟨r,1,none⟩ y) pb va vm G l :=
 h.keep (fun b hb=>by rw[Below.heap_setCell _ _ _ _ (by intro e;simp at e;subst e;exact hr hb),Below.heap_setCell _ _ _ _ (by intro e;simp at e;subst e;exact hr hb)])
theorem xyk {w W X w6:World} {pb rb kb mb:Nat} {va vm v':Value} {G:Int→Value} {l:List ByteArray} {s:ByteArray} (hP:PoolAt w pb va vm G l) (h:MidL w W pb rb kb mb va vm G l s) (hX:Below W.heap.size W X)
  (hown:xdv w6 0 v' (plc l 0++[(totF l,s)])) (hgr:X.grownBy w6 va.ownBlock) (hloc:v'.ownBlock=va.ownBlock∨∃ g,v'.ownBlock=some g∧X.heap.size≤g) :
  Two w6 pb va (.map (some mb))∧Mid2 w (w6.setCell ⟨pb,0,none⟩ v') pb rb kb mb va vm v' G l s:=by
 have hx:=h.below hX
 have hpb:=hx.two.lt
 have hrb:=hx.rs.lt
 have hkb:=hx.kt.lt
 have hmb:=hx.map.lt
 have hpw:=hP.two.lt
 have hlr:=h.lr
 have hlk:=h.lk
 have hnp:some pb≠va.ownBlock:=fun e=>hP.n1 e.symm
 have e6:∀ b,b<X.heap.size→some b≠va.ownBlock→w6.heap[b]?=X.heap[b]?:=fun b hb hn=>hgr.block b hb hn
 have hva:∀ b,w.heap.size≤b→some b≠va.ownBlock:=fun b hb e=>by have:=h.la b e.symm;omega
 have hmv:some mb≠va.ownBlock:=fun e=>xfl hx.map hx.all e.symm
 have es:∀ b,b≠pb→(w6.setCell ⟨pb,0,none⟩ v').heap[b]?=w6.heap[b]?:=fun b hb=>Below.heap_setCell _ _ _ _ (by simpa using hb)
 have h2:Two w6 pb va (.map (some mb)):=hx.two.keep (e6 pb hpb hnp)
 have hvp:v'.ownBlock≠some pb:=by
  rcases hloc with e|⟨g,e,hg⟩
  ·rw[e];exact hP.n1
  ·rw[e];intro e2;injection e2 with e2;omega
 refine⟨h2,?_⟩
 refine⟨?_,?_,?_,?_,?_,?_,?_,?_⟩
 ·refine⟨World.cell?_setCell_same _ _ _ h2.1,?_,by simpa using h2.2.2.1,by simpa using h2.2.2.2⟩
  rw[World.cell?_setCell_other (h:=by simp)];exact h2.2.1
 ·exact hown.keep (fun k hk=>es k (fun e=>hvp (by rw[hk,e])))
 ·exact hx.map.keep ((es mb h.nm).trans (e6 mb hmb hmv))
 ·intro k
  exact(hx.grps k).keep (fun g hg=>(es g (fun e=>hP.n2 k (by rw[hg,e]))).trans (e6 g ((hx.grps k).lt g hg).2 (fun e=>hP.n3 k g hg e.symm)))
 ·exact hx.kt.keep ((es kb (by omega)).trans (e6 kb hkb (hva kb hlk)))
 ·exact hx.rs.keep ((es rb (by omega)).trans (e6 rb hrb (hva rb hlr)))
 ·rcases hloc with e|⟨g,e,hg⟩
  ·exact .inl e
  ·exact .inr ⟨g,e,by have:=hx.kept.size;omega,by omega,by omega,by omega,by omega⟩
 ·exact(hx.kept.trans (xfx _ hgr (fun k hk=>.inl (.inr (.inl hk))))).trans (xm9 _ _ _ _ (.inl rfl))
theorem xzf {w W X w7 w8:World} {pb rb kb mb:Nat} {va vm va' gv':Value} {G:Int→Value} {l:List ByteArray} {s:ByteArray} (hP:PoolAt w pb va vm G l) (hml:∀ k g,(G k).ownBlock=some g→g<w.heap.size) (hal:∀ g,va.ownBlock=some g→g<w.heap.size) (hnm:mb≠pb) (hom:vm=.map (some mb)∨w.heap.size≤mb) (hlr:w.heap.size≤rb) (hlk:w.heap.size≤kb)
  (hg:GoodP (l++[s])) (h:Mid2 w W pb rb kb mb va vm va' G l s) (hX:Below W.heap.size W X)
  (hown:xdv w7 0 gv' (grp (bkt s) (plc l 0)++[(totF l,s)])) (hgr:X.grownBy w7 (G (bkt s)).ownBlock) (hloc:gv'.ownBlock=(G (bkt s)).ownBlock∨∃ g,gv'.ownBlock=some g∧X.heap.size≤g)
  (hmap:xfT w8 mb (l.length+1) (xvG G (bkt s) gv')) (hgr8:w7.grownBy w8 (some mb)) :
  PoolAt w8 pb va' (.map (some mb)) (xvG G (bkt s) gv') (l++[s])∧Kept (xfX pb va vm G) (xfX pb va' (.map (some mb)) (xvG G (bkt s) gv')) w w8∧Two w8 rb (.int .u64 0) (.int .u32 0)∧xdX w8 kb (totF l,s)∧¬ xfX pb va' (.map (some mb)) (xvG G (bkt s) gv') rb:=by
 have hx:=h.below hX
 have hpb:=hx.two.lt
 have hrb:=hx.rs.lt
 have hkb:=hx.kt.lt
 have hmb:=hx.map.lt
 have hpw:=hP.two.lt
 have hwX:=hx.kept.size
 have hs7:=hgr.size
 have hgl:=hml (bkt s)
 have e7:∀ b,b<X.heap.size→some b≠(G (bkt s)).ownBlock→w7.heap[b]?=X.heap[b]?:=fun b hb hn=>hgr.block b hb hn
 have e8:∀ b,b<w7.heap.size→b≠mb→w8.heap[b]?=w7.heap[b]?:=fun b hb hn=>hgr8.block b hb (fun e=>hn (by injection e))
 have hmv:some mb≠(G (bkt s)).ownBlock:=fun e=>xfl hx.map (hx.grps _) e.symm
 have hm7:xfT w7 mb l.length G:=hx.map.keep (e7 mb hmb hmv)
 have hgm:gv'.ownBlock≠some mb:=xfl hm7 hown
 have hrm:rb≠mb:=by
  rintro rfl
  obtain⟨es,cl,hh⟩:=hx.map.block
  have:=hx.rs.1
  simp[World.cell?,hh] at this
 have hkm:kb≠mb:=by
  rintro rfl
  obtain⟨es,cl,hh⟩:=hx.map.block
  have:=hx.kt.1
  simp[World.cell?,hh] at this
 have e78:∀ b,b<X.heap.size→some b≠(G (bkt s)).ownBlock→b≠mb→w8.heap[b]?=X.heap[b]?:=fun b hb hn hm=>(e8 b (by omega) hm).trans (e7 b hb hn)
 have hnew:∀ b,w.heap.size≤b→some b≠(G (bkt s)).ownBlock:=fun b hb e=>by have:=hgl b e.symm;omega
 have hav:va'.ownBlock≠some mb:=xfl hx.map hx.all
 have hag:∀ g,va'.ownBlock=some g→some g≠(G (bkt s)).ownBlock:=by
  intro g hg e
  rcases hx.oa with e2|⟨g2,e2,h2,_⟩
  ·exact hP.n3 _ g e.symm (by rw[← e2];exact hg)
  ·rw[e2] at hg;injection hg with hg;subst hg
   exact hnew g2 h2 e
 have hall:xdv w8 0 va' (plc l 0++[(totF l,s)]):=hx.all.keep (fun g hg=>e78 g (hx.all.lt g hg).2 (hag g hg) (fun e=>hav (by rw[hg,e])))
 have hgg:xdv w8 0 gv' (grp (bkt s) (plc l 0)++[(totF l,s)]):=hown.keep (fun g hg=>e8 g (hown.lt g hg).2 (fun e=>hgm (by rw[hg,e])))
 have hap:va'.ownBlock≠some pb:=by
  rcases hx.oa with e2|⟨g2,e2,_,_,_,_,h2⟩
  ·rw[e2];exact hP.n1
  ·rw[e2];intro e;injection e with e;exact h2 e
 have hgp:gv'.ownBlock≠some pb:=by
  rcases hloc with e2|⟨g2,e2,h2⟩
  ·rw[e2];exact hP.n2 _
  ·rw[e2];intro e;injection e with e;omega
 refine⟨⟨hg,hx.two.keep (e78 pb hpb (fun e=>hP.n2 _ e.symm) (fun e=>hnm e.symm)),by rw[xiz];exact hall,.inr ⟨mb,rfl,by rw[List.length_append];exact hmap⟩,?_,hap,?_,?_,?_,?_⟩,?_,hx.rs.keep (e78 rb hrb (hnew rb hlr) hrm),hx.kt.keep (e78 kb hkb (hnew kb hlk) hkm),?_⟩
 ·intro k
  rw[xiz,xpJ,xzC]
  by_cases e:k=bkt s
  ·subst e
   rw[xbY,if_pos rfl]
   exact hgg
  ·rw[xbn _ _ _ _ e,if_neg (fun e2=>e e2.symm),List.append_nil]
   exact(hx.grps k).keep (fun g hg=>e78 g ((hx.grps k).lt g hg).2 (fun e2=>e (hP.n4 k (bkt s) g hg e2.symm)) (fun e2=>xfl hx.map (hx.grps k) (by rw[hg,e2])))
 ·intro k
  by_cases e:k=bkt s
  ·subst e;rw[xbY];exact hgp
  ·rw[xbn _ _ _ _ e];exact hP.n2 k
 ·intro k g hk
  by_cases e:k=bkt s
  ·subst e
   rw[xbY] at hk
   intro ha
   rcases hloc with e2|⟨g2,e2,h2⟩
   ·rw[e2] at hk
    exact hag g ha hk.symm
   ·rw[e2] at hk;injection hk with hk;subst hk
    have:=(hx.all.lt g2 ha).2
    omega
  ·rw[xbn _ _ _ _ e] at hk
   intro ha
   rcases hx.oa with e2|⟨g2,e2,h2,_⟩
   ·exact hP.n3 k g hk (by rw[← e2];exact ha)
   ·rw[e2] at ha;injection ha with ha;subst ha
    have:=hml k g2 hk
    omega
 ·intro k j g hk hj
  by_cases e:k=bkt s
  ·by_cases e2:j=bkt s
   ·rw[e,e2]
   ·subst e
    rw[xbY] at hk
    rw[xbn _ _ _ _ e2] at hj
    rcases hloc with e3|⟨g2,e3,h3⟩
    ·rw[e3] at hk;exact hP.n4 _ _ g hk hj
    ·rw[e3] at hk;injection hk with hk;subst hk
     have:=hml j g2 hj
     omega
  ·rw[xbn _ _ _ _ e] at hk
   by_cases e2:j=bkt s
   ·subst e2
    rw[xbY] at hj
    rcases hloc with e3|⟨g2,e3,h3⟩
    ·rw[e3] at hj;exact hP.n4 _ _ g hk hj
    ·rw[e3] at hj;injection hj with hj;subst hj
     have:=hml k g2 hk
     omega
   ·rw[xbn _ _ _ _ e2] at hj
    exact hP.n4 _ _ g hk hj
 ·intro m e;injection e with e;injection e with e;subst e;exact hnm
 ·have hk0:Kept (xfX pb va vm G) (fun b=>xfX pb va vm G b∨w.heap.size≤b) w X:=⟨hx.kept.os,hx.kept.tape,hx.kept.output,hx.kept.size,hx.kept.same,fun b hb=>hb⟩
  have hk1:=(hk0.trans (xfx _ hgr (fun k hk=>.inl (.inl (.inr (.inr (.inr ⟨_,hk⟩))))))).trans (xfx _ hgr8 (fun k hk=>by
   injection hk with hk
   subst hk
   rcases hom with e|e
   ·exact .inl (.inl (.inr (.inr (.inl e))))
   ·exact .inl (.inr e)))
  refine⟨hk1.os,hk1.tape,hk1.output,hk1.size,hk1.same,?_⟩
  rintro b (rfl|hb|hb|⟨k,hb⟩)
  ·exact .inl (.inl rfl)
  ·rcases hx.oa with e2|⟨g2,e2,h2,_⟩
   ·exact .inl (.inr (.inl (by rw[← e2];exact hb)))
   ·rw[e2] at hb;injection hb with hb;subst hb;exact .inr h2
  ·injection hb with hb;injection hb with hb;subst hb
   rcases hom with e|e
   ·exact .inl (.inr (.inr (.inl e)))
   ·exact .inr e
  ·by_cases e:k=bkt s
   ·subst e
    rw[xbY] at hb
    rcases hloc with e3|⟨g2,e3,h3⟩
    ·exact .inl (.inr (.inr (.inr ⟨_,by rw[← e3];exact hb⟩)))
    ·rw[e3] at hb;injection hb with hb;subst hb;exact .inr (by omega)
   ·rw[xbn _ _ _ _ e] at hb
    exact .inl (.inr (.inr (.inr ⟨k,hb⟩)))
 ·rintro(hb|hb|hb|⟨k,hb⟩)
  ·omega
  ·rcases hx.oa with e2|⟨g2,e2,h2,h3,_⟩
   ·have:=hal rb (by rw[← e2];exact hb);omega
   ·rw[e2] at hb;injection hb with hb;exact h3 hb
  ·injection hb with hb;injection hb with hb;exact hrm hb.symm
  ·by_cases e:k=bkt s
   ·subst e
    rw[xbY] at hb
    rcases hloc with e3|⟨g2,e3,h3⟩
    ·have:=hml _ rb (by rw[← e3];exact hb);omega
    ·rw[e3] at hb;injection hb with hb;omega
   ·rw[xbn _ _ _ _ e] at hb
    have:=hml k rb hb;omega
theorem xqB (r:List En) (a:En) (x:Int):(xaw (r++[a])).set (r.length*4+3) (.int .u32 x)=xaw (r++[{ a with rn:=x }]):=by
 rw[xbX,xbX,List.set_append,if_neg (by rw[xbt];omega),xbt,Nat.add_sub_cancel_left]
 rfl
theorem xAm {w:World} {B g cap:Nat} {E:TypeId} {r:List En} {a:En} (h:xa5 w B E (.slice (some ⟨g,0,none⟩) (r.length+1) cap) (r++[a])) (x:Int):xa5 (w.setCell ⟨g,r.length*4+3,none⟩ (.int .u32 x)) B E (.slice (some ⟨g,0,none⟩) (r.length+1) cap) (r++[{ a with rn:=x }])∧w.grownBy (w.setCell ⟨g,r.length*4+3,none⟩ (.int .u32 x)) (some g):=by
 unfold xa5 at h ⊢
 rw[List.length_append,List.length_singleton] at h ⊢
 have h2:=World.ownsRow.stored h (r.length*4+3) (.int .u32 x)
 rw[xqB] at h2
 exact h2
def xel (rows:List En) (e:En):Bool:=match rows.getLast? with
 | some a=>xn0 a e
 | none=>false
theorem xcH (r:List En) (a e:En):xel (r++[a]) e=xn0 a e:=by unfold xel;rw[List.getLast?_concat]
theorem xyj {rows:List En} {e:En} (h:xel rows e=false):xxv rows e=rows++[e]:=by
 rcases List.eq_nil_or_concat rows with rfl|⟨r,a,rfl⟩
 ·rfl
 ·rw[List.concat_eq_append] at *
  rw[xcH] at h
  rw[xd9,h]
  rfl
theorem xuR {rows:List En} {e:En} (h:xel rows e=true):∃ r a,rows=r++[a]∧xxv rows e=r++[{ a with rn:=a.rn+1 }]:=by
 rcases List.eq_nil_or_concat rows with rfl|⟨r,a,rfl⟩
 ·cases h
 ·rw[List.concat_eq_append] at *
  rw[xcH] at h
  exact⟨r,a,rfl,by rw[xd9,h];rfl⟩
theorem xBL {l:List En} {d:ByteArray} {e:En} (he:e ∈ l):e.rn.toNat≤(xh1 l d).length:=by
 obtain⟨a,b,rfl⟩:=List.append_of_mem he
 rw[show a++e :: b=a++([e]++b) by simp,xcl,xcl,xfa,List.length_append,List.length_append,xis]
 omega
theorem xa5.keep {w w':World} {B:Nat} {E:TypeId} {v:Value} {l:List En} (h:xa5 w B E v l) (hk:∀ k,v.ownBlock=some k→w'.heap[k]?=w.heap[k]?):xa5 w' B E v l:=by
 obtain⟨h1,h2⟩:=h
 refine⟨h1,?_⟩
 rcases h2 with h2|⟨g,cap,cur,hv,hg,hh,r⟩
 ·exact .inl h2
 ·refine .inr ⟨g,cap,cur,hv,hg,?_,r⟩
  rw[hk g (by rw[hv];rfl)];exact hh
theorem xa5.cells {w:World} {B:Nat} {E:TypeId} {v:Value} {l:List En} (h:xa5 w B E v l) {g:Nat} (hg:v.ownBlock=some g):∃ cur T fz,w.heap[g]?=some (.cells cur T fz):=by
 rcases h.2 with ⟨rfl,_⟩|⟨g',cap,cur,rfl,_,hh,_⟩
 ·cases hg
 ·cases hg
  exact⟨_,_,_,hh⟩
theorem xdG {w:World} {B g:Nat} {E:TypeId} {v x:Value} {l:List En} (h:xa5 w B E v l) (ho:One w g x):v.ownBlock≠some g:=by
 intro e
 obtain⟨T,hh⟩:=ho
 rcases h.2 with ⟨rfl,_⟩|⟨g',cap,cur,rfl,_,h2,_,_,hcs,_⟩
 ·cases e
 ·cases e
  rw[hh] at h2
  cases h2
  simp at hcs
  omega
theorem One.keep {w w':World} {g:Nat} {x:Value} (h:One w g x) (hk:w'.heap[g]?=w.heap[g]?):One w' g x:=by
 obtain⟨T,h⟩:=h
 exact⟨T,hk.trans h⟩
theorem xpL {w:World} {v:Value} {l:List ByteArray} {S:Nat→Prop} (h:xcY w v l S) {b:Nat} (hb:S b) {o:Obj} (ho:w.heap[b]?=some o):xin o=false:=by
 obtain⟨pb,va,vm,G,rfl,hP,hS⟩:=h
 rcases(hS b).1 hb with rfl|hb|hb|⟨k,hb⟩
 ·have h0:=hP.two.1
  unfold World.cell? at h0
  simp only[ho] at h0
  cases o <;> first|rfl|simp at h0
 ·obtain⟨_,_,_,hh⟩:=hP.all.cells hb
  rw[ho] at hh;cases hh;rfl
 ·rcases hP.map with ⟨e,_⟩|⟨mb,e,hm⟩
  ·rw[e] at hb;cases hb
  ·rw[e] at hb;cases hb
   obtain⟨_,_,hh⟩:=hm.block
   rw[ho] at hh;cases hh;rfl
 ·obtain⟨_,_,_,hh⟩:=(hP.grps k).cells hb
  rw[ho] at hh;cases hh;rfl
def xjf (bl:Nat) (vo:Value) (Sp:Nat→Prop) (b:Nat):Prop:=b=bl∨vo.ownBlock=some b∨Sp b
structure RwP (w:World) (B bp bl:Nat) (pv:Value) (rows:List En) (ts:List ByteArray) (vo:Value) (Sp:Nat→Prop) (W:World):Prop where
 bxp:One W bp pv
 bxl:One W bl vo
 out:xa5 W B 147 vo rows
 pool:xcY W pv ts Sp
 np:¬ Sp bp
 nl:¬ Sp bl
 no:∀ b,vo.ownBlock=some b→¬ Sp b
 npl:bp≠bl
 bas:∀ b,Sp b→B≤b
 bll:B≤bl
 bel:Below B w W
section
variable {w:World} {B bp bl:Nat} {pv:Value} {rows:List En} {ts:List ByteArray} {vo:Value} {Sp:Nat→Prop} {W W':World}
theorem RwP.lt (h:RwP w B bp bl pv rows ts vo Sp W):∀ b,xjf bl vo Sp b→b<W.heap.size:=by
 rintro b (rfl|hb|hb)
 ·exact h.bxl.lt
 ·exact(h.out.lt b hb).2
 ·exact h.pool.lt b hb
theorem RwP.low (h:RwP w B bp bl pv rows ts vo Sp W):∀ b,xjf bl vo Sp b→B≤b:=by
 rintro b (rfl|hb|hb)
 ·exact h.bll
 ·exact(h.out.lt b hb).1
 ·exact h.bas b hb
theorem RwP.keep (h:RwP w B bp bl pv rows ts vo Sp W) (hs:W.heap.size≤W'.heap.size) (hk:∀ b,b=bp∨xjf bl vo Sp b→W'.heap[b]?=W.heap[b]?) (hb:Below B w W'):RwP w B bp bl pv rows ts vo Sp W' :=
 ⟨h.bxp.keep (hk _ (.inl rfl)),h.bxl.keep (hk _ (.inr (.inl rfl))),h.out.keep (fun k hv=>hk k (.inr (.inr (.inl hv)))),h.pool.keep hs (fun b hS=>hk b (.inr (.inr (.inr hS)))),h.np,h.nl,h.no,h.npl,h.bas,h.bll,hb⟩
theorem RwP.below (h:RwP w B bp bl pv rows ts vo Sp W) (hb:Below W.heap.size W W') (hB:B≤W.heap.size):RwP w B bp bl pv rows ts vo Sp W' :=
 h.keep hb.size (fun b hk=>hb.block b (by rcases hk with rfl|hk;exact h.bxp.lt;exact h.lt b hk)) (h.bel.trans (hb.mono hB))
theorem RwP.size (h:RwP w B bp bl pv rows ts vo Sp W):B≤W.heap.size:=Nat.le_of_lt (Nat.lt_of_le_of_lt h.bll h.bxl.lt)
theorem RwP.later (h:RwP w B bp bl pv rows ts vo Sp W) (hb:Below W.heap.size W W'):RwP w B bp bl pv rows ts vo Sp W':=h.below hb h.size
theorem RwP.add {ts':List ByteArray} {Sp':Nat→Prop} (h:RwP w B bp bl pv rows ts vo Sp W) (hp:xcY W' pv ts' Sp') (hk:Kept Sp Sp' W W'):RwP w B bp bl pv rows ts' vo Sp' W'∧KeepsS (xjf bl vo Sp) (xjf bl vo Sp') W W':=by
 refine⟨⟨h.bxp.keep (hk.same _ h.bxp.lt h.np),h.bxl.keep (hk.same _ h.bxl.lt h.nl),h.out.keep (fun k hv=>hk.same k (h.out.lt k hv).2 (h.no k hv)),hp,fun hb=>?_,fun hb=>?_,fun b hv hb=>?_,h.npl,fun b hb=>?_,h.bll,Below.kept h.bel hk h.bas h.size⟩,⟨hk.size,fun b o hb ho=>?_,fun b hb=>?_⟩⟩
 ·rcases hk.own _ hb with hq|hq
  ·exact h.np hq
  ·have:=h.bxp.lt;omega
 ·rcases hk.own _ hb with hq|hq
  ·exact h.nl hq
  ·have:=h.bxl.lt;omega
 ·rcases hk.own _ hb with hq|hq
  ·exact h.no b hv hq
  ·have:=(h.out.lt b hv).2;omega
 ·rcases hk.own _ hb with hq|hq
  ·exact h.bas b hq
  ·exact Nat.le_trans h.size hq
 ·exact(hk.same b (xat ho) (fun hq=>hb (.inr (.inr hq)))).trans ho
 ·rcases hb with rfl|hb|hb
  ·exact .inl (.inl rfl)
  ·exact .inl (.inr (.inl hb))
  ·rcases hk.own _ hb with hq|hq
   ·exact .inl (.inr (.inr hq))
   ·exact .inr hq
theorem RwP.row {rows':List En} (h:RwP w B bp bl pv rows ts vo Sp W) (ho:xa5 W' B 147 vo rows') (hg:W.grownBy W' vo.ownBlock):RwP w B bp bl pv rows' ts vo Sp W':=by
 have hbp:=xdG h.out h.bxp
 have hbl:=xdG h.out h.bxl
 exact⟨h.bxp.keep (hg.block _ h.bxp.lt (fun e=>hbp e.symm)),h.bxl.keep (hg.block _ h.bxl.lt (fun e=>hbl e.symm)),ho,h.pool.keep hg.size (fun b hS=>hg.block b (h.pool.lt b hS) (fun e=>h.no b e.symm hS)),h.np,h.nl,h.no,h.npl,h.bas,h.bll,h.bel.grown hg h.size (fun k hk=>(h.out.lt k hk).1)⟩
theorem xkW {S:Nat→Prop} {X Y:World} {r:Option Nat} (h:X.grownBy Y r) (hr:∀ k,r=some k→S k):KeepsS S S X Y :=
 ⟨h.size,fun b o hb ho=>(h.block b (xat ho) (fun e=>hb (hr b e.symm))).trans ho,fun _ h=>.inl h⟩
theorem RwP.run {r:List En} {a:En} {g cap:Nat} (h:RwP w B bp bl pv (r++[a]) ts (.slice (some ⟨g,0,none⟩) (r.length+1) cap) Sp W) (x:Int) :
  RwP w B bp bl pv (r++[{ a with rn:=x }]) ts (.slice (some ⟨g,0,none⟩) (r.length+1) cap) Sp (W.setCell ⟨g,r.length*4+3,none⟩ (.int .u32 x))∧KeepsS (xjf bl (.slice (some ⟨g,0,none⟩) (r.length+1) cap) Sp) (xjf bl (.slice (some ⟨g,0,none⟩) (r.length+1) cap) Sp) W (W.setCell ⟨g,r.length*4+3,none⟩ (.int .u32 x)):=by
 obtain⟨h1,h2⟩:=xAm h.out x
 exact⟨h.row h1 h2,xkW h2 (fun k e=>.inr (.inl e))⟩
theorem RwP.app {rows':List En} {v':Value} (h:RwP w B bp bl pv rows ts vo Sp W) (ho:xa5 W' B 147 v' rows') (hg:W.grownBy W' vo.ownBlock) (hl:v'.ownBlock=vo.ownBlock∨∃ g,v'.ownBlock=some g∧W.heap.size≤g) :
  RwP w B bp bl pv rows' ts v' Sp (W'.setCell ⟨bl,0,none⟩ v')∧KeepsS (xjf bl vo Sp) (xjf bl v' Sp) W (W'.setCell ⟨bl,0,none⟩ v'):=by
 have hbp:=xdG h.out h.bxp
 have hbl:=xdG h.out h.bxl
 have hp1:=h.bxp.keep (w':=W') (hg.block _ h.bxp.lt (fun e=>hbp e.symm))
 have hl1:=h.bxl.keep (w':=W') (hg.block _ h.bxl.lt (fun e=>hbl e.symm))
 have hbl':=xdG ho hl1
 have hset:∀ b,b≠bl→(W'.setCell ⟨bl,0,none⟩ v').heap[b]?=W'.heap[b]?:=fun b hb=>Below.heap_setCell _ _ _ _ (by simpa using hb)
 have hsz:(W'.setCell ⟨bl,0,none⟩ v').heap.size=W'.heap.size:=by simp
 refine⟨⟨hp1.set_other h.npl v',hl1.set v',ho.keep (fun k hk=>hset k (fun e=>hbl' (by rw[hk,e]))),h.pool.keep (by rw[hsz];exact hg.size) (fun b hS=>(hset b (fun e=>h.nl (e ▸ hS))).trans (hg.block b (h.pool.lt b hS) (fun e=>h.no b e.symm hS))),h.np,h.nl,fun b hv hS=>?_,h.npl,h.bas,h.bll,(h.bel.grown hg h.size (fun k hk=>(h.out.lt k hk).1)).setCell (p:=⟨bl,0,none⟩) h.bll v'⟩,⟨by rw[hsz];exact hg.size,fun b o hb hq=>?_,fun b hb=>?_⟩⟩
 ·rcases hl with hl|⟨g,hl,hge⟩
  ·exact h.no b (by rw[← hl];exact hv) hS
  ·rw[hv] at hl
   cases hl
   have:=h.pool.lt b hS
   omega
 ·exact(hset b (fun e=>hb (.inl e))).trans ((hg.block b (xat hq) (fun e=>hb (.inr (.inl e.symm)))).trans hq)
 ·rcases hb with rfl|hb|hb
  ·exact .inl (.inl rfl)
  ·rcases hl with hl|⟨g,hl,hge⟩
   ·exact .inl (.inr (.inl (by rw[← hl];exact hb)))
   ·rw[hb] at hl
    cases hl
    exact .inr hge
  ·exact .inl (.inr (.inr hb))
theorem RwP.grown {row:Option Nat} (h:RwP w B bp bl pv rows ts vo Sp W) (hg:W.grownBy W' row) (hrow:∀ r,row=some r→B≤r∧∃ o:Obj,W.heap[r]?=some o∧xin o=true):RwP w B bp bl pv rows ts vo Sp W':=by
 have hne:∀ b o,W.heap[b]?=some o→xin o=false→row≠some b:=fun b o ho hn e=>by
  obtain⟨_,o',ho',hy⟩:=hrow b e
  rw[ho] at ho'
  cases ho'
  rw[hn] at hy
  cases hy
 refine h.keep hg.size (fun b hb=>?_) (h.bel.grown hg h.size (fun r e=>(hrow r e).1))
 rcases hb with rfl|rfl|hb|hb
 ·obtain⟨T,hh⟩:=h.bxp
  exact hg.block _ (xat hh) (fun e=>hne _ _ hh rfl e.symm)
 ·obtain⟨T,hh⟩:=h.bxl
  exact hg.block _ (xat hh) (fun e=>hne _ _ hh rfl e.symm)
 ·obtain⟨_,_,_,hh⟩:=h.out.cells hb
  exact hg.block _ (xat hh) (fun e=>hne _ _ hh rfl e.symm)
 ·have hlt:=h.pool.lt b hb
  have ho:=Array.getElem?_eq_getElem hlt
  exact hg.block _ hlt (fun e=>hne _ _ ho (xpL h.pool hb ho) e.symm)
end
def RwI (w:World) (B bp bl:Nat) (pv:Value) (L:List It) (k:Nat) (S:Nat→Prop) (W:World):Prop :=
 ∃ vo Sp,RwP w B bp bl pv (xad (L.take k)).1 (xad (L.take k)).2 vo Sp W∧∀ b,S b↔xjf bl vo Sp b
theorem xrB (w:World) (B bp bl:Nat) (pv:Value) (L:List It) (B':Nat) (hB:B≤B'):xhN (fun _=>False) B' (RwI w B bp bl pv L):=by
 rintro⟨k,S⟩ X Y row ⟨vo,Sp,h,hS⟩ hg hr
 refine⟨vo,Sp,h.grown hg (fun r e=>?_),hS⟩
 rcases hr r e with h|h
 ·exact h.elim
 ·exact⟨Nat.le_trans hB h.1,h.2⟩
theorem RwI.lt {w:World} {B bp bl:Nat} {pv:Value} {L:List It} {k:Nat} {S:Nat→Prop} {W:World} (h:RwI w B bp bl pv L k S W):∀ b,S b→b<W.heap.size:=by
 obtain⟨vo,Sp,h,hS⟩:=h
 exact fun b hb=>h.lt b ((hS b).1 hb)
theorem xn8:(Tryz.prog.info? 147).map (fun i=>(i.zero,i.size,i.bytes))=some (some (.agg #[.int .u64 0,.int .u64 0,.int .u32 0,.int .u32 0]),4,24):=by kernel_rfl
theorem xjw (W:World) (ty:TypeId) (B:Nat) (v:Value) (L:List En) (e:En) (b c:Nat) (hown:xa5 W B 147 v L) (he:EAt W b e) (hl:L.length≤1000000) (hB:B≤W.heap.size) :
  ∃ v' w',(Builtin.append_ #[84,84] ty #[v,.slice (some ⟨b,0,none⟩) 1 c]).run Tryz.prog W=.ok v' w'∧xa5 w' B 147 v' (L++[e])∧W.grownBy w' v.ownBlock∧(v'.ownBlock=v.ownBlock∨∃ g,v'.ownBlock=some g∧W.heap.size≤g):=by
 obtain⟨v',w',hr,h2,h3,h4⟩:=xgS 4 24 W B 84 147 ty _ Tryz.underlying84 xn8 rfl (by omega) (by omega) v L.length (xaw L) hown ⟨b,0,none⟩ 1 c (xaw [e]) rfl (by
  intro j u hu
  match j,hu with
  | 0,hu=>simp only[xcI,cE,List.getElem?_cons_zero,Option.some.injEq] at hu;rw[← hu];exact he.1
  | 1,hu=>simp only[xcI,cE,List.getElem?_cons_succ,List.getElem?_cons_zero,Option.some.injEq] at hu;rw[← hu];exact he.2.1
  | 2,hu=>simp only[xcI,cE,List.getElem?_cons_succ,List.getElem?_cons_zero,Option.some.injEq] at hu;rw[← hu];exact he.2.2.1
  | 3,hu=>simp only[xcI,cE,List.getElem?_cons_succ,List.getElem?_cons_zero,Option.some.injEq] at hu;rw[← hu];exact he.2.2.2
  | j+4,hu=>simp[xcI,cE] at hu) (xc3 [e]) (by omega) (by omega) hB
 exact⟨v',w',hr,xcn h2 (by simp) (by rw[xbX]),h3,h4⟩
end Go.Proofs.YtjkgkmmkehnggaaGreatDoor
namespace Go.Proofs.YtjkgkmmkehnggaaGreatDoor
set_option linter.unusedVariables false
set_option linter.unusedSimpArgs false
open Go.RowKit
set_option maxRecDepth 20000
theorem xm1 (e:En) (w:World):Calls Tryz.prog 161 #[.agg (eC e)] w fun x w'=>x=.returned (.bool (decide (e.rn=0)))∧Below w.heap.size w w':=by
 obtain⟨i,o,l,r⟩:=e
 unfold eC
 dsimp only
 have hd:(r == 0)=decide (r=0):=by rw[Bool.eq_iff_iff];simp
 go_enter Tryz.func161,Tryz.ntmps161
 go_wp2_with fail
 go_ret
 exact⟨xkY (by first|exact hd|rfl|simp),by go_grown⟩
theorem xk0 (e:En) (w:World) (hm:xa1 e):Calls Tryz.prog 185 #[.agg (eC e)] w fun x w'=>x=.returned (.int .u64 (wdN e))∧Below w.heap.size w w':=by
 have HP:=lH (fun W=>xm1 e W)
 have H0:=EAt.made w e 147
 have HB:Below w.heap.size w (w.alloc (.cells (eC e) 147)):=(Below.refl _ _).alloc (Nat.le_refl _) _
 obtain⟨m0,m1,m2,m3⟩:=hm
 unfold eC at HB HP ⊢
 obtain⟨c0,c1,c2,c3⟩:=H0
 unfold eC at c0 c1 c2 c3
 by_cases h:e.rn=0
 ·have hw:Hid (wdN e=1):=lH (by unfold wdN;rw[if_pos h])
  have hd:decide (e.rn=0)=true:=by simpa using h
  rw[hd] at HP
  clear h hd
  go_enter Tryz.func185,Tryz.ntmps185
  go_wp2_with fail
  refine(HP.out _).mono ?_
  rintro x w1 ⟨rfl,hb⟩
  obtain⟨⟨k0,k1,k2,k3⟩,hU⟩:=xfS hb ⟨⟨c0,c1,c2,c3⟩,HB⟩
  have HU:=lH hU
  clear hb c0 c1 c2 c3 HB hU
  go_wp2_with fail
  go_ret
  exact⟨xd6 hw.out.symm,HU.out⟩
 ·have hw:Hid (wdN e=e.rn):=lH (by unfold wdN;rw[if_neg h])
  have hd:decide (e.rn=0)=false:=by simpa using h
  have hwr:IntKind.u64.wrap e.rn=e.rn:=by rw[IntKind.wrap_u64] <;> omega
  rw[hd] at HP
  clear h hd
  go_enter Tryz.func185,Tryz.ntmps185
  go_wp2_with fail
  refine(HP.out _).mono ?_
  rintro x w1 ⟨rfl,hb⟩
  obtain⟨⟨k0,k1,k2,k3⟩,hU⟩:=xfS hb ⟨⟨c0,c1,c2,c3⟩,HB⟩
  have HU:=lH hU
  clear hb c0 c1 c2 c3 HB hU
  go_wp2_with fail
  go_ret
  exact⟨xd6 hw.out.symm,HU.out⟩
set_option maxRecDepth 20000 in
theorem xfn (e:En) (w:World) (hm:xa1 e):Calls Tryz.prog 144 #[.agg (eC e)] w fun x w'=>x=.returned (.int .i64 (ckN e))∧Below w.heap.size w w':=by
 have HW:=lH (fun W=>xk0 e W hm)
 obtain⟨m0,m1,m2,m3⟩:=hm
 have H0:=EAt.made w e 147
 have HB:Below w.heap.size w (w.alloc (.cells (eC e) 147)):=(Below.refl _ _).alloc (Nat.le_refl _) _
 have HS0:=xfS (Below.drew (Below.refl _ _)) ⟨H0,HB⟩
 have hck:Hid (ckN e=if e.ln=0 then 2 else if cnN≤e.id∨cnN<e.id+wdN e then 8 else if 1099511627776<e.off∨1099511627776<e.off+e.ln then 8 else 0):=lH rfl
 have hwd:=xhL e m3.1
 have hwu:wdN e≤4294967295:=by unfold wdN;split <;> omega
 obtain⟨R,hR⟩:∃ R,ckN e=R:=⟨_,rfl⟩
 rw[hR] at hck ⊢
 clear hR
 obtain⟨d,hd⟩:∃ d,wdN e=d:=⟨_,rfl⟩
 rw[hd] at HW hck hwd hwu
 clear hd
 unfold cnN at hck
 by_cases h1:e.ln=0
 ·have hR:R=2:=by rw[hck.out,if_pos h1]
  subst hR
  have hl:(e.ln == 0)=true:=by simpa using h1
  clear HW HS0 hck
  unfold eC at HB ⊢
  go_enter Tryz.func144,Tryz.ntmps144
  go_wp2_with fail
  go_ret
  exact⟨rfl,by go_grown⟩
 have hl:(e.ln == 0)=false:=by simpa using h1
 rw[if_neg h1] at hck
 have hw:IntKind.u64.wrap (6004799503160661 - d)=6004799503160661 - d:=by rw[IntKind.wrap_u64] <;> omega
 have hwl:IntKind.u64.wrap e.ln=e.ln:=by rw[IntKind.wrap_u64] <;> omega
 have hwo:IntKind.u64.wrap (1099511627776 - e.ln)=1099511627776 - e.ln:=by rw[IntKind.wrap_u64] <;> omega
 by_cases h2:6004799503160661 - d<e.id
 ·have hR:R=8:=by rw[hck.out,if_pos (.inr (by omega))]
  subst hR
  have hi:decide (6004799503160661 - d<e.id)=true:=by simpa using h2
  clear hck
  unfold eC at HB HS0 HW ⊢
  go_enter Tryz.func144,Tryz.ntmps144
  go_upto_region 3 with fail
  refine wp_region_held_drew (S:=fun w'=>(w'.cell? ⟨w.heap.size,0,none⟩=some (.int .u64 e.id)∧w'.cell? ⟨w.heap.size,1,none⟩=some (.int .u64 e.off)∧w'.cell? ⟨w.heap.size,2,none⟩=some (.int .u32 e.ln)∧w'.cell? ⟨w.heap.size,3,none⟩=some (.int .u32 e.rn))∧Below w.heap.size w w') (by kernel_rfl) HS0 (fun hH0=>?_)
  refine tK 0 6 hH0 ?_
  refine tK 1 7 hH0 ?_
  refine tK 2 8 hH0 ?_
  refine wpAnyH_ready (rs:=[3]) (by kernel_rfl) (by simp) ?_
  refine AllReadyH.cons rfl (fun K hK=>?_) AllReadyH.nil
  go_simp
  refine(HW.out _).mono ?_
  rintro e w' ⟨rfl,hb⟩
  go_wp2_with fail
  refine hK.out _ _ (xfS hb hH0) (fun hH1=>?_)
  clear hK K hb hH0
  try simp only[Act.put,zsA,zsB,zsC]
  refine tK 4 10 hH1 ?_
  refine tK 5 11 hH1 ?_
  refine tK 6 12 hH1 ?_
  refine tU 7 13 hH1 ?_
  refine tU 8 14 hH1 ?_
  refine tU 9 15 hH1 ?_
  refine tU 10 16 hH1 ?_
  refine tU 11 17 hH1 ?_
  refine tU 12 18 hH1 ?_
  refine tU 13 19 hH1 ?_
  refine tK 14 20 hH1 ?_
  refine wpAnyH_done (by kernel_rfl) ?_ _
  go_wp2_with fail
  go_ret
  exact⟨rfl,hH1.2⟩
 have hi:decide (6004799503160661 - d<e.id)=false:=by simpa using h2
 rw[if_neg (by omega)] at hck
 by_cases h4:1099511627776 - e.ln<e.off
 ·have hR:R=8:=by rw[hck.out,if_pos (.inr (by omega))]
  subst hR
  have hk:decide (1099511627776 - e.ln<e.off)=true:=by simpa using h4
  clear hck
  unfold eC at HB HS0 HW ⊢
  go_enter Tryz.func144,Tryz.ntmps144
  go_upto_region 3 with fail
  refine wp_region_held_drew (S:=fun w'=>(w'.cell? ⟨w.heap.size,0,none⟩=some (.int .u64 e.id)∧w'.cell? ⟨w.heap.size,1,none⟩=some (.int .u64 e.off)∧w'.cell? ⟨w.heap.size,2,none⟩=some (.int .u32 e.ln)∧w'.cell? ⟨w.heap.size,3,none⟩=some (.int .u32 e.rn))∧Below w.heap.size w w') (by kernel_rfl) HS0 (fun hH0=>?_)
  refine tK 0 6 hH0 ?_
  refine tK 1 7 hH0 ?_
  refine tK 2 8 hH0 ?_
  refine wpAnyH_ready (rs:=[3]) (by kernel_rfl) (by simp) ?_
  refine AllReadyH.cons rfl (fun K hK=>?_) AllReadyH.nil
  go_simp
  refine(HW.out _).mono ?_
  rintro e w' ⟨rfl,hb⟩
  go_wp2_with fail
  refine hK.out _ _ (xfS hb hH0) (fun hH1=>?_)
  clear hK K hb hH0
  try simp only[Act.put,zsA,zsB,zsC]
  refine tK 4 10 hH1 ?_
  refine tK 5 11 hH1 ?_
  refine tK 6 12 hH1 ?_
  refine tK 7 13 hH1 ?_
  refine tK 8 14 hH1 ?_
  refine tK 9 15 hH1 ?_
  refine tK 10 16 hH1 ?_
  refine tK 11 17 hH1 ?_
  refine tK 12 18 hH1 ?_
  refine tK 13 19 hH1 ?_
  refine tK 14 20 hH1 ?_
  refine wpAnyH_done (by kernel_rfl) ?_ _
  obtain⟨⟨c0,c1,c2,c3⟩,hU⟩:=hH1
  have HU:=lH hU
  clear hU
  go_wp2_with fail
  go_ret
  exact⟨rfl,HU.out⟩
 ·have hR:R=0:=by rw[hck.out,if_neg (by omega)]
  subst hR
  have hk:decide (1099511627776 - e.ln<e.off)=false:=by simpa using h4
  clear hck
  unfold eC at HB HS0 HW ⊢
  go_enter Tryz.func144,Tryz.ntmps144
  go_upto_region 3 with fail
  refine wp_region_held_drew (S:=fun w'=>(w'.cell? ⟨w.heap.size,0,none⟩=some (.int .u64 e.id)∧w'.cell? ⟨w.heap.size,1,none⟩=some (.int .u64 e.off)∧w'.cell? ⟨w.heap.size,2,none⟩=some (.int .u32 e.ln)∧w'.cell? ⟨w.heap.size,3,none⟩=some (.int .u32 e.rn))∧Below w.heap.size w w') (by kernel_rfl) HS0 (fun hH0=>?_)
  refine tK 0 6 hH0 ?_
  refine tK 1 7 hH0 ?_
  refine tK 2 8 hH0 ?_
  refine wpAnyH_ready (rs:=[3]) (by kernel_rfl) (by simp) ?_
  refine AllReadyH.cons rfl (fun K hK=>?_) AllReadyH.nil
  go_simp
  refine(HW.out _).mono ?_
  rintro e w' ⟨rfl,hb⟩
  go_wp2_with fail
  refine hK.out _ _ (xfS hb hH0) (fun hH1=>?_)
  clear hK K hb hH0
  try simp only[Act.put,zsA,zsB,zsC]
  refine tK 4 10 hH1 ?_
  refine tK 5 11 hH1 ?_
  refine tK 6 12 hH1 ?_
  refine tK 7 13 hH1 ?_
  refine tK 8 14 hH1 ?_
  refine tK 9 15 hH1 ?_
  refine tK 10 16 hH1 ?_
  refine tK 11 17 hH1 ?_
  refine tK 12 18 hH1 ?_
  refine tK 13 19 hH1 ?_
  refine tK 14 20 hH1 ?_
  refine wpAnyH_done (by kernel_rfl) ?_ _
  obtain⟨⟨c0,c1,c2,c3⟩,hU⟩:=hH1
  have HU:=lH hU
  clear hU
  go_wp2_with fail
  go_ret
  exact⟨rfl,HU.out⟩
set_option maxRecDepth 20000 in
theorem xes (e:En) (w:World) (hm:xa1 e):Calls Tryz.prog 111 #[.agg (eC e)] w fun x w'=>x=.returned (.int .u64 (laN e))∧Below w.heap.size w w':=by
 have HW:=lH (fun W=>xk0 e W hm)
 have HC:=lH (fun W=>xfn e W hm)
 have H0:=EAt.made w e 147
 have HB:Below w.heap.size w (w.alloc (.cells (eC e) 147)):=(Below.refl _ _).alloc (Nat.le_refl _) _
 have hwd:=xhL e hm.2.2.2.1
 by_cases h0:ckN e=0
 ·have hb:=xhl e h0
  have hi:=hm.1
  have hw1:IntKind.u64.wrap (e.id+wdN e)=e.id+wdN e:=by rw[IntKind.wrap_u64] <;> omega
  have hw2:IntKind.u64.wrap (e.id+wdN e - 1)=e.id+wdN e - 1:=by rw[IntKind.wrap_u64] <;> omega
  have hla:Hid (e.id+wdN e - 1=laN e):=lH (by unfold laN;rw[if_pos h0])
  rw[h0] at HC
  obtain⟨d,hd⟩:∃ d,wdN e=d:=⟨_,rfl⟩
  rw[hd] at HW hw1 hw2 hla
  clear hd h0 hb hm hwd
  unfold eC at HB HC HW ⊢
  obtain⟨c0,c1,c2,c3⟩:=H0
  unfold eC at c0 c1 c2 c3
  go_enter Tryz.func111,Tryz.ntmps111
  go_wp2_with fail
  refine(HC.out _).mono ?_
  rintro x w1 ⟨rfl,hb⟩
  have HS1:=xfS hb ⟨⟨c0,c1,c2,c3⟩,HB⟩
  have HS0:=xfS (Below.drew (Below.refl _ _)) HS1
  clear hb c0 c1 c2 c3 HB HS1
  go_upto_region 3 with fail
  refine wp_region_held_drew (S:=fun w'=>(w'.cell? ⟨w.heap.size,0,none⟩=some (.int .u64 e.id)∧w'.cell? ⟨w.heap.size,1,none⟩=some (.int .u64 e.off)∧w'.cell? ⟨w.heap.size,2,none⟩=some (.int .u32 e.ln)∧w'.cell? ⟨w.heap.size,3,none⟩=some (.int .u32 e.rn))∧Below w.heap.size w w') (by kernel_rfl) HS0 (fun hH0=>?_)
  refine tK 0 6 hH0 ?_
  refine tK 1 7 hH0 ?_
  refine tK 2 8 hH0 ?_
  refine wpAnyH_ready (rs:=[3]) (by kernel_rfl) (by simp) ?_
  refine AllReadyH.cons rfl (fun K hK=>?_) AllReadyH.nil
  go_simp
  refine(HW.out _).mono ?_
  rintro e w' ⟨rfl,hb⟩
  go_wp2_with fail
  refine hK.out _ _ (xfS hb hH0) (fun hH1=>?_)
  clear hK K hb hH0
  try simp only[Act.put,zsA,zsB,zsC]
  refine tK 4 10 hH1 ?_
  refine tK 5 11 hH1 ?_
  refine tK 6 2 hH1 ?_
  refine wpAnyH_done (by kernel_rfl) ?_ _
  go_wp2_with fail
  go_ret
  exact⟨xd6 hla.out,hH1.2⟩
 ·have hla:laN e=0:=by unfold laN;rw[if_neg h0]
  rw[hla]
  obtain⟨r,hr⟩:∃ r,ckN e=r:=⟨_,rfl⟩
  rw[hr] at HC h0
  have hne:(r != 0)=true:=by simp only[bne_iff_ne,ne_eq];exact h0
  clear hr h0 hm hla hwd HW
  unfold eC at HB HC ⊢
  obtain⟨c0,c1,c2,c3⟩:=H0
  unfold eC at c0 c1 c2 c3
  go_enter Tryz.func111,Tryz.ntmps111
  go_wp2_with fail
  refine(HC.out _).mono ?_
  rintro x w1 ⟨rfl,hb⟩
  have HS1:=xfS hb ⟨⟨c0,c1,c2,c3⟩,HB⟩
  have HU:=lH HS1.2
  clear hb c0 c1 c2 c3 HB HS1
  go_wp2_with fail
  go_ret
  exact⟨rfl,HU.out⟩
end Go.Proofs.YtjkgkmmkehnggaaGreatDoor
