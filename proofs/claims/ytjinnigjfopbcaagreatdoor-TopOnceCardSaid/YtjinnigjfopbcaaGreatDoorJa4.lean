/- aHk aRn aPa. -/
import Derived.Test.YtjinnigjfopbcaaGreatDoorJa3
import Derived.RangeFuncNested
import Derived.RangeFuncBound
import Derived.Shelf.RegionOpen
import Derived.OwnWalkIn
import Derived.LoopNIn
import Derived.LoopIn
import Derived.Test.YtjinnigjfopbcaaGreatDoorJs
set_option maxHeartbeats 16000000
namespace Go.Proofs.YtjinnigjfopbcaaGreatDoor
set_option linter.unusedVariables false
set_option linter.unusedSimpArgs false
open Go.RowKit
set_option maxRecDepth 20000
theorem xoe {w:World} {B g:Nat} {E:TypeId} {v x:Value} {l:List It} (h:xaL w B E v l) (ho:One w g x):v.ownBlock≠some g:=by
 intro e
 obtain⟨T,hh⟩:=ho
 rcases h.2 with ⟨rfl,_⟩|⟨g',cap,cur,rfl,_,h2,_,_,hcs,_⟩
 ·cases e
 ·cases e
  rw[hh] at h2
  cases h2
  simp at hcs
  omega
theorem One.grown {w w':World} {B g:Nat} {E:TypeId} {v x:Value} {l:List It} (ho:One w g x) (h:xaL w B E v l) (hg:w.grownBy w' v.ownBlock):One w' g x:=by
 have hl:=ho.lt
 have hn:=xoe h ho
 obtain⟨T,hh⟩:=ho
 exact⟨T,(hg.block g hl (fun e=>hn e.symm)).trans hh⟩
theorem xaL.set {w:World} {B g:Nat} {E:TypeId} {v x:Value} {l:List It} (h:xaL w B E v l) (ho:One w g x) (x':Value):xaL (w.setCell ⟨g,0,none⟩ x') B E v l:=by
 have hn:=xoe h ho
 obtain⟨h1,h2⟩:=h
 refine⟨h1,?_⟩
 rcases h2 with h2|⟨g',cap,cur,rfl,hg,hh,r⟩
 ·exact .inl h2
 ·refine .inr ⟨g',cap,cur,rfl,hg,?_,r⟩
  exact(Below.heap_setCell _ _ _ _ (fun e=>hn (by show some g'=some g;rw[e]))).trans hh
structure OfS (w W:World) (s:Value) (acc:List It):Prop where
 res:One W w.heap.size (.slice none 0 0)
 cb:One W (w.heap.size+1) s
 own:xaL W w.heap.size 67 s acc
 bel:Below w.heap.size w W
theorem OfS.below {w W W':World} {s:Value} {acc:List It} (h:OfS w W s acc) (hb:Below W.heap.size W W'):OfS w W' s acc :=
 ⟨h.res.below hb,h.cb.below hb,h.own.below hb,h.bel.trans (hb.mono h.bel.size)⟩
theorem xpH (w:World):OfS w ((w.alloc (.cells #[.slice none 0 0] 36)).alloc (.cells #[.slice none 0 0] 36)) (.slice none 0 0) []:=by
 have h1:=xaP w (.slice none 0 0) 36
 have h2:=xaP (w.alloc (.cells #[.slice none 0 0] 36)) (.slice none 0 0) 36
 simp only[World.size_alloc] at h2
 exact⟨h1.alloc _,h2,xcQ _ _ _,by go_grown⟩
theorem xm6 (id x:Nat) (t:ByteArray) (acc sn:List It) (h:∀ id,(xbA id acc).isSome=(xbA id sn).isSome):(xbA id (xeM x t acc)).isSome=(xbA id (sn++[(x,t)])).isSome:=by
 rw[Bool.eq_iff_iff,xcc,xcc]
 have h1:=h id
 rw[Bool.eq_iff_iff,xcc,xcc] at h1
 constructor
 ·rintro⟨u,hu,he⟩
  rcases(xcV x t acc u).1 hu with rfl|⟨hu,hn⟩
  ·exact⟨_,by simp,he⟩
  ·obtain⟨u2,hu2,he2⟩:=h1.1 ⟨u,hu,he⟩
   exact⟨u2,by simp[hu2],he2⟩
 ·rintro⟨u,hu,he⟩
  by_cases hx:x=id
  ·exact⟨(x,t),(xcV x t acc _).2 (.inl rfl),hx⟩
  ·rcases List.mem_append.1 hu with hu|hu
   ·obtain⟨u2,hu2,he2⟩:=h1.2 ⟨u,hu,he⟩
    exact⟨u2,(xcV x t acc u2).2 (.inr ⟨hu2,by omega⟩),he2⟩
   ·simp at hu
    subst hu
    exact absurd he hx
theorem xnN {l:List It} {id:Nat} {t:ByteArray} (h0:putE l id t=0):t.size≤65536:=by
 unfold putE at h0
 by_cases h1:6004799503160661≤id
 ·rw[if_pos h1] at h0;cases h0
 rw[if_neg h1] at h0
 by_cases h2:t.size=0
 ·omega
 rw[if_neg h2] at h0
 by_cases h3:65536<t.size
 ·rw[if_pos h3] at h0;cases h0
 omega
theorem xpq {l:List It} {i:Nat} {t:It} {B:Nat} {s:Value} {w w':World} {e:Ending} (h:xeq l i t B s w e w'):∃ a n c,e=.returned (.slice a n c)∧xaL w' B 67 (.slice a n c) (xlD l i t)∧w.grownBy w' s.ownBlock:=by
 obtain⟨v,rfl,ho,hb⟩:=h
 obtain⟨a,c,rfl⟩:=ho.slice
 exact⟨_,_,_,rfl,ho,hb⟩
theorem xvh (w W:World) (s:Value) (acc:List It) (i id:Nat) (t:ByteArray) (h:OfS w W s acc) (hi:i≤acc.length) (hl:acc.length≤5000) :
  Calls Tryz.prog 86 #[s,.int .i64 i,.slice (some ⟨W.heap.size,0,none⟩) 1 1] (W.alloc (.cells #[.int .u64 id,.string t] 67))
   fun e w'=>∃ a n c,e=.returned (.slice a n c)∧xaL w' w.heap.size 67 (.slice a n c) (xlD acc i (id,t))∧One w' w.heap.size (.slice none 0 0)∧One w' (w.heap.size+1) s∧Below w.heap.size w w':=by
 have h1:=h.below (xae W (.cells #[.int .u64 id,.string t] 67))
 refine(xlh s acc (id,t) w.heap.size W.heap.size i _ 67 h1.own (xcn _ _) (fun e=>?_) hi hl h1.bel.size).mono (fun e w' h2=>?_)
 ·have:=(h.own.lt _ e).2
  omega
 ·obtain⟨a,n,c,rfl,ho,hg⟩:=xpq h2
  exact⟨a,n,c,rfl,ho,h1.res.grown h1.own hg,h1.cb.grown h1.own hg,h1.bel.grown hg h1.bel.size (fun k hk=>(h1.own.lt k hk).1)⟩
theorem xoP (v:Value) (l:List It) (w:World) (hv:ItsAt w v l) (hl:l.length≤10000) (hid:∀ t ∈ l,t.1<18446744073709551616) (hs:∀ t ∈ l,t.2.size≤maxLen) :
  Calls Tryz.prog 40 #[v] w fun e w'=>∃ s,e=.returned (.tuple #[.agg #[s],.int .i64 ((ofI l).2:Nat)])∧ChS w' s (ofI l).1∧Below w.heap.size w w':=by
 obtain⟨al,cap,rfl,hcap,hmx,hc⟩:=hv
 have HC:=lH hc
 have HST:=lH (xpH w)
 obtain⟨R,hR⟩:∃ R,ofI l=R:=⟨_,rfl⟩
 rw[hR]
 have HRR:=lH hR
 clear hc hR
 go_enter Tryz.func40,Tryz.ntmps40
 go_wp2_with fail
 go_loopw [12] (fun x wr=>∃ (k:Nat) (acc:List It) (s:Value),k≤l.length∧x=.int .i64 k∧OfS w wr s acc∧GoodC acc∧R=ofR (l.take k) acc (l.drop k)∧∀ id,(xbA id acc).isSome=(xbA id (l.take k)).isSome) (fun x _=>l.length - (intOf x).toNat)
 case atStart=>exact⟨0,[],_,Nat.zero_le _,rfl,HST.out,xfl,HRR.out.symm,fun id=>rfl⟩
 case round =>
  obtain⟨k,acc,s,hk,rfl,hO,hgood,hR,hseen⟩:=hrel
  have HO:=lH hO
  have HGD:=lH hgood
  have HSE:=lH hseen
  have hfew:=hgood.few
  have hle:=xkF
  have cc:=hO.cb.cell
  have rr:=hO.res.cell
  have rf:=hO.res.frz
  have cA:∀ O,(wr.alloc O).cell? ⟨w.heap.size+1,0,none⟩=some s:=fun O=>(hO.cb.alloc O).cell
  clear HST HRR
  by_cases hlt:k<l.length
  ·obtain⟨⟨x,t⟩,htk⟩:∃ t,l[k]?=some t:=⟨_,List.getElem?_eq_getElem hlt⟩
   have hx:=hid _ (List.mem_of_getElem? htk)
   have ht:=hs _ (List.mem_of_getElem? htk)
   simp only at hx ht
   obtain⟨g,off,rfl,hg,c0,c1⟩:=HC.out k _ htk
   have d0:=(hO.bel.cell (p:=⟨g,off+k*2,none⟩) hg).trans c0
   have d1:=(hO.bel.cell (p:=⟨g,off+k*2+1,none⟩) hg).trans c1
   rw[xpU l acc k _ htk,← hseen x] at hR
   have hki:(k:Int)<(l.length:Int):=by omega
   have HPL:=lH (fun X (hX:Below wr.heap.size wr X)=>xe8 s acc x X ⟨(hO.own.below hX).itsAt,hgood⟩)
   have HCK:=lH (fun X (hX:Below wr.heap.size wr X)=>xfI s acc x t X ⟨(hO.own.below hX).itsAt,hgood⟩ ht)
   obtain⟨a7,n7,p7,rfl⟩:∃ a n c,s=.slice a n c:=by obtain⟨_,_,e⟩:=hO.own.slice;exact⟨_,_,_,e⟩
   have hlo:=xkF x acc
   have HIT:=lH (xem wr (.int .u64 x) (.string t) 67)
   have HPN:=lH (fun hn=>xrV (id:=x) (s:=t) (l:=acc) hn)
   have HTK:=lH (xbY l k _ htk)
   obtain⟨b,hb⟩:∃ b,(xbA x acc).isSome=b:=⟨_,rfl⟩
   rw[hb] at HPL HCK hR HPN
   have hbz:=xae wr (.cells #[.int .u64 x,.string t] 67)
   have HBZ:=lH hbz
   clear c0 c1 hO hgood hseen hb hbz hle htk
   cases b with
   | true =>
    rw[if_pos rfl] at hR
    have HR:=lH hR
    clear hR
    go_wp2_with fail
    refine(HPL.out _ HBZ.out).mono ?_
    rintro e w1 ⟨rfl,hb⟩
    have H1:=lH ((HO.out.below HBZ.out).below hb)
    have r0:=H1.out.res.cell
    have r1:=H1.out.res.frz
    clear hb cc rr rf d0 d1 cA
    go_wp2_with fail
    refine bodyPost_ret (xaR rfl _ _ w.heap.size _ _ _ rfl rfl (H1.out.res.set _).cell Tryz.underlying36 rfl xaQ) rfl ⟨_,by rw[HR.out];rfl,?_,H1.out.bel.setCell (p:=⟨w.heap.size,0,none⟩) (Nat.le_refl _) _⟩
    rw[HR.out]
    exact xfo _
   | false =>
    rw[if_neg (by decide)] at hR
    obtain⟨z,hz⟩:∃ z,putE acc x t=z:=⟨_,rfl⟩
    rw[hz] at hR HCK
    by_cases h0:z=0
    ·subst h0
     rw[if_neg (by simp)] at hR
     have HR:=lH hR
     have HTS:=lH (xnN hz)
     have HKE:=lH (fun W=>xkt x t W (Nat.le_trans HTS.out (by omega)))
     have HGP:Hid (GoodC (xeM x t acc)):=by
      have h1:=xkE (id:=x) (s:=t) HGD.out
      unfold xcG at h1
      rw[if_pos hz] at h1
      exact lH h1
     have HPE:Hid (xlD acc (loC x acc) (x,t)=xeM x t acc):=lH (HPN.out rfl).symm
     have HIN:=lH (fun X (h:OfS w X (.slice a7 n7 p7) acc)=>xvh w X (.slice a7 n7 p7) acc (loC x acc) x t h hlo (by omega))
     rw[HPE.out] at HIN
     clear hR HPN HPE
     go_wp2_with fail
     refine(HPL.out _ HBZ.out).mono ?_
     rintro e w1 ⟨rfl,hb⟩
     have H1:=lH ((HO.out.below HBZ.out).below hb)
     have I1:=lH (HIT.out.below hb)
     have hb1:=lH (HBZ.out.trans (hb.mono HBZ.out.size))
     have c1:=H1.out.cb.cell
     obtain⟨i0,i1,_,_⟩:=I1.out
     clear hb cc rr rf d0 d1 cA
     go_wp2_with fail
     refine(HCK.out _ hb1.out).mono ?_
     rintro e w2 ⟨rfl,hb⟩
     have H2:=lH (H1.out.below hb)
     have I2:=lH (I1.out.below hb)
     clear hb c1 i0 i1
     have c2:=H2.out.cb.cell
     obtain⟨i0,i1,_,_⟩:=I2.out
     go_wp2_with fail
     go_region_law (first|(go_simp;go_at_call 87;refine(HKE.out _).mono ?_;rintro e w3 ⟨rfl,hb⟩;have hb3:Below w2.heap.size w2 w3:=(by go_grown:Below w2.heap.size w2 _).trans (hb.mono (by simp));have O3:=H2.out.below hb3;have k3:=O3.cb.cell;have k4:∀ O,(w3.alloc O).cell? ⟨w.heap.size+1,0,none⟩=_:=fun O=>(O3.cb.alloc O).cell)|(go_simp;go_at_call 86;refine(HIN.out _ O3).mono ?_;rintro e w5 ⟨a9,n9,p9,rfl,ho9,hr9,hc9,hb9⟩;have k5:=hc9.cell;have k6:=hc9.frz))
     all_goals
      have H5:=lH (OfS.mk (w:=w) (hr9.set_other (by omega) (.slice a9 n9 p9)) (hc9.set (.slice a9 n9 p9)) (ho9.set hc9 (.slice a9 n9 p9)) (hb9.setCell (p:=⟨w.heap.size+1,0,none⟩) (Nat.le_succ _) (.slice a9 n9 p9)))
      go_wp2_with fail
      go_roundw
      case rel=>exact⟨k+1,_,_,by omega,by go_num,H5.out,HGP.out,HR.out,fun id=>by rw[HTK.out];exact xm6 id x t acc _ HSE.out⟩
      case measure=>simp[intOf];omega
    ·rw[if_pos h0] at hR
     have hzn:(((z:Nat):Int) != 0)=true:=by simpa using h0
     have HR:=lH hR
     clear hR
     go_wp2_with fail
     refine(HPL.out _ HBZ.out).mono ?_
     rintro e w1 ⟨rfl,hb⟩
     have H1:=lH ((HO.out.below HBZ.out).below hb)
     have I1:=lH (HIT.out.below hb)
     have hb1:=lH (HBZ.out.trans (hb.mono HBZ.out.size))
     have c1:=H1.out.cb.cell
     obtain⟨i0,i1,_,_⟩:=I1.out
     clear hb cc rr rf d0 d1 cA
     go_wp2_with fail
     refine(HCK.out _ hb1.out).mono ?_
     rintro e w2 ⟨rfl,hb⟩
     have H2:=lH (H1.out.below hb)
     have r0:=H2.out.res.cell
     have r1:=H2.out.res.frz
     clear hb c1 i0 i1
     go_wp2_with fail
     refine bodyPost_ret (xaR rfl _ _ w.heap.size _ _ _ rfl rfl (H2.out.res.set _).cell Tryz.underlying36 rfl xaQ) rfl ⟨_,by rw[HR.out];rfl,?_,H2.out.bel.setCell (p:=⟨w.heap.size,0,none⟩) (Nat.le_refl _) _⟩
     rw[HR.out]
     exact xfo _
  ·obtain rfl:k=l.length:=by omega
   rw[List.drop_length,ofR] at hR
   have HR:=lH hR
   obtain⟨a7,n7,p7,rfl⟩:∃ a n c,s=.slice a n c:=by obtain⟨_,_,e⟩:=hO.own.slice;exact⟨_,_,_,e⟩
   clear hR hO hgood hseen hle
   go_wp2_with fail
   refine bodyPost_ret (xaR rfl _ _ w.heap.size _ _ _ rfl rfl (HO.out.res.set _).cell Tryz.underlying36 rfl xaQ) rfl ⟨_,by rw[HR.out];rfl,?_,HO.out.bel.setCell (p:=⟨w.heap.size,0,none⟩) (Nat.le_refl _) _⟩
   rw[HR.out]
   exact⟨HO.out.own.itsAt.set HO.out.res _,HGD.out⟩
end Go.Proofs.YtjinnigjfopbcaaGreatDoor
namespace Go.Proofs.YtjinnigjfopbcaaGreatDoor
set_option linter.unusedVariables false
set_option linter.unusedSimpArgs false
open Go.RowKit Go.Shelf
set_option maxRecDepth 20000
def xd3:Obj→Bool
 | .loop _=>true
 | .deferred _=>true
 | _=>false
theorem xbn {p:Prop} (h:Fence.wide.depth.isSome=true):p:=absurd h (by simp[Fence.wide])
structure KeepsS (S S':Nat→Prop) (W W':World):Prop where
 size:W.heap.size≤W'.heap.size
 same:∀ (b:Nat) (o:Obj),¬ S b→W.heap[b]?=some o→W'.heap[b]?=some o
 own:∀ b,S' b→S b∨W.heap.size≤b
theorem xaD {W:World} {b:Nat} {o:Obj} (h:W.heap[b]?=some o):b<W.heap.size:=(Array.getElem?_eq_some_iff.1 h).1
theorem KeepsS.refl (S:Nat→Prop) (W:World):KeepsS S S W W:=⟨Nat.le_refl _,fun _ _ _ h=>h,fun _ h=>.inl h⟩
theorem KeepsS.trans {S S' S'':Nat→Prop} {X Y Z:World} (h:KeepsS S S' X Y) (h':KeepsS S' S'' Y Z):KeepsS S S'' X Z:=by
 refine⟨Nat.le_trans h.size h'.size,fun b o hb ho=>h'.same b o (fun hs=>?_) (h.same b o hb ho),fun b hb=>?_⟩
 ·have:=xaD ho
  rcases h.own b hs with h1|h1
  ·exact hb h1
  ·omega
 ·rcases h'.own b hb with h1|h1
  ·exact h.own b h1
  ·exact .inr (Nat.le_trans h.size h1)
theorem KeepsS.below (S:Nat→Prop) {W W':World} (hb:Below W.heap.size W W'):KeepsS S S W W':=⟨hb.size,fun b o _ ho=>(hb.block b (xaD ho)).trans ho,fun _ h=>.inl h⟩
theorem KeepsS.alloc (S:Nat→Prop) (W:World) (o:Obj):KeepsS S S W (W.alloc o):=.below S ((Below.refl _ W).alloc (Nat.le_refl _) o)
theorem KeepsS.setCell (S:Nat→Prop) (W:World) (a:Addr) (v:Value) (ha:S a.block):KeepsS S S W (W.setCell a v) :=
 ⟨(KeepsWalks.setCell W a v).size,fun b o hb ho=>(Below.heap_setCell W a v b (fun e=>hb (e ▸ ha))).trans ho,fun _ h=>.inl h⟩
theorem KeepsS.cell {S S':Nat→Prop} {W W':World} (h:KeepsS S S' W W') {p:Addr} {v:Value} (hp:¬ S p.block) (hc:W.cell? p=some v):W'.cell? p=some v:=by
 have hlt:=xa3 hc
 have:W'.heap[p.block]?=W.heap[p.block]?:=by rw[Array.getElem?_eq_getElem hlt];exact h.same _ _ hp (Array.getElem?_eq_getElem hlt)
 simpa[World.cell?,this] using hc
theorem KeepsS.heap {S S':Nat→Prop} {W W':World} (h:KeepsS S S' W W') {b:Nat} (hp:¬ S b) (hb:b<W.heap.size):W'.heap[b]?=W.heap[b]?:=by
 rw[Array.getElem?_eq_getElem hb];exact h.same _ _ hp (Array.getElem?_eq_getElem hb)
def xbz {β:Type} (T:Nat→Prop) (B:Nat) (J:β→World→Prop):Prop :=
 ∀ s X Y row,J s X→X.grownBy Y row→(∀ r,row=some r→T r∨(B≤r∧∃ o:Obj,X.heap[r]?=some o∧xd3 o=true))→J s Y
abbrev xcN (T:Nat→Prop) (B:Nat) (J:Nat→(Nat→Prop)→World→Prop):Prop:=xbz T B (fun(s:Nat × (Nat→Prop))=>J s.1 s.2)
theorem xbz.mono {β:Type} {T:Nat→Prop} {B B':Nat} {J:β→World→Prop} (h:xbz T B J) (hB:B≤B'):xbz T B' J:=fun s X Y row hs hg hr =>
 h s X Y row hs hg (fun r e=>(hr r e).imp id (fun h=>⟨Nat.le_trans hB h.1,h.2⟩))
theorem xbz.and {β:Type} {T:Nat→Prop} {B:Nat} {J J':β→World→Prop} (h:xbz T B J) (h':xbz T B J'):xbz T B (fun s W=>J s W∧J' s W):=fun s X Y row hs hg hr=>⟨h s X Y row hs.1 hg hr,h' s X Y row hs.2 hg hr⟩
theorem xbz.put {β:Type} {T:Nat→Prop} {B:Nat} {J:β→World→Prop} (h:xbz T B J) {s:β} {W:World} (hs:J s W) {l:Nat} {o:Obj} (o':Obj) (hB:B≤l) (hl:W.heap[l]?=some o) (ho:xd3 o=true):J s (W.putObj l o') :=
 h s W _ (some l) hs (grownBy_putObj' W l o') (fun r e=>by cases e;exact .inr ⟨hB,o,hl,ho⟩)
theorem xbz.grow {β:Type} {T:Nat→Prop} {B:Nat} {J:β→World→Prop} (h:xbz T B J) {s:β} {W W':World} (hs:J s W) (hb:Below W.heap.size W W'):J s W' :=
 h s W W' none hs ⟨hb.os,hb.tape,hb.output,hb.size,fun k hk _=>hb.block k hk⟩ (fun r e=>by cases e)
theorem xbz.alloc {β:Type} {T:Nat→Prop} {B:Nat} {J:β→World→Prop} (h:xbz T B J) {s:β} {W:World} (hs:J s W) (o:Obj):J s (W.alloc o):=h.grow hs ((Below.refl _ W).alloc (Nat.le_refl _) o)
theorem xbm {β:Type} {T:Nat→Prop} {n₀ B:Nat} {w₀:World} (h0:n₀≤w₀.heap.size) (hB:n₀≤B) (hT:∀ r,T r→n₀≤r):xbz T B (fun(_:β) W=>Below n₀ w₀ W):=fun s X Y row hs hg hr =>
 ⟨hg.os.trans hs.os,hg.tape.trans hs.tape,hg.output.trans hs.output,Nat.le_trans hs.size hg.size,fun k hk=>by
  refine(hg.block k ?_ (fun e=>?_)).trans (hs.block k hk)
  ·have:=hs.size;omega
  ·rcases hr k e.symm with h|h
   ·have:=hT k h;omega
   ·omega⟩
theorem xiK {T S1:Nat→Prop} {B:Nat} {X:World} (hB:X.heap.size≤B) (hT:∀ r,T r→X.heap.size≤r):xcN T B (fun _ S W=>KeepsS S1 S X W):=fun s Y Z row hs hg hr =>
 ⟨Nat.le_trans hs.size hg.size,fun b o hb ho=>by
  have hY:=hs.same b o hb ho
  have hX:=xaD ho
  refine(hg.block b (xaD hY) (fun e=>?_)).trans hY
  rcases hr b e.symm with h|h
  ·have:=hT b h;omega
  ·omega,hs.own⟩
def xrx (P:Program) (g:Nat) (lb:Array Value) (encs:Nat→Array Value) (N:Nat) (T V:Nat→Prop) (G:Nat→World→Prop) (Z:World→Prop) (w:World):Prop :=
 ∀ (n l:Nat) (J:Nat→(Nat→Prop)→World→Prop) (Jx:Nat→World→Prop) (S0:Nat→Prop) (W:World),Below w.heap.size w W →
  xcN T W.heap.size J→xbz T W.heap.size Jx→(∀ k S W1,J k S W1→G k W1∧∀ b,S b→b<W1.heap.size)→(∀ b,S0 b→b<W.heap.size∧¬ V b) →
  (∀ k S W1,J k S W1→k<N→YieldAt Fence.wide (n - 1) P l (encs k) W1 fun e W'=>(e=.returned (.bool true)∧∃ S',J (k+1) S' W'∧KeepsS S S' W1 W')∨(e=.returned (.bool false)∧Jx (k+1) W'∧∃ S',KeepsS S S' W1 W')) →
  J 0 S0 W→CallsIn Fence.wide n P g (#[.func (.yield l) #[] #[]]++lb) W fun e W'=>(∃ v,e=.returned v)∧((∃ S',J N S' W'∧Z W')∨∃ k,k≤N∧Jx k W')
def xwb (P:Program) (g:Nat) (lb:Array Value) (encs:Nat→Array Value) (N:Nat) (T V:Nat→Prop) (G:Nat→World→Prop) (Y:Nat→World→Prop) (Z:World→Prop) (w:World):Prop :=
 ∀ (n l:Nat) (J:Nat→(Nat→Prop)→World→Prop) (Jx:Nat→World→Prop) (S0:Nat→Prop) (W:World),Below w.heap.size w W →
  xcN T W.heap.size J→xbz T W.heap.size Jx→(∀ k S W1,J k S W1→G k W1∧∀ b,S b→b<W1.heap.size)→(∀ b,S0 b→b<W.heap.size∧¬ V b) →
  (∀ k S W1,J k S W1→Y k W1→k<N→YieldAt Fence.wide (n - 1) P l (encs k) W1 fun e W'=>(e=.returned (.bool true)∧∃ S',J (k+1) S' W'∧KeepsS S S' W1 W')∨(e=.returned (.bool false)∧Jx (k+1) W'∧∃ S',KeepsS S S' W1 W')) →
  J 0 S0 W→CallsIn Fence.wide n P g (#[.func (.yield l) #[] #[]]++lb) W fun e W'=>(∃ v,e=.returned v)∧((∃ S',J N S' W'∧Z W')∨∃ k,k≤N∧Jx k W')
theorem xrx.toY {P:Program} {g:Nat} {lb:Array Value} {encs:Nat→Array Value} {N:Nat} {T V:Nat→Prop} {G:Nat→World→Prop} {Z:World→Prop} {w:World} (h:xrx P g lb encs N T V G Z w):xwb P g lb encs N T V G (fun _ _=>True) Z w :=
 fun n l J Jx S0 W hW hJ hJx hG hS0 hY h0=>h n l J Jx S0 W hW hJ hJx hG hS0 (fun k S W1 hj hk=>hY k S W1 hj trivial hk) h0
def xtp (I:Nat→(Nat→Prop)→World→Prop) (Ix:Code→Nat→World→Prop) (k:Nat) (S:Nat→Prop) (W:World):Exit→Act→World→Prop
 | .normal,_,W'=>∃ S',I k S' W'∧KeepsS S S' W W'
 | .ret,_,W'=>Ix .ret k W'∧∃ S',KeepsS S S' W W'
 | .exit id,_,W'=>Ix (.exit id) k W'∧∃ S',KeepsS S S' W W'
 | .goto t,_,W'=>Ix (.goto t) k W'∧∃ S',KeepsS S S' W W'
 | .panic _,_,_=>False
 | .outgrown,_,_=>False
abbrev xjE (D:Nat) (a:Act):Act:={ a with defers:={ target:=.collected D,args:=#[] } :: a.defers }
theorem xnb {n:Nat} {P:Program} {w:World} {a:Act} {Q:Exit→Act→World→Prop} {g:Operand} {ps:Array Tmp} {assign body:Code}
  {gf:Nat} {lb:Array Value} (hg:a.eval g=.func (.func gf) #[] lb) (eg:∀ args w,(callFunc gf args).run P w=.ok (.enter gf args) w)
  {encs:Nat→Array Value} {N:Nat} {T V:Nat→Prop} {G:Nat→World→Prop} {Y:Nat→World→Prop} {Z:World→Prop} {w0:World} (hseq:xwb P gf lb encs N T V G Y Z w0) (hb0:Below w0.heap.size w0 w)
  (hT:∀ r,T r→r<w.heap.size) (hV:∀ r,V r→r<w.heap.size) (hps:∀ k,(encs k).size=ps.size)
  (I:Nat→(Nat→Prop)→World→Prop) (Ix:Code→Nat→World→Prop) (hI:xcN T w.heap.size I) (hIx:∀ c,xbz T w.heap.size (Ix c)) (hG:∀ k S W,I k S W→G k W∧∀ b,S b→b<W.heap.size)
  (S0:Nat→Prop) (hS0:∀ b,S0 b→b<w.heap.size∧¬ V b) (h0:I 0 S0 w) (hZ:∀ (W:World) (l:Nat) (o o':Obj),Z W→w.heap.size≤l→W.heap[l]?=some o→xd3 o=true→Z (W.putObj l o'))
  (hYp:∀ (k:Nat) (W:World) (l:Nat) (o o':Obj),Y k W→w.heap.size≤l→W.heap[l]?=some o→xd3 o=true→Y k (W.putObj l o')) (Ax:Nat→Act→World→Prop) (hAx:∀ k a',xbz T w.heap.size (fun(_:Unit) W=>Ax k a' W))
  (hassign:∀ (l k:Nat) (S:Nat→Prop) (W:World) (K:Act→World→Prop),I k S W→Y k W→k<N→(∀ a' W' S',I k S' W'→Y k W'→KeepsS S S' W W'→Ax k a' W'→K a' W') →
   assign.wpIn (Fence.wide.inRound l) (n - 1 - 1) P (Exit.then K (fun _ _ _=>False)) { tmps:=(ps.zip (encs k)).foldl (fun t (p,v)=>t.setIfInBounds p v) a.tmps,defers:=[] } W)
  (hbody:∀ (l k:Nat) (S:Nat→Prop) (a':Act) (W:World),w.heap.size≤l→I k S W→Y k W→Ax k a' W→k<N→body.wpIn (Fence.wide.inRound l) (n - 1 - 1) P (xtp I Ix (k+1) S W) a' W)
  (hdone:∀ (D:Nat) (S:Nat→Prop) (W:World),w.heap.size≤D→¬ S D→I N S W→Z W→W.heap[D]?=some (.deferred (some []))→Q .normal (xjE D a) W)
  (hstop:∀ (D:Nat) (c:Code) (k:Nat) (W:World),w.heap.size≤D→k≤N→Ix c k W→W.heap[D]?=some (.deferred (some []))→c.wpIn Fence.wide n P Q (xjE D a) W) :
  (Code.rangeFunc g ps assign body).wpIn Fence.wide n P Q a w:=by
 refine wpIn_rangeFunc fun fn hfn=>?_
 -- the record of the loop,and the world in which the iterator is called
 generalize hL:w.heap.size+1=L
 have hD:w.heap.size<L:=by omega
 let rec0:LoopState→Option Code→Loop:=fun st pe=>{ state:=st,pending:=pe,fn,tmps:=a.tmps,params:=ps,assign,body,defers:=w.heap.size }
 have hrec:rec0=fun st pe=>{ state:=st,pending:=pe,fn,tmps:=a.tmps,params:=ps,assign,body,defers:=w.heap.size }:=rfl
 generalize rec0=rec at hrec
 have hnew:Below w.heap.size w ((w.alloc (.deferred (some []))).alloc (.loop (rec .ready none))):=((Below.refl _ w).alloc (Nat.le_refl _) _).alloc (by simp) _
 have e1:((w.alloc (.deferred (some []))).alloc (.loop (rec .ready none))).heap[L]?=some (.loop (rec .ready none)):=by
  have:=World.alloc_heap_new (w.alloc (.deferred (some []))) (.loop (rec .ready none))
  rwa[World.size_alloc,hL] at this
 have e2:((w.alloc (.deferred (some []))).alloc (.loop (rec .ready none))).heap[w.heap.size]?=some (.deferred (some [])) :=
  (Below.heap_alloc _ _ _ (by simp)).trans (World.alloc_heap_new w _)
 have e3:((w.alloc (.deferred (some []))).alloc (.loop (rec .ready none))).heap.size=L+1:=by simp;omega
 have e4:(Instr.enterLoop fn a.tmps ps assign body Fence.wide.round).run P w=.ok (L,[{ target:=.collected w.heap.size,args:=#[] }]) ((w.alloc (.deferred (some []))).alloc (.loop (rec .ready none))):=by
  rw[hrec,← hL];exact run_enterLoop_outer _ _ _ _ _
 generalize (w.alloc (.deferred (some []))).alloc (.loop (rec .ready none))=W1 at hnew e1 e2 e3 e4
 refine⟨L,_,W1,{ target:=.fn (.func gf) lb,args:=#[.func (.yield L) #[] #[]] },W1,gf,#[.func (.yield L) #[] #[]]++lb,W1,e4,?_,fun _ _=>trivial,?_,fun h=>absurd h (by simp[Fence.wide]),?_⟩
 ·simp only[resolve,hg];simp[go_sem]
 ·simp[invoke,go_sem,eg]
 have hmonoI:xcN T (L+1) I:=hI.mono (by omega)
 refine(hseq (n - 1) L
  (fun k S W=>∃ S1,(∀ b,S b↔(S1 b∨b=L))∧I k S1 W∧(¬ S1 L∧¬ S1 w.heap.size)∧W.heap[L]?=some (.loop (rec .ready none))∧W.heap[w.heap.size]?=some (.deferred (some [])))
  (fun k W=>∃ c,Ix c k W∧W.heap[L]?=some (.loop (rec .done (some c)))∧W.heap[w.heap.size]?=some (.deferred (some [])))
  (fun b=>S0 b∨b=L) W1 (hb0.trans (hnew.mono hb0.size)) ?_ ?_ ?_ ?_ ?_ ?_).mono ?_
 ·rintro⟨k,S⟩ X Y row ⟨S1,hS,hi,hl,h1,h2⟩ hgr hr
  refine⟨S1,hS,hmonoI (k,S1) X Y row hi hgr (by rw[e3] at hr;exact hr),hl,?_,?_⟩
  ·refine(hgr.block L (xaD h1) (fun e=>?_)).trans h1
   rcases hr L e.symm with h|h
   ·have:=hT L h;omega
   ·omega
  ·refine(hgr.block _ (xaD h2) (fun e=>?_)).trans h2
   rcases hr _ e.symm with h|h
   ·have:=hT _ h;omega
   ·omega
 ·rintro k X Y row ⟨c,hi,h1,h2⟩ hgr hr
  refine⟨c,(hIx c).mono (B':=L+1) (by omega) k X Y row hi hgr (by rw[e3] at hr;exact hr),?_,?_⟩
  ·refine(hgr.block L (xaD h1) (fun e=>?_)).trans h1
   rcases hr L e.symm with h|h
   ·have:=hT L h;omega
   ·omega
  ·refine(hgr.block _ (xaD h2) (fun e=>?_)).trans h2
   rcases hr _ e.symm with h|h
   ·have:=hT _ h;omega
   ·omega
 ·rintro k S W ⟨S1,hS,hi,_,hl,_⟩
  refine⟨(hG _ _ _ hi).1,fun b hb=>?_⟩
  rcases(hS b).1 hb with h|rfl
  ·exact(hG _ _ _ hi).2 b h
  ·exact xaD hl
 ·rintro b (hb|rfl)
  ·have:=hS0 b hb;exact⟨by omega,this.2⟩
  ·exact⟨by omega,fun hv=>by have:=hV _ hv;omega⟩
 ·-- a round
  rintro k S W ⟨S1,hS,hi,⟨hs1,hs2⟩,hl,hk⟩ hyk hlt
  have hy:=run_yield (P:=P) (args:=encs k) hl (by rw[hrec];exact hps k)
  rw[hrec] at hy
  refine⟨fn,_,assign,body,hy,roundIn_of_wpIn hfn (hassign L k S1 W _ hi hyk hlt ?_)⟩
  clear hy
  intro a' Wa Sa hia hya hka hax
  have hla:=hka.same _ _ hs1 hl
  have hda:=hka.same _ _ hs2 hk
  have hLW:=xaD hl
  have hsa1:¬ Sa L:=fun h=>by rcases hka.own _ h with h|h <;> first|exact hs1 h|omega
  have hsa2:¬ Sa w.heap.size:=fun h=>by rcases hka.own _ h with h|h <;> first|exact hs2 h|omega
  refine⟨_,run_beginRound hla (by rw[hrec]),?_⟩
  have hlb:(Wa.putObj L (.loop { rec .ready none with state:=.busy })).heap[L]?=some (.loop { rec .ready none with state:=.busy }):=World.putObj_heap_same (xaD hla)
  have hdb:(Wa.putObj L (.loop { rec .ready none with state:=.busy })).heap[w.heap.size]?=some (.deferred (some [])):=(World.putObj_heap_other (by omega)).trans hda
  have hpb:∀ b,b≠L→(Wa.putObj L (.loop { rec .ready none with state:=.busy })).heap[b]?=Wa.heap[b]?:=fun b hb=>World.putObj_heap_other hb
  have hszb:(Wa.putObj L (.loop { rec .ready none with state:=.busy })).heap.size=Wa.heap.size:=by simp
  refine wpIn_mono (hbody L k Sa a' _ (by omega) (hI.put (s:=(k,Sa)) hia _ (by omega) hla rfl) (hYp k _ _ _ _ hya (by omega) hla rfl) ((hAx k a').put (s:=()) hax _ (by omega) hla rfl) hlt) ?_
  generalize Wa.putObj L (.loop { rec .ready none with state:=.busy })=Wb at hlb hdb hpb hszb
  -- what any way out leaves
  have fin:∀ (jump:Option Code) (W3:World) (S3:Nat→Prop),KeepsS Sa S3 Wb W3 →
    (Instr.endRound L jump).run P W3=.ok (.bool jump.isNone) (W3.putObj L (.loop (rec (if jump.isNone then .ready else .done) jump))) ∧
    W3.heap[L]?=some (.loop { rec .ready none with state:=.busy }) ∧
    (W3.putObj L (.loop (rec (if jump.isNone then .ready else .done) jump))).heap[L]?=some (.loop (rec (if jump.isNone then .ready else .done) jump)) ∧
    (W3.putObj L (.loop (rec (if jump.isNone then .ready else .done) jump))).heap[w.heap.size]?=some (.deferred (some []))∧(¬ S3 L∧¬ S3 w.heap.size)∧KeepsS S (fun b=>S3 b∨b=L) W (W3.putObj L (.loop (rec (if jump.isNone then .ready else .done) jump))):=by
   intro jump W3 S3 hk3
   have hl3:=hk3.same _ _ hsa1 hlb
   have hd3:=hk3.same _ _ hsa2 hdb
   have hLb:=xaD hlb
   have hr3:=run_endRound (P:=P) jump hl3
   refine⟨by rw[hrec] at hr3 ⊢;exact hr3,hl3,World.putObj_heap_same (xaD hl3),(World.putObj_heap_other (by omega)).trans hd3,⟨fun h=>?_,fun h=>?_⟩,?_⟩
   ·rcases hk3.own _ h with h|h <;> first|exact hsa1 h|omega
   ·rcases hk3.own _ h with h|h <;> first|exact hsa2 h|omega
   ·refine⟨?_,fun b o hb ho=>?_,fun b hb=>?_⟩
    ·have:=hka.size;have:=hk3.size;simp;omega
    ·have hb1:¬ S1 b:=fun h=>hb ((hS b).2 (.inl h))
     have hb2:b≠L:=fun h=>hb ((hS b).2 (.inr h))
     have hb3:¬ Sa b:=fun h=>by have:=xaD ho;rcases hka.own _ h with h|h <;> first|exact hb1 h|omega
     refine(World.putObj_heap_other hb2).trans (hk3.same _ _ hb3 ((hpb b hb2).trans (hka.same _ _ hb1 ho)))
    ·rcases hb with hb|hb
     ·rcases hk3.own _ hb with h|h
      ·exact(hka.own _ h).imp (fun h=>(hS b).2 (.inl h)) id
      ·have:=hka.size;exact .inr (by omega)
     ·exact .inl ((hS b).2 (.inr hb))
  rintro e a3 W3 hp
  cases e with
  | normal =>
   obtain⟨S3,hi3,hk3⟩:=hp
   obtain⟨hr3,hl3,hl4,hd4,hn1,hn2⟩:=fin none W3 S3 hk3
   refine⟨_,_,hr3,.inl ⟨rfl,fun b=>S3 b∨b=L,⟨S3,fun b=>Iff.rfl,hI.put (s:=(k+1,S3)) hi3 _ (by omega) hl3 rfl,hn1,hl4,hd4⟩,hn2⟩⟩
  | ret =>
   obtain⟨hi3,S3,hk3⟩:=hp
   obtain⟨hr3,hl3,hl4,hd4,hn1,hn2⟩:=fin (some .ret) W3 S3 hk3
   exact⟨_,_,hr3,.inr ⟨rfl,⟨.ret,(hIx _).put hi3 _ (by omega) hl3 rfl,hl4,hd4⟩,_,hn2⟩⟩
  | exit id =>
   obtain⟨hi3,S3,hk3⟩:=hp
   obtain⟨hr3,hl3,hl4,hd4,hn1,hn2⟩:=fin (some (.exit id)) W3 S3 hk3
   exact⟨_,_,hr3,.inr ⟨rfl,⟨.exit id,(hIx _).put hi3 _ (by omega) hl3 rfl,hl4,hd4⟩,_,hn2⟩⟩
  | goto t =>
   obtain⟨hi3,S3,hk3⟩:=hp
   obtain⟨hr3,hl3,hl4,hd4,hn1,hn2⟩:=fin (some (.goto t)) W3 S3 hk3
   exact⟨_,_,hr3,.inr ⟨rfl,⟨.goto t,(hIx _).put hi3 _ (by omega) hl3 rfl,hl4,hd4⟩,_,hn2⟩⟩
  | panic ch=>exact hp.elim
  | outgrown=>exact hp.elim
 ·have hs0L:¬ S0 L:=fun h=>by have:=(hS0 _ h).1;omega
  have hs0D:¬ S0 w.heap.size:=fun h=>by have:=(hS0 _ h).1;omega
  exact⟨S0,fun b=>Iff.rfl,hI.grow (s:=(0,S0)) h0 hnew,⟨hs0L,hs0D⟩,e1,e2⟩
 ·-- behind the iterator
  rintro e W2 ⟨⟨v,rfl⟩,(⟨S',⟨S1,hS,hi,hnD,hl,hk⟩,hz⟩|⟨k,hk1,c,hi,hl,hk⟩)⟩
  ·refine⟨none,_,by have:=run_endLoop (P:=P) hl (by rw[hrec];simp);rw[hrec] at this;exact this,?_⟩
   exact hdone _ S1 _ (Nat.le_refl _) hnD.2 (hI.put (s:=(N,S1)) hi _ (by omega) hl rfl) (hZ _ _ _ _ hz (by omega) hl rfl) ((World.putObj_heap_other (by omega)).trans hk)
  ·refine⟨some c,_,by have:=run_endLoop (P:=P) hl (by rw[hrec];simp);rw[hrec] at this;exact this,?_⟩
   exact hstop _ c k _ (Nat.le_refl _) hk1 ((hIx c).put hi _ (by omega) hl rfl) ((World.putObj_heap_other (by omega)).trans hk)
theorem xeW {n:Nat} {P:Program} {w:World} {a:Act} {Q:Exit→Act→World→Prop} {g:Operand} {assign body:Code}
  {gf:Nat} {lb:Array Value} (hg:a.eval g=.func (.func gf) #[] lb) (eg:∀ args w,(callFunc gf args).run P w=.ok (.enter gf args) w)
  {val:Nat→Value} {p:Nat} {r:Nat} {N:Nat} {T V:Nat→Prop} {G:Nat→World→Prop} {Z:World→Prop} {w0:World} (hseq:xrx P gf lb (fun k=>#[val k]) N T V G Z w0) (hb0:Below w0.heap.size w0 w)
  (hT:∀ r,T r→r<w.heap.size) (hV:∀ r,V r→r<w.heap.size)
  (I:Nat→(Nat→Prop)→World→Prop) (Ix:Code→Nat→World→Prop) (hI:xcN T w.heap.size I) (hIx:∀ c,xbz T w.heap.size (Ix c)) (hG:∀ k S W,I k S W→G k W∧∀ b,S b→b<W.heap.size)
  (S0:Nat→Prop) (hS0:∀ b,S0 b→b<w.heap.size∧¬ V b) (h0:I 0 S0 w) (hZ:∀ (W:World) (l:Nat) (o o':Obj),Z W→w.heap.size≤l→W.heap[l]?=some o→xd3 o=true→Z (W.putObj l o'))
  (hassign:∀ (l k:Nat) (W:World) (K:Act→World→Prop),K { tmps:=(a.tmps.setIfInBounds p (val k)).setIfInBounds r (val k),defers:=[] } W→assign.wpIn (Fence.wide.inRound l) (n - 1 - 1) P (Exit.then K (fun _ _ _=>False)) { tmps:=a.tmps.setIfInBounds p (val k),defers:=[] } W)
  (hbody:∀ (l k:Nat) (S:Nat→Prop) (W:World),w.heap.size≤l→I k S W→k<N→body.wpIn (Fence.wide.inRound l) (n - 1 - 1) P (xtp I Ix (k+1) S W) { tmps:=(a.tmps.setIfInBounds p (val k)).setIfInBounds r (val k),defers:=[] } W)
  (hdone:∀ (D:Nat) (S:Nat→Prop) (W:World),w.heap.size≤D→¬ S D→I N S W→Z W→W.heap[D]?=some (.deferred (some []))→Q .normal (xjE D a) W)
  (hstop:∀ (D:Nat) (c:Code) (k:Nat) (W:World),w.heap.size≤D→k≤N→Ix c k W→W.heap[D]?=some (.deferred (some []))→c.wpIn Fence.wide n P Q (xjE D a) W) :
  (Code.rangeFunc g #[p] assign body).wpIn Fence.wide n P Q a w :=
 xnb hg eg hseq.toY hb0 hT hV (fun _=>rfl) I Ix hI hIx hG S0 hS0 h0 hZ (fun _ _ _ _ _ _ _ _ _=>trivial) (fun k a' _=>a'={ tmps:=(a.tmps.setIfInBounds p (val k)).setIfInBounds r (val k),defers:=[] }) (fun k a' _ X Y row hs _ _=>hs)
  (fun l k S W K hi _ hk hK=>by
   have h:=hassign l k W K (hK _ W S hi trivial ⟨Nat.le_refl _,fun _ _ _ h=>h,fun _ h=>.inl h⟩ rfl)
   have e:Array.foldl (fun t (y:Nat × Value)=>t.setIfInBounds y.1 y.2) a.tmps (#[p].zip #[val k])=a.tmps.setIfInBounds p (val k):=by simp
   rw[← e] at h
   exact h)
  (fun l k S a' W hl hi _ hax hk=>by subst hax;exact hbody l k S W hl hi hk)
  hdone hstop
theorem xkh {n:Nat} {P:Program} {w:World} {a:Act} {Q:Exit→Act→World→Prop} {g:Operand} {assign body:Code}
  {gf:Nat} {lb:Array Value} (hg:a.eval g=.func (.func gf) #[] lb) (eg:∀ args w,(callFunc gf args).run P w=.ok (.enter gf args) w)
  {val va2:Nat→Value} {p q:Nat} {r s:Nat} {N:Nat} {T V:Nat→Prop} {G:Nat→World→Prop} {Y:Nat→World→Prop} {Z:World→Prop} {w0:World} (hseq:xwb P gf lb (fun k=>#[val k,va2 k]) N T V G Y Z w0) (hb0:Below w0.heap.size w0 w)
  (hT:∀ r,T r→r<w.heap.size) (hV:∀ r,V r→r<w.heap.size)
  (I:Nat→(Nat→Prop)→World→Prop) (Ix:Code→Nat→World→Prop) (hI:xcN T w.heap.size I) (hIx:∀ c,xbz T w.heap.size (Ix c)) (hG:∀ k S W,I k S W→G k W∧∀ b,S b→b<W.heap.size)
  (S0:Nat→Prop) (hS0:∀ b,S0 b→b<w.heap.size∧¬ V b) (h0:I 0 S0 w) (hZ:∀ (W:World) (l:Nat) (o o':Obj),Z W→w.heap.size≤l→W.heap[l]?=some o→xd3 o=true→Z (W.putObj l o'))
  (hYp:∀ (k:Nat) (W:World) (l:Nat) (o o':Obj),Y k W→w.heap.size≤l→W.heap[l]?=some o→xd3 o=true→Y k (W.putObj l o'))
  (hassign:∀ (l k:Nat) (W:World) (K:Act→World→Prop),K { tmps:=(((a.tmps.setIfInBounds p (val k)).setIfInBounds q (va2 k)).setIfInBounds r (val k)).setIfInBounds s (va2 k),defers:=[] } W→assign.wpIn (Fence.wide.inRound l) (n - 1 - 1) P (Exit.then K (fun _ _ _=>False)) { tmps:=(a.tmps.setIfInBounds p (val k)).setIfInBounds q (va2 k),defers:=[] } W)
  (hbody:∀ (l k:Nat) (S:Nat→Prop) (W:World),w.heap.size≤l→I k S W→Y k W→k<N→body.wpIn (Fence.wide.inRound l) (n - 1 - 1) P (xtp I Ix (k+1) S W) { tmps:=(((a.tmps.setIfInBounds p (val k)).setIfInBounds q (va2 k)).setIfInBounds r (val k)).setIfInBounds s (va2 k),defers:=[] } W)
  (hdone:∀ (D:Nat) (S:Nat→Prop) (W:World),w.heap.size≤D→¬ S D→I N S W→Z W→W.heap[D]?=some (.deferred (some []))→Q .normal (xjE D a) W)
  (hstop:∀ (D:Nat) (c:Code) (k:Nat) (W:World),w.heap.size≤D→k≤N→Ix c k W→W.heap[D]?=some (.deferred (some []))→c.wpIn Fence.wide n P Q (xjE D a) W) :
  (Code.rangeFunc g #[p,q] assign body).wpIn Fence.wide n P Q a w :=
 xnb hg eg hseq hb0 hT hV (fun _=>rfl) I Ix hI hIx hG S0 hS0 h0 hZ hYp (fun k a' _=>a'={ tmps:=(((a.tmps.setIfInBounds p (val k)).setIfInBounds q (va2 k)).setIfInBounds r (val k)).setIfInBounds s (va2 k),defers:=[] }) (fun k a' _ X Y row hs _ _=>hs)
  (fun l k S W K hi hy hk hK=>by
   have h:=hassign l k W K (hK _ W S hi hy ⟨Nat.le_refl _,fun _ _ _ h=>h,fun _ h=>.inl h⟩ rfl)
   have e:Array.foldl (fun t (y:Nat × Value)=>t.setIfInBounds y.1 y.2) a.tmps (#[p,q].zip #[val k,va2 k])=(a.tmps.setIfInBounds p (val k)).setIfInBounds q (va2 k):=by simp
   rw[← e] at h
   exact h)
  (fun l k S a' W hl hi hy hax hk=>by subst hax;exact hbody l k S W hl hi hy hk)
  hdone hstop
end Go.Proofs.YtjinnigjfopbcaaGreatDoor
namespace Go.Proofs.YtjinnigjfopbcaaGreatDoor
set_option linter.unusedVariables false
set_option linter.unusedSimpArgs false
open Go.RowKit
set_option maxRecDepth 20000
theorem xgV (e:En) (w:World):Calls Tryz.prog 76 #[.agg (eC e)] w fun x w'=>x=.returned (.bool (decide (e.rn=0)))∧Below w.heap.size w w':=by
 obtain⟨i,o,l,r⟩:=e
 unfold eC
 dsimp only
 have hd:(r == 0)=decide (r=0):=by rw[Bool.eq_iff_iff];simp
 go_enter Tryz.func76,Tryz.ntmps76
 go_wp2_with fail
 go_ret
 exact⟨xin (by first|exact hd|rfl|simp),by go_grown⟩
theorem xhr (e:En) (w:World) (hm:xaO e):Calls Tryz.prog 154 #[.agg (eC e)] w fun x w'=>x=.returned (.int .u64 (wdN e))∧Below w.heap.size w w':=by
 have HP:=lH (fun W=>xgV e W)
 have H0:=EAt.made w e 74
 have HB:Below w.heap.size w (w.alloc (.cells (eC e) 74)):=(Below.refl _ _).alloc (Nat.le_refl _) _
 obtain⟨m0,m1,m2,m3⟩:=hm
 unfold eC at HB HP ⊢
 obtain⟨c0,c1,c2,c3⟩:=H0
 unfold eC at c0 c1 c2 c3
 by_cases h:e.rn=0
 ·have hw:Hid (wdN e=1):=lH (by unfold wdN;rw[if_pos h])
  have hd:decide (e.rn=0)=true:=by simpa using h
  rw[hd] at HP
  clear h hd
  go_enter Tryz.func154,Tryz.ntmps154
  go_wp2_with fail
  refine(HP.out _).mono ?_
  rintro x w1 ⟨rfl,hb⟩
  obtain⟨⟨k0,k1,k2,k3⟩,hU⟩:=xbF hb ⟨⟨c0,c1,c2,c3⟩,HB⟩
  have HU:=lH hU
  clear hb c0 c1 c2 c3 HB hU
  go_wp2_with fail
  go_ret
  exact⟨xfx hw.out.symm,HU.out⟩
 ·have hw:Hid (wdN e=e.rn):=lH (by unfold wdN;rw[if_neg h])
  have hd:decide (e.rn=0)=false:=by simpa using h
  have hwr:IntKind.u64.wrap e.rn=e.rn:=by rw[IntKind.wrap_u64] <;> omega
  rw[hd] at HP
  clear h hd
  go_enter Tryz.func154,Tryz.ntmps154
  go_wp2_with fail
  refine(HP.out _).mono ?_
  rintro x w1 ⟨rfl,hb⟩
  obtain⟨⟨k0,k1,k2,k3⟩,hU⟩:=xbF hb ⟨⟨c0,c1,c2,c3⟩,HB⟩
  have HU:=lH hU
  clear hb c0 c1 c2 c3 HB hU
  go_wp2_with fail
  go_ret
  exact⟨xfx hw.out.symm,HU.out⟩
set_option maxRecDepth 20000 in
theorem xc8 (e:En) (w:World) (hm:xaO e):Calls Tryz.prog 75 #[.agg (eC e)] w fun x w'=>x=.returned (.int .i64 (ckN e))∧Below w.heap.size w w':=by
 have HW:=lH (fun W=>xhr e W hm)
 obtain⟨m0,m1,m2,m3⟩:=hm
 have H0:=EAt.made w e 74
 have HB:Below w.heap.size w (w.alloc (.cells (eC e) 74)):=(Below.refl _ _).alloc (Nat.le_refl _) _
 have HS0:=xbF (Below.drew (Below.refl _ _)) ⟨H0,HB⟩
 have hck:Hid (ckN e=if e.ln=0 then 2 else if cnN≤e.id∨cnN<e.id+wdN e then 8 else if 1099511627776<e.off∨1099511627776<e.off+e.ln then 8 else 0):=lH rfl
 have hwd:=xky e m3.1
 have hwu:wdN e≤4294967295:=by unfold wdN;split <;> omega
 obtain⟨R,hR⟩:∃ R,ckN e=R:=⟨_,rfl⟩
 rw[hR] at hck ⊢
 clear hR
 obtain⟨d,hd⟩:∃ d,wdN e=d:=⟨_,rfl⟩
 rw[hd] at HW hck hwd hwu
 clear hd
 unfold cnN at hck
 by_cases h1:e.ln=0
 ·have hR:R=2:=by rw[hck.out,if_pos h1]
  subst hR
  have hl:(e.ln == 0)=true:=by simpa using h1
  clear HW HS0 hck
  unfold eC at HB ⊢
  go_enter Tryz.func75,Tryz.ntmps75
  go_wp2_with fail
  go_ret
  exact⟨rfl,by go_grown⟩
 have hl:(e.ln == 0)=false:=by simpa using h1
 rw[if_neg h1] at hck
 have hw:IntKind.u64.wrap (6004799503160661 - d)=6004799503160661 - d:=by rw[IntKind.wrap_u64] <;> omega
 have hwl:IntKind.u64.wrap e.ln=e.ln:=by rw[IntKind.wrap_u64] <;> omega
 have hwo:IntKind.u64.wrap (1099511627776 - e.ln)=1099511627776 - e.ln:=by rw[IntKind.wrap_u64] <;> omega
 by_cases h2:6004799503160661 - d<e.id
 ·have hR:R=8:=by rw[hck.out,if_pos (.inr (by omega))]
  subst hR
  have hi:decide (6004799503160661 - d<e.id)=true:=by simpa using h2
  clear hck
  unfold eC at HB HS0 HW ⊢
  go_enter Tryz.func75,Tryz.ntmps75
  go_upto_region 3 with fail
  refine wp_region_held_drew (S:=fun w'=>(w'.cell? ⟨w.heap.size,0,none⟩=some (.int .u64 e.id)∧w'.cell? ⟨w.heap.size,1,none⟩=some (.int .u64 e.off)∧w'.cell? ⟨w.heap.size,2,none⟩=some (.int .u32 e.ln)∧w'.cell? ⟨w.heap.size,3,none⟩=some (.int .u32 e.rn))∧Below w.heap.size w w') (by kernel_rfl) HS0 (fun hH0=>?_)
  refine tK 0 6 hH0 ?_
  refine tK 1 7 hH0 ?_
  refine tK 2 8 hH0 ?_
  refine wpAnyH_ready (rs:=[3]) (by kernel_rfl) (by simp) ?_
  refine AllReadyH.cons rfl (fun K hK=>?_) AllReadyH.nil
  go_simp
  refine(HW.out _).mono ?_
  rintro e w' ⟨rfl,hb⟩
  go_wp2_with fail
  refine hK.out _ _ (xbF hb hH0) (fun hH1=>?_)
  clear hK K hb hH0
  try simp only[Act.put,zsA,zsB,zsC]
  refine tK 4 10 hH1 ?_
  refine tK 5 11 hH1 ?_
  refine tK 6 12 hH1 ?_
  refine tU 7 13 hH1 ?_
  refine tU 8 14 hH1 ?_
  refine tU 9 15 hH1 ?_
  refine tU 10 16 hH1 ?_
  refine tU 11 17 hH1 ?_
  refine tU 12 18 hH1 ?_
  refine tU 13 19 hH1 ?_
  refine tK 14 20 hH1 ?_
  refine wpAnyH_done (by kernel_rfl) ?_ _
  go_wp2_with fail
  go_ret
  exact⟨rfl,hH1.2⟩
 have hi:decide (6004799503160661 - d<e.id)=false:=by simpa using h2
 rw[if_neg (by omega)] at hck
 by_cases h4:1099511627776 - e.ln<e.off
 ·have hR:R=8:=by rw[hck.out,if_pos (.inr (by omega))]
  subst hR
  have hk:decide (1099511627776 - e.ln<e.off)=true:=by simpa using h4
  clear hck
  unfold eC at HB HS0 HW ⊢
  go_enter Tryz.func75,Tryz.ntmps75
  go_upto_region 3 with fail
  refine wp_region_held_drew (S:=fun w'=>(w'.cell? ⟨w.heap.size,0,none⟩=some (.int .u64 e.id)∧w'.cell? ⟨w.heap.size,1,none⟩=some (.int .u64 e.off)∧w'.cell? ⟨w.heap.size,2,none⟩=some (.int .u32 e.ln)∧w'.cell? ⟨w.heap.size,3,none⟩=some (.int .u32 e.rn))∧Below w.heap.size w w') (by kernel_rfl) HS0 (fun hH0=>?_)
  refine tK 0 6 hH0 ?_
  refine tK 1 7 hH0 ?_
  refine tK 2 8 hH0 ?_
  refine wpAnyH_ready (rs:=[3]) (by kernel_rfl) (by simp) ?_
  refine AllReadyH.cons rfl (fun K hK=>?_) AllReadyH.nil
  go_simp
  refine(HW.out _).mono ?_
  rintro e w' ⟨rfl,hb⟩
  go_wp2_with fail
  refine hK.out _ _ (xbF hb hH0) (fun hH1=>?_)
  clear hK K hb hH0
  try simp only[Act.put,zsA,zsB,zsC]
  refine tK 4 10 hH1 ?_
  refine tK 5 11 hH1 ?_
  refine tK 6 12 hH1 ?_
  refine tK 7 13 hH1 ?_
  refine tK 8 14 hH1 ?_
  refine tK 9 15 hH1 ?_
  refine tK 10 16 hH1 ?_
  refine tK 11 17 hH1 ?_
  refine tK 12 18 hH1 ?_
  refine tK 13 19 hH1 ?_
  refine tK 14 20 hH1 ?_
  refine wpAnyH_done (by kernel_rfl) ?_ _
  obtain⟨⟨c0,c1,c2,c3⟩,hU⟩:=hH1
  have HU:=lH hU
  clear hU
  go_wp2_with fail
  go_ret
  exact⟨rfl,HU.out⟩
 ·have hR:R=0:=by rw[hck.out,if_neg (by omega)]
  subst hR
  have hk:decide (1099511627776 - e.ln<e.off)=false:=by simpa using h4
  clear hck
  unfold eC at HB HS0 HW ⊢
  go_enter Tryz.func75,Tryz.ntmps75
  go_upto_region 3 with fail
  refine wp_region_held_drew (S:=fun w'=>(w'.cell? ⟨w.heap.size,0,none⟩=some (.int .u64 e.id)∧w'.cell? ⟨w.heap.size,1,none⟩=some (.int .u64 e.off)∧w'.cell? ⟨w.heap.size,2,none⟩=some (.int .u32 e.ln)∧w'.cell? ⟨w.heap.size,3,none⟩=some (.int .u32 e.rn))∧Below w.heap.size w w') (by kernel_rfl) HS0 (fun hH0=>?_)
  refine tK 0 6 hH0 ?_
  refine tK 1 7 hH0 ?_
  refine tK 2 8 hH0 ?_
  refine wpAnyH_ready (rs:=[3]) (by kernel_rfl) (by simp) ?_
  refine AllReadyH.cons rfl (fun K hK=>?_) AllReadyH.nil
  go_simp
  refine(HW.out _).mono ?_
  rintro e w' ⟨rfl,hb⟩
  go_wp2_with fail
  refine hK.out _ _ (xbF hb hH0) (fun hH1=>?_)
  clear hK K hb hH0
  try simp only[Act.put,zsA,zsB,zsC]
  refine tK 4 10 hH1 ?_
  refine tK 5 11 hH1 ?_
  refine tK 6 12 hH1 ?_
  refine tK 7 13 hH1 ?_
  refine tK 8 14 hH1 ?_
  refine tK 9 15 hH1 ?_
  refine tK 10 16 hH1 ?_
  refine tK 11 17 hH1 ?_
  refine tK 12 18 hH1 ?_
  refine tK 13 19 hH1 ?_
  refine tK 14 20 hH1 ?_
  refine wpAnyH_done (by kernel_rfl) ?_ _
  obtain⟨⟨c0,c1,c2,c3⟩,hU⟩:=hH1
  have HU:=lH hU
  clear hU
  go_wp2_with fail
  go_ret
  exact⟨rfl,HU.out⟩
set_option maxRecDepth 20000 in
theorem xfB (e:En) (w:World) (hm:xaO e):Calls Tryz.prog 77 #[.agg (eC e)] w fun x w'=>x=.returned (.int .u64 (laN e))∧Below w.heap.size w w':=by
 have HW:=lH (fun W=>xhr e W hm)
 have HC:=lH (fun W=>xc8 e W hm)
 have H0:=EAt.made w e 74
 have HB:Below w.heap.size w (w.alloc (.cells (eC e) 74)):=(Below.refl _ _).alloc (Nat.le_refl _) _
 have hwd:=xky e hm.2.2.2.1
 by_cases h0:ckN e=0
 ·have hb:=xgr e h0
  have hi:=hm.1
  have hw1:IntKind.u64.wrap (e.id+wdN e)=e.id+wdN e:=by rw[IntKind.wrap_u64] <;> omega
  have hw2:IntKind.u64.wrap (e.id+wdN e - 1)=e.id+wdN e - 1:=by rw[IntKind.wrap_u64] <;> omega
  have hla:Hid (e.id+wdN e - 1=laN e):=lH (by unfold laN;rw[if_pos h0])
  rw[h0] at HC
  obtain⟨d,hd⟩:∃ d,wdN e=d:=⟨_,rfl⟩
  rw[hd] at HW hw1 hw2 hla
  clear hd h0 hb hm hwd
  unfold eC at HB HC HW ⊢
  obtain⟨c0,c1,c2,c3⟩:=H0
  unfold eC at c0 c1 c2 c3
  go_enter Tryz.func77,Tryz.ntmps77
  go_wp2_with fail
  refine(HC.out _).mono ?_
  rintro x w1 ⟨rfl,hb⟩
  have HS1:=xbF hb ⟨⟨c0,c1,c2,c3⟩,HB⟩
  have HS0:=xbF (Below.drew (Below.refl _ _)) HS1
  clear hb c0 c1 c2 c3 HB HS1
  go_upto_region 3 with fail
  refine wp_region_held_drew (S:=fun w'=>(w'.cell? ⟨w.heap.size,0,none⟩=some (.int .u64 e.id)∧w'.cell? ⟨w.heap.size,1,none⟩=some (.int .u64 e.off)∧w'.cell? ⟨w.heap.size,2,none⟩=some (.int .u32 e.ln)∧w'.cell? ⟨w.heap.size,3,none⟩=some (.int .u32 e.rn))∧Below w.heap.size w w') (by kernel_rfl) HS0 (fun hH0=>?_)
  refine tK 0 6 hH0 ?_
  refine tK 1 7 hH0 ?_
  refine tK 2 8 hH0 ?_
  refine wpAnyH_ready (rs:=[3]) (by kernel_rfl) (by simp) ?_
  refine AllReadyH.cons rfl (fun K hK=>?_) AllReadyH.nil
  go_simp
  refine(HW.out _).mono ?_
  rintro e w' ⟨rfl,hb⟩
  go_wp2_with fail
  refine hK.out _ _ (xbF hb hH0) (fun hH1=>?_)
  clear hK K hb hH0
  try simp only[Act.put,zsA,zsB,zsC]
  refine tK 4 10 hH1 ?_
  refine tK 5 11 hH1 ?_
  refine tK 6 2 hH1 ?_
  refine wpAnyH_done (by kernel_rfl) ?_ _
  go_wp2_with fail
  go_ret
  exact⟨xfx hla.out,hH1.2⟩
 ·have hla:laN e=0:=by unfold laN;rw[if_neg h0]
  rw[hla]
  obtain⟨r,hr⟩:∃ r,ckN e=r:=⟨_,rfl⟩
  rw[hr] at HC h0
  have hne:(r != 0)=true:=by simp only[bne_iff_ne,ne_eq];exact h0
  clear hr h0 hm hla hwd HW
  unfold eC at HB HC ⊢
  obtain⟨c0,c1,c2,c3⟩:=H0
  unfold eC at c0 c1 c2 c3
  go_enter Tryz.func77,Tryz.ntmps77
  go_wp2_with fail
  refine(HC.out _).mono ?_
  rintro x w1 ⟨rfl,hb⟩
  have HS1:=xbF hb ⟨⟨c0,c1,c2,c3⟩,HB⟩
  have HU:=lH HS1.2
  clear hb c0 c1 c2 c3 HB HS1
  go_wp2_with fail
  go_ret
  exact⟨rfl,HU.out⟩
end Go.Proofs.YtjinnigjfopbcaaGreatDoor
