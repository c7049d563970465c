/- aHk aRn aGb aGc aMg aEa aGh. -/
import Derived.Test.YtjkgkmmkehnggaaGreatDoorYa3
import Derived.RangeFuncNested
import Derived.RangeFuncBound
import Derived.Shelf.RegionOpen
import Derived.OwnWalkIn
import Derived.LoopNIn
import Derived.LoopIn
import Derived.Test.YtjkgkmmkehnggaaGreatDoorYs
set_option maxHeartbeats 16000000
namespace Go.Proofs.YtjkgkmmkehnggaaGreatDoor
set_option linter.unusedVariables false
set_option linter.unusedSimpArgs false
open Go.RowKit
set_option maxRecDepth 20000
theorem xqs {w:World} {B g:Nat} {E:TypeId} {v x:Value} {l:List It} (h:xa3 w B E v l) (ho:One w g x):v.ownBlock≠some g:=by
 intro e
 obtain⟨T,hh⟩:=ho
 rcases h.2 with ⟨rfl,_⟩|⟨g',cap,cur,rfl,_,h2,_,_,hcs,_⟩
 ·cases e
 ·cases e
  rw[hh] at h2
  cases h2
  simp at hcs
  omega
theorem One.grown {w w':World} {B g:Nat} {E:TypeId} {v x:Value} {l:List It} (ho:One w g x) (h:xa3 w B E v l) (hg:w.grownBy w' v.ownBlock):One w' g x:=by
 have hl:=ho.lt
 have hn:=xqs h ho
 obtain⟨T,hh⟩:=ho
 exact⟨T,(hg.block g hl (fun e=>hn e.symm)).trans hh⟩
theorem xa3.set {w:World} {B g:Nat} {E:TypeId} {v x:Value} {l:List It} (h:xa3 w B E v l) (ho:One w g x) (x':Value):xa3 (w.setCell ⟨g,0,none⟩ x') B E v l:=by
 have hn:=xqs h ho
 obtain⟨h1,h2⟩:=h
 refine⟨h1,?_⟩
 rcases h2 with h2|⟨g',cap,cur,rfl,hg,hh,r⟩
 ·exact .inl h2
 ·refine .inr ⟨g',cap,cur,rfl,hg,?_,r⟩
  exact(Below.heap_setCell _ _ _ _ (fun e=>hn (by show some g'=some g;rw[e]))).trans hh
structure OfS (w W:World) (s:Value) (acc:List It):Prop where
 res:One W w.heap.size (.slice none 0 0)
 cb:One W (w.heap.size+1) s
 own:xa3 W w.heap.size 46 s acc
 bel:Below w.heap.size w W
theorem OfS.below {w W W':World} {s:Value} {acc:List It} (h:OfS w W s acc) (hb:Below W.heap.size W W'):OfS w W' s acc :=
 ⟨h.res.below hb,h.cb.below hb,h.own.below hb,h.bel.trans (hb.mono h.bel.size)⟩
theorem xwM (w:World):OfS w ((w.alloc (.cells #[.slice none 0 0] 32)).alloc (.cells #[.slice none 0 0] 32)) (.slice none 0 0) []:=by
 have h1:=xbb w (.slice none 0 0) 32
 have h2:=xbb (w.alloc (.cells #[.slice none 0 0] 32)) (.slice none 0 0) 32
 simp only[World.size_alloc] at h2
 exact⟨h1.alloc _,h2,xfc _ _ _,by go_grown⟩
theorem xr6 (id x:Nat) (t:ByteArray) (acc sn:List It) (h:∀ id,(xb9 id acc).isSome=(xb9 id sn).isSome):(xb9 id (xhg x t acc)).isSome=(xb9 id (sn++[(x,t)])).isSome:=by
 rw[Bool.eq_iff_iff,xcK,xcK]
 have h1:=h id
 rw[Bool.eq_iff_iff,xcK,xcK] at h1
 constructor
 ·rintro⟨u,hu,he⟩
  rcases(xeg x t acc u).1 hu with rfl|⟨hu,hn⟩
  ·exact⟨_,by simp,he⟩
  ·obtain⟨u2,hu2,he2⟩:=h1.1 ⟨u,hu,he⟩
   exact⟨u2,by simp[hu2],he2⟩
 ·rintro⟨u,hu,he⟩
  by_cases hx:x=id
  ·exact⟨(x,t),(xeg x t acc _).2 (.inl rfl),hx⟩
  ·rcases List.mem_append.1 hu with hu|hu
   ·obtain⟨u2,hu2,he2⟩:=h1.2 ⟨u,hu,he⟩
    exact⟨u2,(xeg x t acc u2).2 (.inr ⟨hu2,by omega⟩),he2⟩
   ·simp at hu
    subst hu
    exact absurd he hx
theorem xtz {l:List It} {id:Nat} {t:ByteArray} (h0:putE l id t=0):t.size≤65536:=by
 unfold putE at h0
 by_cases h1:6004799503160661≤id
 ·rw[if_pos h1] at h0;cases h0
 rw[if_neg h1] at h0
 by_cases h2:t.size=0
 ·omega
 rw[if_neg h2] at h0
 by_cases h3:65536<t.size
 ·rw[if_pos h3] at h0;cases h0
 omega
theorem xwG {l:List It} {i:Nat} {t:It} {B:Nat} {s:Value} {w w':World} {e:Ending} (h:xfK l i t B s w e w'):∃ a n c,e=.returned (.slice a n c)∧xa3 w' B 46 (.slice a n c) (xo9 l i t)∧w.grownBy w' s.ownBlock:=by
 obtain⟨v,rfl,ho,hb⟩:=h
 obtain⟨a,c,rfl⟩:=ho.slice
 exact⟨_,_,_,rfl,ho,hb⟩
theorem xBe (w W:World) (s:Value) (acc:List It) (i id:Nat) (t:ByteArray) (h:OfS w W s acc) (hi:i≤acc.length) (hl:acc.length≤5000) :
  Calls Tryz.prog 36 #[s,.int .i64 i,.slice (some ⟨W.heap.size,0,none⟩) 1 1] (W.alloc (.cells #[.int .u64 id,.string t] 46))
   fun e w'=>∃ a n c,e=.returned (.slice a n c)∧xa3 w' w.heap.size 46 (.slice a n c) (xo9 acc i (id,t))∧One w' w.heap.size (.slice none 0 0)∧One w' (w.heap.size+1) s∧Below w.heap.size w w':=by
 have h1:=h.below (xah W (.cells #[.int .u64 id,.string t] 46))
 refine(xpq s acc (id,t) w.heap.size W.heap.size i _ 46 h1.own (xeD _ _) (fun e=>?_) hi hl h1.bel.size).mono (fun e w' h2=>?_)
 ·have:=(h.own.lt _ e).2
  omega
 ·obtain⟨a,n,c,rfl,ho,hg⟩:=xwG h2
  exact⟨a,n,c,rfl,ho,h1.res.grown h1.own hg,h1.cb.grown h1.own hg,h1.bel.grown hg h1.bel.size (fun k hk=>(h1.own.lt k hk).1)⟩
theorem xzt (v:Value) (l:List It) (w:World) (hv:ItsAt w v l) (hl:l.length≤10000) (hid:∀ t ∈ l,t.1<18446744073709551616) (hs:∀ t ∈ l,t.2.size≤maxLen) :
  Calls Tryz.prog 13 #[v] w fun e w'=>∃ s,e=.returned (.tuple #[.agg #[s],.int .i64 ((ofI l).2:Nat)])∧ChS w' s (ofI l).1∧Below w.heap.size w w':=by
 obtain⟨al,cap,rfl,hcap,hmx,hc⟩:=hv
 have HC:=lH hc
 have HST:=lH (xwM w)
 obtain⟨R,hR⟩:∃ R,ofI l=R:=⟨_,rfl⟩
 rw[hR]
 have HRR:=lH hR
 clear hc hR
 go_enter Tryz.func13,Tryz.ntmps13
 go_wp2_with fail
 go_loopw [12] (fun x wr=>∃ (k:Nat) (acc:List It) (s:Value),k≤l.length∧x=.int .i64 k∧OfS w wr s acc∧GoodC acc∧R=ofR (l.take k) acc (l.drop k)∧∀ id,(xb9 id acc).isSome=(xb9 id (l.take k)).isSome) (fun x _=>l.length - (intOf x).toNat)
 case atStart=>exact⟨0,[],_,Nat.zero_le _,rfl,HST.out,xjy,HRR.out.symm,fun id=>rfl⟩
 case round =>
  obtain⟨k,acc,s,hk,rfl,hO,hgood,hR,hseen⟩:=hrel
  have HO:=lH hO
  have HGD:=lH hgood
  have HSE:=lH hseen
  have hfew:=hgood.few
  have hle:=xnJ
  have cc:=hO.cb.cell
  have rr:=hO.res.cell
  have rf:=hO.res.frz
  have cA:∀ O,(wr.alloc O).cell? ⟨w.heap.size+1,0,none⟩=some s:=fun O=>(hO.cb.alloc O).cell
  clear HST HRR
  by_cases hlt:k<l.length
  ·obtain⟨⟨x,t⟩,htk⟩:∃ t,l[k]?=some t:=⟨_,List.getElem?_eq_getElem hlt⟩
   have hx:=hid _ (List.mem_of_getElem? htk)
   have ht:=hs _ (List.mem_of_getElem? htk)
   simp only at hx ht
   obtain⟨g,off,rfl,hg,c0,c1⟩:=HC.out k _ htk
   have d0:=(hO.bel.cell (p:=⟨g,off+k*2,none⟩) hg).trans c0
   have d1:=(hO.bel.cell (p:=⟨g,off+k*2+1,none⟩) hg).trans c1
   rw[xui l acc k _ htk,← hseen x] at hR
   have hki:(k:Int)<(l.length:Int):=by omega
   have HPL:=lH (fun X (hX:Below wr.heap.size wr X)=>xg7 s acc x X ⟨(hO.own.below hX).itsAt,hgood⟩)
   have HCK:=lH (fun X (hX:Below wr.heap.size wr X)=>xhe s acc x t X ⟨(hO.own.below hX).itsAt,hgood⟩ ht)
   obtain⟨a7,n7,p7,rfl⟩:∃ a n c,s=.slice a n c:=by obtain⟨_,_,e⟩:=hO.own.slice;exact⟨_,_,_,e⟩
   have hlo:=xnJ x acc
   have HIT:=lH (xfg wr (.int .u64 x) (.string t) 46)
   have HPN:=lH (fun hn=>xxA (id:=x) (s:=t) (l:=acc) hn)
   have HTK:=lH (xez l k _ htk)
   obtain⟨b,hb⟩:∃ b,(xb9 x acc).isSome=b:=⟨_,rfl⟩
   rw[hb] at HPL HCK hR HPN
   have hbz:=xah wr (.cells #[.int .u64 x,.string t] 46)
   have HBZ:=lH hbz
   clear c0 c1 hO hgood hseen hb hbz hle htk
   cases b with
   | true =>
    rw[if_pos rfl] at hR
    have HR:=lH hR
    clear hR
    go_wp2_with fail
    refine(HPL.out _ HBZ.out).mono ?_
    rintro e w1 ⟨rfl,hb⟩
    have H1:=lH ((HO.out.below HBZ.out).below hb)
    have r0:=H1.out.res.cell
    have r1:=H1.out.res.frz
    clear hb cc rr rf d0 d1 cA
    go_wp2_with fail
    refine bodyPost_ret (xcg rfl _ _ w.heap.size _ _ _ rfl rfl (H1.out.res.set _).cell Tryz.underlying32 rfl xcc) rfl ⟨_,by rw[HR.out];rfl,?_,H1.out.bel.setCell (p:=⟨w.heap.size,0,none⟩) (Nat.le_refl _) _⟩
    rw[HR.out]
    exact xmu _
   | false =>
    rw[if_neg (by decide)] at hR
    obtain⟨z,hz⟩:∃ z,putE acc x t=z:=⟨_,rfl⟩
    rw[hz] at hR HCK
    by_cases h0:z=0
    ·subst h0
     rw[if_neg (by simp)] at hR
     have HR:=lH hR
     have HTS:=lH (xtz hz)
     have HKE:=lH (fun W=>xnE x t W (Nat.le_trans HTS.out (by omega)))
     have HGP:Hid (GoodC (xhg x t acc)):=by
      have h1:=xnq (id:=x) (s:=t) HGD.out
      unfold xdi at h1
      rw[if_pos hz] at h1
      exact lH h1
     have HPE:Hid (xo9 acc (loC x acc) (x,t)=xhg x t acc):=lH (HPN.out rfl).symm
     have HIN:=lH (fun X (h:OfS w X (.slice a7 n7 p7) acc)=>xBe w X (.slice a7 n7 p7) acc (loC x acc) x t h hlo (by omega))
     rw[HPE.out] at HIN
     clear hR HPN HPE
     go_wp2_with fail
     refine(HPL.out _ HBZ.out).mono ?_
     rintro e w1 ⟨rfl,hb⟩
     have H1:=lH ((HO.out.below HBZ.out).below hb)
     have I1:=lH (HIT.out.below hb)
     have hb1:=lH (HBZ.out.trans (hb.mono HBZ.out.size))
     have c1:=H1.out.cb.cell
     obtain⟨i0,i1,_,_⟩:=I1.out
     clear hb cc rr rf d0 d1 cA
     go_wp2_with fail
     refine(HCK.out _ hb1.out).mono ?_
     rintro e w2 ⟨rfl,hb⟩
     have H2:=lH (H1.out.below hb)
     have I2:=lH (I1.out.below hb)
     clear hb c1 i0 i1
     have c2:=H2.out.cb.cell
     obtain⟨i0,i1,_,_⟩:=I2.out
     go_wp2_with fail
     go_region_law (first|(go_simp;go_at_call 37;refine(HKE.out _).mono ?_;rintro e w3 ⟨rfl,hb⟩;have hb3:Below w2.heap.size w2 w3:=(by go_grown:Below w2.heap.size w2 _).trans (hb.mono (by simp));have O3:=H2.out.below hb3;have k3:=O3.cb.cell;have k4:∀ O,(w3.alloc O).cell? ⟨w.heap.size+1,0,none⟩=_:=fun O=>(O3.cb.alloc O).cell)|(go_simp;go_at_call 36;refine(HIN.out _ O3).mono ?_;rintro e w5 ⟨a9,n9,p9,rfl,ho9,hr9,hc9,hb9⟩;have k5:=hc9.cell;have k6:=hc9.frz))
     all_goals
      have H5:=lH (OfS.mk (w:=w) (hr9.set_other (by omega) (.slice a9 n9 p9)) (hc9.set (.slice a9 n9 p9)) (ho9.set hc9 (.slice a9 n9 p9)) (hb9.setCell (p:=⟨w.heap.size+1,0,none⟩) (Nat.le_succ _) (.slice a9 n9 p9)))
      go_wp2_with fail
      go_roundw
      case rel=>exact⟨k+1,_,_,by omega,by go_num,H5.out,HGP.out,HR.out,fun id=>by rw[HTK.out];exact xr6 id x t acc _ HSE.out⟩
      case measure=>simp[intOf];omega
    ·rw[if_pos h0] at hR
     have hzn:(((z:Nat):Int) != 0)=true:=by simpa using h0
     have HR:=lH hR
     clear hR
     go_wp2_with fail
     refine(HPL.out _ HBZ.out).mono ?_
     rintro e w1 ⟨rfl,hb⟩
     have H1:=lH ((HO.out.below HBZ.out).below hb)
     have I1:=lH (HIT.out.below hb)
     have hb1:=lH (HBZ.out.trans (hb.mono HBZ.out.size))
     have c1:=H1.out.cb.cell
     obtain⟨i0,i1,_,_⟩:=I1.out
     clear hb cc rr rf d0 d1 cA
     go_wp2_with fail
     refine(HCK.out _ hb1.out).mono ?_
     rintro e w2 ⟨rfl,hb⟩
     have H2:=lH (H1.out.below hb)
     have r0:=H2.out.res.cell
     have r1:=H2.out.res.frz
     clear hb c1 i0 i1
     go_wp2_with fail
     refine bodyPost_ret (xcg rfl _ _ w.heap.size _ _ _ rfl rfl (H2.out.res.set _).cell Tryz.underlying32 rfl xcc) rfl ⟨_,by rw[HR.out];rfl,?_,H2.out.bel.setCell (p:=⟨w.heap.size,0,none⟩) (Nat.le_refl _) _⟩
     rw[HR.out]
     exact xmu _
  ·obtain rfl:k=l.length:=by omega
   rw[List.drop_length,ofR] at hR
   have HR:=lH hR
   obtain⟨a7,n7,p7,rfl⟩:∃ a n c,s=.slice a n c:=by obtain⟨_,_,e⟩:=hO.own.slice;exact⟨_,_,_,e⟩
   clear hR hO hgood hseen hle
   go_wp2_with fail
   refine bodyPost_ret (xcg rfl _ _ w.heap.size _ _ _ rfl rfl (HO.out.res.set _).cell Tryz.underlying32 rfl xcc) rfl ⟨_,by rw[HR.out];rfl,?_,HO.out.bel.setCell (p:=⟨w.heap.size,0,none⟩) (Nat.le_refl _) _⟩
   rw[HR.out]
   exact⟨HO.out.own.itsAt.set HO.out.res _,HGD.out⟩
end Go.Proofs.YtjkgkmmkehnggaaGreatDoor
namespace Go.Proofs.YtjkgkmmkehnggaaGreatDoor
set_option linter.unusedVariables false
set_option linter.unusedSimpArgs false
open Go.RowKit Go.Shelf
set_option maxRecDepth 20000
def xin:Obj→Bool
 | .loop _=>true
 | .deferred _=>true
 | _=>false
theorem xbM {p:Prop} (h:Fence.wide.depth.isSome=true):p:=absurd h (by simp[Fence.wide])
structure KeepsS (S S':Nat→Prop) (W W':World):Prop where
 size:W.heap.size≤W'.heap.size
 same:∀ (b:Nat) (o:Obj),¬ S b→W.heap[b]?=some o→W'.heap[b]?=some o
 own:∀ b,S' b→S b∨W.heap.size≤b
theorem xat {W:World} {b:Nat} {o:Obj} (h:W.heap[b]?=some o):b<W.heap.size:=(Array.getElem?_eq_some_iff.1 h).1
theorem KeepsS.refl (S:Nat→Prop) (W:World):KeepsS S S W W:=⟨Nat.le_refl _,fun _ _ _ h=>h,fun _ h=>.inl h⟩
theorem KeepsS.trans {S S' S'':Nat→Prop} {X Y Z:World} (h:KeepsS S S' X Y) (h':KeepsS S' S'' Y Z):KeepsS S S'' X Z:=by
 refine⟨Nat.le_trans h.size h'.size,fun b o hb ho=>h'.same b o (fun hs=>?_) (h.same b o hb ho),fun b hb=>?_⟩
 ·have:=xat ho
  rcases h.own b hs with h1|h1
  ·exact hb h1
  ·omega
 ·rcases h'.own b hb with h1|h1
  ·exact h.own b h1
  ·exact .inr (Nat.le_trans h.size h1)
theorem KeepsS.below (S:Nat→Prop) {W W':World} (hb:Below W.heap.size W W'):KeepsS S S W W':=⟨hb.size,fun b o _ ho=>(hb.block b (xat ho)).trans ho,fun _ h=>.inl h⟩
theorem KeepsS.alloc (S:Nat→Prop) (W:World) (o:Obj):KeepsS S S W (W.alloc o):=.below S ((Below.refl _ W).alloc (Nat.le_refl _) o)
theorem KeepsS.setCell (S:Nat→Prop) (W:World) (a:Addr) (v:Value) (ha:S a.block):KeepsS S S W (W.setCell a v) :=
 ⟨(KeepsWalks.setCell W a v).size,fun b o hb ho=>(Below.heap_setCell W a v b (fun e=>hb (e ▸ ha))).trans ho,fun _ h=>.inl h⟩
theorem KeepsS.cell {S S':Nat→Prop} {W W':World} (h:KeepsS S S' W W') {p:Addr} {v:Value} (hp:¬ S p.block) (hc:W.cell? p=some v):W'.cell? p=some v:=by
 have hlt:=xbx hc
 have:W'.heap[p.block]?=W.heap[p.block]?:=by rw[Array.getElem?_eq_getElem hlt];exact h.same _ _ hp (Array.getElem?_eq_getElem hlt)
 simpa[World.cell?,this] using hc
theorem KeepsS.heap {S S':Nat→Prop} {W W':World} (h:KeepsS S S' W W') {b:Nat} (hp:¬ S b) (hb:b<W.heap.size):W'.heap[b]?=W.heap[b]?:=by
 rw[Array.getElem?_eq_getElem hb];exact h.same _ _ hp (Array.getElem?_eq_getElem hb)
def xea {β:Type} (T:Nat→Prop) (B:Nat) (J:β→World→Prop):Prop :=
 ∀ s X Y row,J s X→X.grownBy Y row→(∀ r,row=some r→T r∨(B≤r∧∃ o:Obj,X.heap[r]?=some o∧xin o=true))→J s Y
abbrev xhN (T:Nat→Prop) (B:Nat) (J:Nat→(Nat→Prop)→World→Prop):Prop:=xea T B (fun(s:Nat × (Nat→Prop))=>J s.1 s.2)
theorem xea.mono {β:Type} {T:Nat→Prop} {B B':Nat} {J:β→World→Prop} (h:xea T B J) (hB:B≤B'):xea T B' J:=fun s X Y row hs hg hr =>
 h s X Y row hs hg (fun r e=>(hr r e).imp id (fun h=>⟨Nat.le_trans hB h.1,h.2⟩))
theorem xea.put {β:Type} {T:Nat→Prop} {B:Nat} {J:β→World→Prop} (h:xea T B J) {s:β} {W:World} (hs:J s W) {l:Nat} {o:Obj} (o':Obj) (hB:B≤l) (hl:W.heap[l]?=some o) (ho:xin o=true):J s (W.putObj l o') :=
 h s W _ (some l) hs (grownBy_putObj' W l o') (fun r e=>by cases e;exact .inr ⟨hB,o,hl,ho⟩)
theorem xea.grow {β:Type} {T:Nat→Prop} {B:Nat} {J:β→World→Prop} (h:xea T B J) {s:β} {W W':World} (hs:J s W) (hb:Below W.heap.size W W'):J s W' :=
 h s W W' none hs ⟨hb.os,hb.tape,hb.output,hb.size,fun k hk _=>hb.block k hk⟩ (fun r e=>by cases e)
theorem xea.alloc {β:Type} {T:Nat→Prop} {B:Nat} {J:β→World→Prop} (h:xea T B J) {s:β} {W:World} (hs:J s W) (o:Obj):J s (W.alloc o):=h.grow hs ((Below.refl _ W).alloc (Nat.le_refl _) o)
def xCY (P:Program) (g:Nat) (lb:Array Value) (encs:Nat→Array Value) (N:Nat) (T V:Nat→Prop) (G:Nat→World→Prop) (Z:World→Prop) (w:World):Prop :=
 ∀ (n l:Nat) (J:Nat→(Nat→Prop)→World→Prop) (Jx:Nat→World→Prop) (S0:Nat→Prop) (W:World),Below w.heap.size w W →
  xhN T W.heap.size J→xea T W.heap.size Jx→(∀ k S W1,J k S W1→G k W1∧∀ b,S b→b<W1.heap.size)→(∀ b,S0 b→b<W.heap.size∧¬ V b) →
  (∀ k S W1,J k S W1→k<N→YieldAt Fence.wide (n - 1) P l (encs k) W1 fun e W'=>(e=.returned (.bool true)∧∃ S',J (k+1) S' W'∧KeepsS S S' W1 W')∨(e=.returned (.bool false)∧Jx (k+1) W'∧∃ S',KeepsS S S' W1 W')) →
  J 0 S0 W→CallsIn Fence.wide n P g (#[.func (.yield l) #[] #[]]++lb) W fun e W'=>(∃ v,e=.returned v)∧((∃ S',J N S' W'∧Z W')∨∃ k,k≤N∧Jx k W')
def xCv (P:Program) (g:Nat) (lb:Array Value) (encs:Nat→Array Value) (N:Nat) (T V:Nat→Prop) (G:Nat→World→Prop) (Y:Nat→World→Prop) (Z:World→Prop) (w:World):Prop :=
 ∀ (n l:Nat) (J:Nat→(Nat→Prop)→World→Prop) (Jx:Nat→World→Prop) (S0:Nat→Prop) (W:World),Below w.heap.size w W →
  xhN T W.heap.size J→xea T W.heap.size Jx→(∀ k S W1,J k S W1→G k W1∧∀ b,S b→b<W1.heap.size)→(∀ b,S0 b→b<W.heap.size∧¬ V b) →
  (∀ k S W1,J k S W1→Y k W1→k<N→YieldAt Fence.wide (n - 1) P l (encs k) W1 fun e W'=>(e=.returned (.bool true)∧∃ S',J (k+1) S' W'∧KeepsS S S' W1 W')∨(e=.returned (.bool false)∧Jx (k+1) W'∧∃ S',KeepsS S S' W1 W')) →
  J 0 S0 W→CallsIn Fence.wide n P g (#[.func (.yield l) #[] #[]]++lb) W fun e W'=>(∃ v,e=.returned v)∧((∃ S',J N S' W'∧Z W')∨∃ k,k≤N∧Jx k W')
theorem xCY.toY {P:Program} {g:Nat} {lb:Array Value} {encs:Nat→Array Value} {N:Nat} {T V:Nat→Prop} {G:Nat→World→Prop} {Z:World→Prop} {w:World} (h:xCY P g lb encs N T V G Z w):xCv P g lb encs N T V G (fun _ _=>True) Z w :=
 fun n l J Jx S0 W hW hJ hJx hG hS0 hY h0=>h n l J Jx S0 W hW hJ hJx hG hS0 (fun k S W1 hj hk=>hY k S W1 hj trivial hk) h0
def xrE (I:Nat→(Nat→Prop)→World→Prop) (Ix:Code→Nat→World→Prop) (k:Nat) (S:Nat→Prop) (W:World):Exit→Act→World→Prop
 | .normal,_,W'=>∃ S',I k S' W'∧KeepsS S S' W W'
 | .ret,_,W'=>Ix .ret k W'∧∃ S',KeepsS S S' W W'
 | .exit id,_,W'=>Ix (.exit id) k W'∧∃ S',KeepsS S S' W W'
 | .goto t,_,W'=>Ix (.goto t) k W'∧∃ S',KeepsS S S' W W'
 | .panic _,_,_=>False
 | .outgrown,_,_=>False
abbrev xgF (D:Nat) (a:Act):Act:={ a with defers:={ target:=.collected D,args:=#[] } :: a.defers }
theorem xxL {n:Nat} {P:Program} {w:World} {a:Act} {Q:Exit→Act→World→Prop} {g:Operand} {ps:Array Tmp} {assign body:Code}
  {gf:Nat} {lb:Array Value} (hg:a.eval g=.func (.func gf) #[] lb) (eg:∀ args w,(callFunc gf args).run P w=.ok (.enter gf args) w)
  {encs:Nat→Array Value} {N:Nat} {T V:Nat→Prop} {G:Nat→World→Prop} {Y:Nat→World→Prop} {Z:World→Prop} {w0:World} (hseq:xCv P gf lb encs N T V G Y Z w0) (hb0:Below w0.heap.size w0 w)
  (hT:∀ r,T r→r<w.heap.size) (hV:∀ r,V r→r<w.heap.size) (hps:∀ k,(encs k).size=ps.size)
  (I:Nat→(Nat→Prop)→World→Prop) (Ix:Code→Nat→World→Prop) (hI:xhN T w.heap.size I) (hIx:∀ c,xea T w.heap.size (Ix c)) (hG:∀ k S W,I k S W→G k W∧∀ b,S b→b<W.heap.size)
  (S0:Nat→Prop) (hS0:∀ b,S0 b→b<w.heap.size∧¬ V b) (h0:I 0 S0 w) (hZ:∀ (W:World) (l:Nat) (o o':Obj),Z W→w.heap.size≤l→W.heap[l]?=some o→xin o=true→Z (W.putObj l o'))
  (hYp:∀ (k:Nat) (W:World) (l:Nat) (o o':Obj),Y k W→w.heap.size≤l→W.heap[l]?=some o→xin o=true→Y k (W.putObj l o')) (Ax:Nat→Act→World→Prop) (hAx:∀ k a',xea T w.heap.size (fun(_:Unit) W=>Ax k a' W))
  (hassign:∀ (l k:Nat) (S:Nat→Prop) (W:World) (K:Act→World→Prop),I k S W→Y k W→k<N→(∀ a' W' S',I k S' W'→Y k W'→KeepsS S S' W W'→Ax k a' W'→K a' W') →
   assign.wpIn (Fence.wide.inRound l) (n - 1 - 1) P (Exit.then K (fun _ _ _=>False)) { tmps:=(ps.zip (encs k)).foldl (fun t (p,v)=>t.setIfInBounds p v) a.tmps,defers:=[] } W)
  (hbody:∀ (l k:Nat) (S:Nat→Prop) (a':Act) (W:World),w.heap.size≤l→I k S W→Y k W→Ax k a' W→k<N→body.wpIn (Fence.wide.inRound l) (n - 1 - 1) P (xrE I Ix (k+1) S W) a' W)
  (hdone:∀ (D:Nat) (S:Nat→Prop) (W:World),w.heap.size≤D→¬ S D→I N S W→Z W→W.heap[D]?=some (.deferred (some []))→Q .normal (xgF D a) W)
  (hstop:∀ (D:Nat) (c:Code) (k:Nat) (W:World),w.heap.size≤D→k≤N→Ix c k W→W.heap[D]?=some (.deferred (some []))→c.wpIn Fence.wide n P Q (xgF D a) W) :
  (Code.rangeFunc g ps assign body).wpIn Fence.wide n P Q a w:=by
 refine wpIn_rangeFunc fun fn hfn=>?_
 -- the record of the loop,and the world in which the iterator is called
 generalize hL:w.heap.size+1=L
 have hD:w.heap.size<L:=by omega
 let rec0:LoopState→Option Code→Loop:=fun st pe=>{ state:=st,pending:=pe,fn,tmps:=a.tmps,params:=ps,assign,body,defers:=w.heap.size }
 have hrec:rec0=fun st pe=>{ state:=st,pending:=pe,fn,tmps:=a.tmps,params:=ps,assign,body,defers:=w.heap.size }:=rfl
 generalize rec0=rec at hrec
 have hnew:Below w.heap.size w ((w.alloc (.deferred (some []))).alloc (.loop (rec .ready none))):=((Below.refl _ w).alloc (Nat.le_refl _) _).alloc (by simp) _
 have e1:((w.alloc (.deferred (some []))).alloc (.loop (rec .ready none))).heap[L]?=some (.loop (rec .ready none)):=by
  have:=World.alloc_heap_new (w.alloc (.deferred (some []))) (.loop (rec .ready none))
  rwa[World.size_alloc,hL] at this
 have e2:((w.alloc (.deferred (some []))).alloc (.loop (rec .ready none))).heap[w.heap.size]?=some (.deferred (some [])) :=
  (Below.heap_alloc _ _ _ (by simp)).trans (World.alloc_heap_new w _)
 have e3:((w.alloc (.deferred (some []))).alloc (.loop (rec .ready none))).heap.size=L+1:=by simp;omega
 have e4:(Instr.enterLoop fn a.tmps ps assign body Fence.wide.round).run P w=.ok (L,[{ target:=.collected w.heap.size,args:=#[] }]) ((w.alloc (.deferred (some []))).alloc (.loop (rec .ready none))):=by
  rw[hrec,← hL];exact run_enterLoop_outer _ _ _ _ _
 generalize (w.alloc (.deferred (some []))).alloc (.loop (rec .ready none))=W1 at hnew e1 e2 e3 e4
 refine⟨L,_,W1,{ target:=.fn (.func gf) lb,args:=#[.func (.yield L) #[] #[]] },W1,gf,#[.func (.yield L) #[] #[]]++lb,W1,e4,?_,fun _ _=>trivial,?_,fun h=>absurd h (by simp[Fence.wide]),?_⟩
 ·simp only[resolve,hg];simp[go_sem]
 ·simp[invoke,go_sem,eg]
 have hmonoI:xhN T (L+1) I:=hI.mono (by omega)
 refine(hseq (n - 1) L
  (fun k S W=>∃ S1,(∀ b,S b↔(S1 b∨b=L))∧I k S1 W∧(¬ S1 L∧¬ S1 w.heap.size)∧W.heap[L]?=some (.loop (rec .ready none))∧W.heap[w.heap.size]?=some (.deferred (some [])))
  (fun k W=>∃ c,Ix c k W∧W.heap[L]?=some (.loop (rec .done (some c)))∧W.heap[w.heap.size]?=some (.deferred (some [])))
  (fun b=>S0 b∨b=L) W1 (hb0.trans (hnew.mono hb0.size)) ?_ ?_ ?_ ?_ ?_ ?_).mono ?_
 ·rintro⟨k,S⟩ X Y row ⟨S1,hS,hi,hl,h1,h2⟩ hgr hr
  refine⟨S1,hS,hmonoI (k,S1) X Y row hi hgr (by rw[e3] at hr;exact hr),hl,?_,?_⟩
  ·refine(hgr.block L (xat h1) (fun e=>?_)).trans h1
   rcases hr L e.symm with h|h
   ·have:=hT L h;omega
   ·omega
  ·refine(hgr.block _ (xat h2) (fun e=>?_)).trans h2
   rcases hr _ e.symm with h|h
   ·have:=hT _ h;omega
   ·omega
 ·rintro k X Y row ⟨c,hi,h1,h2⟩ hgr hr
  refine⟨c,(hIx c).mono (B':=L+1) (by omega) k X Y row hi hgr (by rw[e3] at hr;exact hr),?_,?_⟩
  ·refine(hgr.block L (xat h1) (fun e=>?_)).trans h1
   rcases hr L e.symm with h|h
   ·have:=hT L h;omega
   ·omega
  ·refine(hgr.block _ (xat h2) (fun e=>?_)).trans h2
   rcases hr _ e.symm with h|h
   ·have:=hT _ h;omega
   ·omega
 ·rintro k S W ⟨S1,hS,hi,_,hl,_⟩
  refine⟨(hG _ _ _ hi).1,fun b hb=>?_⟩
  rcases(hS b).1 hb with h|rfl
  ·exact(hG _ _ _ hi).2 b h
  ·exact xat hl
 ·rintro b (hb|rfl)
  ·have:=hS0 b hb;exact⟨by omega,this.2⟩
  ·exact⟨by omega,fun hv=>by have:=hV _ hv;omega⟩
 ·-- a round
  rintro k S W ⟨S1,hS,hi,⟨hs1,hs2⟩,hl,hk⟩ hyk hlt
  have hy:=run_yield (P:=P) (args:=encs k) hl (by rw[hrec];exact hps k)
  rw[hrec] at hy
  refine⟨fn,_,assign,body,hy,roundIn_of_wpIn hfn (hassign L k S1 W _ hi hyk hlt ?_)⟩
  clear hy
  intro a' Wa Sa hia hya hka hax
  have hla:=hka.same _ _ hs1 hl
  have hda:=hka.same _ _ hs2 hk
  have hLW:=xat hl
  have hsa1:¬ Sa L:=fun h=>by rcases hka.own _ h with h|h <;> first|exact hs1 h|omega
  have hsa2:¬ Sa w.heap.size:=fun h=>by rcases hka.own _ h with h|h <;> first|exact hs2 h|omega
  refine⟨_,run_beginRound hla (by rw[hrec]),?_⟩
  have hlb:(Wa.putObj L (.loop { rec .ready none with state:=.busy })).heap[L]?=some (.loop { rec .ready none with state:=.busy }):=World.putObj_heap_same (xat hla)
  have hdb:(Wa.putObj L (.loop { rec .ready none with state:=.busy })).heap[w.heap.size]?=some (.deferred (some [])):=(World.putObj_heap_other (by omega)).trans hda
  have hpb:∀ b,b≠L→(Wa.putObj L (.loop { rec .ready none with state:=.busy })).heap[b]?=Wa.heap[b]?:=fun b hb=>World.putObj_heap_other hb
  have hszb:(Wa.putObj L (.loop { rec .ready none with state:=.busy })).heap.size=Wa.heap.size:=by simp
  refine wpIn_mono (hbody L k Sa a' _ (by omega) (hI.put (s:=(k,Sa)) hia _ (by omega) hla rfl) (hYp k _ _ _ _ hya (by omega) hla rfl) ((hAx k a').put (s:=()) hax _ (by omega) hla rfl) hlt) ?_
  generalize Wa.putObj L (.loop { rec .ready none with state:=.busy })=Wb at hlb hdb hpb hszb
  -- what any way out leaves
  have fin:∀ (jump:Option Code) (W3:World) (S3:Nat→Prop),KeepsS Sa S3 Wb W3 →
    (Instr.endRound L jump).run P W3=.ok (.bool jump.isNone) (W3.putObj L (.loop (rec (if jump.isNone then .ready else .done) jump))) ∧
    W3.heap[L]?=some (.loop { rec .ready none with state:=.busy }) ∧
    (W3.putObj L (.loop (rec (if jump.isNone then .ready else .done) jump))).heap[L]?=some (.loop (rec (if jump.isNone then .ready else .done) jump)) ∧
    (W3.putObj L (.loop (rec (if jump.isNone then .ready else .done) jump))).heap[w.heap.size]?=some (.deferred (some []))∧(¬ S3 L∧¬ S3 w.heap.size)∧KeepsS S (fun b=>S3 b∨b=L) W (W3.putObj L (.loop (rec (if jump.isNone then .ready else .done) jump))):=by
   intro jump W3 S3 hk3
   have hl3:=hk3.same _ _ hsa1 hlb
   have hd3:=hk3.same _ _ hsa2 hdb
   have hLb:=xat hlb
   have hr3:=run_endRound (P:=P) jump hl3
   refine⟨by rw[hrec] at hr3 ⊢;exact hr3,hl3,World.putObj_heap_same (xat hl3),(World.putObj_heap_other (by omega)).trans hd3,⟨fun h=>?_,fun h=>?_⟩,?_⟩
   ·rcases hk3.own _ h with h|h <;> first|exact hsa1 h|omega
   ·rcases hk3.own _ h with h|h <;> first|exact hsa2 h|omega
   ·refine⟨?_,fun b o hb ho=>?_,fun b hb=>?_⟩
    ·have:=hka.size;have:=hk3.size;simp;omega
    ·have hb1:¬ S1 b:=fun h=>hb ((hS b).2 (.inl h))
     have hb2:b≠L:=fun h=>hb ((hS b).2 (.inr h))
     have hb3:¬ Sa b:=fun h=>by have:=xat ho;rcases hka.own _ h with h|h <;> first|exact hb1 h|omega
     refine(World.putObj_heap_other hb2).trans (hk3.same _ _ hb3 ((hpb b hb2).trans (hka.same _ _ hb1 ho)))
    ·rcases hb with hb|hb
     ·rcases hk3.own _ hb with h|h
      ·exact(hka.own _ h).imp (fun h=>(hS b).2 (.inl h)) id
      ·have:=hka.size;exact .inr (by omega)
     ·exact .inl ((hS b).2 (.inr hb))
  rintro e a3 W3 hp
  cases e with
  | normal =>
   obtain⟨S3,hi3,hk3⟩:=hp
   obtain⟨hr3,hl3,hl4,hd4,hn1,hn2⟩:=fin none W3 S3 hk3
   refine⟨_,_,hr3,.inl ⟨rfl,fun b=>S3 b∨b=L,⟨S3,fun b=>Iff.rfl,hI.put (s:=(k+1,S3)) hi3 _ (by omega) hl3 rfl,hn1,hl4,hd4⟩,hn2⟩⟩
  | ret =>
   obtain⟨hi3,S3,hk3⟩:=hp
   obtain⟨hr3,hl3,hl4,hd4,hn1,hn2⟩:=fin (some .ret) W3 S3 hk3
   exact⟨_,_,hr3,.inr ⟨rfl,⟨.ret,(hIx _).put hi3 _ (by omega) hl3 rfl,hl4,hd4⟩,_,hn2⟩⟩
  | exit id =>
   obtain⟨hi3,S3,hk3⟩:=hp
   obtain⟨hr3,hl3,hl4,hd4,hn1,hn2⟩:=fin (some (.exit id)) W3 S3 hk3
   exact⟨_,_,hr3,.inr ⟨rfl,⟨.exit id,(hIx _).put hi3 _ (by omega) hl3 rfl,hl4,hd4⟩,_,hn2⟩⟩
  | goto t =>
   obtain⟨hi3,S3,hk3⟩:=hp
   obtain⟨hr3,hl3,hl4,hd4,hn1,hn2⟩:=fin (some (.goto t)) W3 S3 hk3
   exact⟨_,_,hr3,.inr ⟨rfl,⟨.goto t,(hIx _).put hi3 _ (by omega) hl3 rfl,hl4,hd4⟩,_,hn2⟩⟩
  | panic ch=>exact hp.elim
  | outgrown=>exact hp.elim
 ·have hs0L:¬ S0 L:=fun h=>by have:=(hS0 _ h).1;omega
  have hs0D:¬ S0 w.heap.size:=fun h=>by have:=(hS0 _ h).1;omega
  exact⟨S0,fun b=>Iff.rfl,hI.grow (s:=(0,S0)) h0 hnew,⟨hs0L,hs0D⟩,e1,e2⟩
 ·-- behind the iterator
  rintro e W2 ⟨⟨v,rfl⟩,(⟨S',⟨S1,hS,hi,hnD,hl,hk⟩,hz⟩|⟨k,hk1,c,hi,hl,hk⟩)⟩
  ·refine⟨none,_,by have:=run_endLoop (P:=P) hl (by rw[hrec];simp);rw[hrec] at this;exact this,?_⟩
   exact hdone _ S1 _ (Nat.le_refl _) hnD.2 (hI.put (s:=(N,S1)) hi _ (by omega) hl rfl) (hZ _ _ _ _ hz (by omega) hl rfl) ((World.putObj_heap_other (by omega)).trans hk)
  ·refine⟨some c,_,by have:=run_endLoop (P:=P) hl (by rw[hrec];simp);rw[hrec] at this;exact this,?_⟩
   exact hstop _ c k _ (Nat.le_refl _) hk1 ((hIx c).put hi _ (by omega) hl rfl) ((World.putObj_heap_other (by omega)).trans hk)
theorem xv0 {n:Nat} {P:Program} {w:World} {a:Act} {Q:Exit→Act→World→Prop} {g:Operand} {assign body:Code}
  {gf:Nat} {lb:Array Value} (hg:a.eval g=.func (.func gf) #[] lb) (eg:∀ args w,(callFunc gf args).run P w=.ok (.enter gf args) w)
  {val va2:Nat→Value} {p q:Nat} {r s:Nat} {N:Nat} {T V:Nat→Prop} {G:Nat→World→Prop} {Y:Nat→World→Prop} {Z:World→Prop} {w0:World} (hseq:xCv P gf lb (fun k=>#[val k,va2 k]) N T V G Y Z w0) (hb0:Below w0.heap.size w0 w)
  (hT:∀ r,T r→r<w.heap.size) (hV:∀ r,V r→r<w.heap.size)
  (I:Nat→(Nat→Prop)→World→Prop) (Ix:Code→Nat→World→Prop) (hI:xhN T w.heap.size I) (hIx:∀ c,xea T w.heap.size (Ix c)) (hG:∀ k S W,I k S W→G k W∧∀ b,S b→b<W.heap.size)
  (S0:Nat→Prop) (hS0:∀ b,S0 b→b<w.heap.size∧¬ V b) (h0:I 0 S0 w) (hZ:∀ (W:World) (l:Nat) (o o':Obj),Z W→w.heap.size≤l→W.heap[l]?=some o→xin o=true→Z (W.putObj l o'))
  (hYp:∀ (k:Nat) (W:World) (l:Nat) (o o':Obj),Y k W→w.heap.size≤l→W.heap[l]?=some o→xin o=true→Y k (W.putObj l o'))
  (hassign:∀ (l k:Nat) (W:World) (K:Act→World→Prop),K { tmps:=(((a.tmps.setIfInBounds p (val k)).setIfInBounds q (va2 k)).setIfInBounds r (val k)).setIfInBounds s (va2 k),defers:=[] } W→assign.wpIn (Fence.wide.inRound l) (n - 1 - 1) P (Exit.then K (fun _ _ _=>False)) { tmps:=(a.tmps.setIfInBounds p (val k)).setIfInBounds q (va2 k),defers:=[] } W)
  (hbody:∀ (l k:Nat) (S:Nat→Prop) (W:World),w.heap.size≤l→I k S W→Y k W→k<N→body.wpIn (Fence.wide.inRound l) (n - 1 - 1) P (xrE I Ix (k+1) S W) { tmps:=(((a.tmps.setIfInBounds p (val k)).setIfInBounds q (va2 k)).setIfInBounds r (val k)).setIfInBounds s (va2 k),defers:=[] } W)
  (hdone:∀ (D:Nat) (S:Nat→Prop) (W:World),w.heap.size≤D→¬ S D→I N S W→Z W→W.heap[D]?=some (.deferred (some []))→Q .normal (xgF D a) W)
  (hstop:∀ (D:Nat) (c:Code) (k:Nat) (W:World),w.heap.size≤D→k≤N→Ix c k W→W.heap[D]?=some (.deferred (some []))→c.wpIn Fence.wide n P Q (xgF D a) W) :
  (Code.rangeFunc g #[p,q] assign body).wpIn Fence.wide n P Q a w :=
 xxL hg eg hseq hb0 hT hV (fun _=>rfl) I Ix hI hIx hG S0 hS0 h0 hZ hYp (fun k a' _=>a'={ tmps:=(((a.tmps.setIfInBounds p (val k)).setIfInBounds q (va2 k)).setIfInBounds r (val k)).setIfInBounds s (va2 k),defers:=[] }) (fun k a' _ X Y row hs _ _=>hs)
  (fun l k S W K hi hy hk hK=>by
   have h:=hassign l k W K (hK _ W S hi hy ⟨Nat.le_refl _,fun _ _ _ h=>h,fun _ h=>.inl h⟩ rfl)
   have e:Array.foldl (fun t (y:Nat × Value)=>t.setIfInBounds y.1 y.2) a.tmps (#[p,q].zip #[val k,va2 k])=(a.tmps.setIfInBounds p (val k)).setIfInBounds q (va2 k):=by simp
   rw[← e] at h
   exact h)
  (fun l k S a' W hl hi hy hax hk=>by subst hax;exact hbody l k S W hl hi hy hk)
  hdone hstop
end Go.Proofs.YtjkgkmmkehnggaaGreatDoor
namespace Go.Proofs.YtjkgkmmkehnggaaGreatDoor
set_option linter.unusedVariables false
set_option linter.unusedSimpArgs false
open Go.RowKit
set_option maxRecDepth 20000
def ktC (t:Kt):List Value:=[.int .u64 t.1,.int .u32 t.2.size,.string t.2]
def flatK:List Kt→List Value
 | []=>[]
 | t :: l=>.int .u64 t.1 :: .int .u32 t.2.size :: .string t.2 :: flatK l
theorem xjL (a b:List Kt):flatK (a++b)=flatK a++flatK b:=by
 induction a with
 | nil=>rfl
 | cons t l ih=>simp[flatK,ih]
theorem xvo (l:List Kt):∀ (k:Nat) (t:Kt),l[k]?=some t→(flatK l)[k*3]?=some (.int .u64 t.1)∧(flatK l)[k*3+1]?=some (.int .u32 t.2.size)∧(flatK l)[k*3+2]?=some (.string t.2):=by
 induction l with
 | nil=>intro k t h;simp at h
 | cons s l ih =>
  intro k t h
  cases k with
  | zero=>simp at h;subst h;simp[flatK]
  | succ k =>
   have:=ih k t (by simpa using h)
   rw[show (k+1)*3=k*3+1+1+1 by omega]
   simpa[flatK] using this
def xrK (w:World) (v:Value) (l:List Kt):Prop:=∃ a cap,v=.slice a l.length cap∧l.length≤cap∧cap≤maxLen∧∀ k t,l[k]?=some t→∃ g off,a=some ⟨g,off,none⟩∧g<w.heap.size∧w.cell? ⟨g,off+k*3,none⟩=some (.int .u64 t.1)∧w.cell? ⟨g,off+k*3+1,none⟩=some (.int .u32 t.2.size)∧w.cell? ⟨g,off+k*3+2,none⟩=some (.string t.2)
theorem xrK.below {w w':World} {v:Value} {l:List Kt} (h:xrK w v l) (hb:Below w.heap.size w w'):xrK w' v l:=by
 obtain⟨a,cap,rfl,h1,h2,hc⟩:=h
 refine⟨a,cap,rfl,h1,h2,fun k t ht=>?_⟩
 obtain⟨g,off,ha,hg,c0,c1,c2⟩:=hc k t ht
 exact⟨g,off,ha,Nat.lt_of_lt_of_le hg hb.size,xap hb c0,xap hb c1,xap hb c2⟩
def xdv (w:World) (B:Nat) (v:Value) (l:List Kt):Prop:=w.ownsRow B 252 3 v l.length (flatK l)
theorem xnr (w:World) (B:Nat):xdv w B (.slice none 0 0) []:=World.ownsRow_nil _ _ _ _
theorem xdv.lt {w:World} {B:Nat} {v:Value} {l:List Kt} (h:xdv w B v l):∀ k,v.ownBlock=some k→B≤k∧k<w.heap.size:=World.ownsRow.lt h
theorem xdv.keep {w w':World} {B:Nat} {v:Value} {l:List Kt} (h:xdv w B v l) (hk:∀ k,v.ownBlock=some k→w'.heap[k]?=w.heap[k]?):xdv w' B v l:=by
 obtain⟨h1,h2⟩:=h
 refine⟨h1,?_⟩
 rcases h2 with h2|⟨g,cap,cur,hv,hg,hh,r⟩
 ·exact .inl h2
 ·refine .inr ⟨g,cap,cur,hv,hg,?_,r⟩
  rw[hk g (by rw[hv];rfl)];exact hh
theorem xdv.below {w w':World} {B:Nat} {v:Value} {l:List Kt} (h:xdv w B v l) (hb:Below w.heap.size w w'):xdv w' B v l :=
 h.keep (fun k hk=>hb.block k (h.lt k hk).2)
theorem xdv.cells {w:World} {B:Nat} {v:Value} {l:List Kt} (h:xdv w B v l) {g:Nat} (hg:v.ownBlock=some g):∃ cur T fz,w.heap[g]?=some (.cells cur T fz):=by
 rcases h.2 with ⟨rfl,_⟩|⟨g',cap,cur,rfl,_,hh,_⟩
 ·cases hg
 ·cases hg
  exact⟨_,_,_,hh⟩
theorem xdv.ktsAt {w:World} {B:Nat} {v:Value} {l:List Kt} (h:xdv w B v l):xrK w v l:=by
 have hlt:=h.lt
 have h':=h
 obtain⟨h1,h2⟩:=h
 rcases h2 with ⟨rfl,hn⟩|⟨g,cap,cur,rfl,hg,hh,hle,hm,_⟩
 ·obtain rfl:l=[]:=List.eq_nil_of_length_eq_zero hn
  exact⟨none,0,rfl,Nat.le_refl _,by simp,fun k t h=>by simp at h⟩
 ·refine⟨_,cap,rfl,hle,hm,fun k t ht=>⟨g,0,rfl,(hlt g rfl).2,?_⟩⟩
  have hk:=(List.getElem?_eq_some_iff.1 ht).1
  obtain⟨f0,f1,f2⟩:=xvo l k t ht
  rw[Nat.zero_add]
  exact⟨(World.ownsRow.cellAt h' (k*3) (by omega)).trans f0,(World.ownsRow.cellAt h' (k*3+1) (by omega)).trans f1,(World.ownsRow.cellAt h' (k*3+2) (by omega)).trans f2⟩
theorem xdv.slice {w:World} {B:Nat} {v:Value} {l:List Kt} (h:xdv w B v l):∃ a cap,v=.slice a l.length cap:=by
 obtain⟨a,cap,hv,_⟩:=h.ktsAt
 exact⟨a,cap,hv⟩
theorem xs4 {w:World} {B:Nat} {v:Value} {n:Nat} {l:List Kt} {ys:List Value} (h:w.ownsRow B 252 3 v n ys) (hn:n=l.length) (he:ys=flatK l):xdv w B v l:=by
 subst hn;subst he;exact h
theorem xB5:(Tryz.prog.info? 252).map (fun i=>(i.zero,i.size,i.bytes))=some (some (.agg #[.int .u64 0,.int .u32 0,.string { data:=#[] }]),3,32):=by kernel_rfl
def xdX (w:World) (g:Nat) (t:Kt):Prop:=w.cell? ⟨g,0,none⟩=some (.int .u64 t.1)∧w.cell? ⟨g,1,none⟩=some (.int .u32 t.2.size)∧w.cell? ⟨g,2,none⟩=some (.string t.2)
theorem xdX.lt {w:World} {g:Nat} {t:Kt} (h:xdX w g t):g<w.heap.size:=xbx h.1
theorem xdX.below {w w':World} {g:Nat} {t:Kt} (h:xdX w g t) (hb:Below w.heap.size w w'):xdX w' g t:=⟨xap hb h.1,xap hb h.2.1,xap hb h.2.2⟩
theorem xe2 (w:World) (t:Kt) (T:TypeId):xdX (w.alloc (.cells #[.int .u64 t.1,.int .u32 t.2.size,.string t.2] T)) w.heap.size t:=⟨by simp[go_sem],by simp[go_sem],by simp[go_sem]⟩
theorem xmx (W:World) (ty:TypeId) (v:Value) (L:List Kt) (t:Kt) (g c:Nat) (hown:xdv W 0 v L) (hx:xdX W g t) (hl:L.length≤1000000) :
  ∃ v' w',(Builtin.append_ #[242,242] ty #[v,.slice (some ⟨g,0,none⟩) 1 c]).run Tryz.prog W=.ok v' w'∧xdv w' 0 v' (L++[t])∧W.grownBy w' v.ownBlock∧(v'.ownBlock=v.ownBlock∨∃ g,v'.ownBlock=some g∧W.heap.size≤g):=by
 obtain⟨v',w',hr,h2,h3,h4⟩:=xgS 3 32 W 0 242 252 ty _ Tryz.underlying242 xB5 rfl (by omega) (by omega) v L.length (flatK L) hown ⟨g,0,none⟩ 1 c (ktC t) rfl (by
  intro j u hu
  match j,hu with
  | 0,hu=>simp only[ktC,List.getElem?_cons_zero,Option.some.injEq] at hu;rw[← hu];exact hx.1
  | 1,hu=>simp only[ktC,List.getElem?_cons_succ,List.getElem?_cons_zero,Option.some.injEq] at hu;rw[← hu];exact hx.2.1
  | 2,hu=>simp only[ktC,List.getElem?_cons_succ,List.getElem?_cons_zero,Option.some.injEq] at hu;rw[← hu];exact hx.2.2
  | j+3,hu=>simp[ktC] at hu) (by
  intro u hu
  simp only[ktC,List.mem_cons,List.not_mem_nil,or_false] at hu
  rcases hu with rfl|rfl|rfl <;> rfl) (by omega) (by omega) (Nat.zero_le _)
 refine⟨v',w',hr,?_,h3,h4⟩
 exact xs4 h2 (by simp) (by rw[xjL];rfl)
def xCc:Value→Option (DataW Value × List MemPlace)
 | .slice a n c=>some (.held (.slice a n c),[])
 | _=>none
def xk4:Value:=.slice none 0 0
theorem xCh:Maps.Keyed Tryz.prog 3:=Maps.int_keyed Tryz.underlying3
theorem xCg {k:Int} (h:(Lit.int .i64 k).wf=true):keyOf Tryz.prog 3 (.int .i64 k)=some (.int .i64 k):=Maps.keyOf_int_mk Tryz.underlying3 h
theorem xBP (w:World):(zeroValue 242).run Tryz.prog w=.ok xk4 w:=by
 have h:((Tryz.prog.info? 242).map (·.zero))=some (some xk4):=by kernel_rfl
 cases hq:Tryz.prog.info? 242 with
 | none=>simp[hq] at h
 | some i =>
  have hz:i.zero=some xk4:=by simpa[hq] using h
  simp[zeroValue,typeInfo,hq,hz]
def xfT (w:World) (mb n:Nat) (G:Int→Value):Prop:=∃ D:DataW Value,w.ownsMap Tryz.prog 3 xCc mb n D∧∀ k,(Lit.int .i64 k).wf=true→D.atKey (.int .i64 k) (.held xk4)=.held (G k)
theorem xfT.keep {w w':World} {mb n:Nat} {G:Int→Value} (h:xfT w mb n G) (hk:w'.heap[mb]?=w.heap[mb]?):xfT w' mb n G:=by
 obtain⟨D,⟨es,clock,hb,r⟩,hG⟩:=h
 exact⟨D,⟨es,clock,hk.trans hb,r⟩,hG⟩
theorem xfT.lt {w:World} {mb n:Nat} {G:Int→Value} (h:xfT w mb n G):mb<w.heap.size:=by
 obtain⟨D,h,_⟩:=h
 exact h.lt
theorem xfT.below {w w':World} {mb n:Nat} {G:Int→Value} (h:xfT w mb n G) (hb:Below w.heap.size w w'):xfT w' mb n G:=h.keep (hb.block mb h.lt)
theorem xfT.block {w:World} {mb n:Nat} {G:Int→Value} (h:xfT w mb n G):∃ es clock,w.heap[mb]?=some (.map es clock):=by
 obtain⟨D,⟨es,clock,hb,_⟩,_⟩:=h
 exact⟨es,clock,hb⟩
theorem xzw {v:Value} {y:DataW Value × List MemPlace} (h:xCc v=some y):(∃ a n c,v=.slice a n c)∧y=(.held v,[]):=by
 cases v <;> simp[xCc] at h
 exact⟨⟨_,_,_,rfl⟩,h.symm⟩
theorem xfT.look {w:World} {mb n:Nat} {G:Int→Value} (h:xfT w mb n G) (k:Int) (hk:(Lit.int .i64 k).wf=true):(Instr.lookup 243 (.map (some mb)) (.int .i64 k) false).run Tryz.prog w=.ok (G k) w:=by
 obtain⟨D,hD,hG⟩:=h
 obtain⟨v,ps,hrun,hv⟩:=hD.lookup xCh Tryz.underlying243 (xBP w) (zd:=.held xk4) (zp:=[]) rfl (xCg hk)
 rw[hG k hk] at hv
 obtain⟨_,he⟩:=xzw hv
 injection he with h1 h2
 injection h1 with h1
 rw[hrun,h1]
theorem xsn (w:World) (k:Int) (hk:(Lit.int .i64 k).wf=true):(Instr.lookup 243 (.map none) (.int .i64 k) false).run Tryz.prog w=.ok xk4 w:=by
 have h:=Maps.look_nil (w:=w) (P:=Tryz.prog) false xCh Tryz.underlying243 (xBP w) (xCg hk)
 simpa using h
def xvG (G:Int→Value) (k:Int) (v:Value):Int→Value:=fun j=>if j=k then v else G j
theorem xbY (G:Int→Value) (k:Int) (v:Value):xvG G k v k=v:=by simp[xvG]
theorem xbn (G:Int→Value) (k j:Int) (v:Value) (h:j≠k):xvG G k v j=G j:=by simp[xvG,h]
theorem xfT.put {w:World} {mb n:Nat} {G:Int→Value} (h:xfT w mb n G) (hn:n<maxLen) (k:Int) (hk:(Lit.int .i64 k).wf=true) (v:Value) (hv:∃ a n c,v=.slice a n c) :
  ∃ w',(Instr.mapUpdate 243 (.map (some mb)) (.int .i64 k) v).run Tryz.prog w=.ok () w'∧xfT w' mb (n+1) (xvG G k v)∧w.grownBy w' (some mb):=by
 obtain⟨D,hD,hG⟩:=h
 obtain⟨a,m,c,rfl⟩:=hv
 obtain⟨w',hrun,hD',hgr⟩:=hD.update xCh Tryz.underlying243 hn (xCg hk) (val:=.slice a m c) (d:=.held (.slice a m c)) (ps:=[]) rfl
 refine⟨w',hrun,⟨_,hD',fun j hj=>?_⟩,hgr⟩
 by_cases e:j=k
 ·subst e
  rw[xbY]
  exact Maps.atKey_put_same hD.isMap (xCh.key (xCg hk)) _ _
 ·rw[xbn G k j _ e,← hG j hj]
  exact Maps.atKey_put_other (by intro h;injection h with _ h;exact e h) _ _
theorem xfT.made (w:World):xfT (w.alloc (.map #[] 0)) w.heap.size 0 (fun _=>xk4):=⟨_,World.ownsMap_made w Tryz.prog 3 xCc,fun k _=>rfl⟩
structure PoolAt (w:World) (pb:Nat) (va vm:Value) (G:Int→Value) (l:List ByteArray):Prop where
 good:GoodP l
 two:Two w pb va vm
 all:xdv w 0 va (plc l 0)
 map:(vm=.map none∧l=[]∧∀ k,G k=xk4)∨∃ mb,vm=.map (some mb)∧xfT w mb l.length G
 grps:∀ k,xdv w 0 (G k) (grp k (plc l 0))
 n1:va.ownBlock≠some pb
 n2:∀ k,(G k).ownBlock≠some pb
 n3:∀ k g,(G k).ownBlock=some g→va.ownBlock≠some g
 n4:∀ k j g,(G k).ownBlock=some g→(G j).ownBlock=some g→k=j
 n5:∀ mb,vm=.map (some mb)→mb≠pb
def xfX (pb:Nat) (va vm:Value) (G:Int→Value) (b:Nat):Prop:=b=pb∨va.ownBlock=some b∨vm=.map (some b)∨∃ k,(G k).ownBlock=some b
theorem PoolAt.lt {w:World} {pb:Nat} {va vm:Value} {G:Int→Value} {l:List ByteArray} (h:PoolAt w pb va vm G l):∀ b,xfX pb va vm G b→b<w.heap.size:=by
 rintro b (rfl|hb|rfl|⟨k,hb⟩)
 ·exact h.two.lt
 ·exact(h.all.lt b hb).2
 ·rcases h.map with ⟨e,_⟩|⟨mb,e,hm⟩
  ·cases e
  ·cases e;exact hm.lt
 ·exact((h.grps k).lt b hb).2
theorem PoolAt.keep {w w':World} {pb:Nat} {va vm:Value} {G:Int→Value} {l:List ByteArray} (h:PoolAt w pb va vm G l) (hk:∀ b,xfX pb va vm G b→w'.heap[b]?=w.heap[b]?):PoolAt w' pb va vm G l:=by
 have hp:=hk pb (.inl rfl)
 obtain⟨t0,t1,t2,t3⟩:=h.two
 refine⟨h.good,⟨(World.cell?_of_block (a:=⟨pb,0,none⟩) hp).trans t0,(World.cell?_of_block (a:=⟨pb,1,none⟩) hp).trans t1,(World.frozen?_of_block (a:=⟨pb,0,none⟩) hp).trans t2,(World.frozen?_of_block (a:=⟨pb,1,none⟩) hp).trans t3⟩,h.all.keep (fun b hb=>hk b (.inr (.inl hb))),?_,fun k=>(h.grps k).keep (fun b hb=>hk b (.inr (.inr (.inr ⟨k,hb⟩)))),h.n1,h.n2,h.n3,h.n4,h.n5⟩
 rcases h.map with e|⟨mb,e,hm⟩
 ·exact .inl e
 ·exact .inr ⟨mb,e,hm.keep (hk mb (.inr (.inr (.inl e))))⟩
theorem PoolAt.below {w w':World} {pb:Nat} {va vm:Value} {G:Int→Value} {l:List ByteArray} (h:PoolAt w pb va vm G l) (hb:Below w.heap.size w w'):PoolAt w' pb va vm G l :=
 h.keep (fun b hS=>hb.block b (h.lt b hS))
theorem PoolAt.look {w:World} {pb:Nat} {va vm:Value} {G:Int→Value} {l:List ByteArray} (h:PoolAt w pb va vm G l) (k:Int) (hk:(Lit.int .i64 k).wf=true):(Instr.lookup 243 vm (.int .i64 k) false).run Tryz.prog w=.ok (G k) w:=by
 rcases h.map with ⟨rfl,_,hG⟩|⟨mb,rfl,hm⟩
 ·rw[hG k];exact xsn w k hk
 ·exact hm.look k hk
theorem xfl {w:World} {mb n:Nat} {G:Int→Value} (h:xfT w mb n G) {B:Nat} {v:Value} {l:List Kt} (hv:xdv w B v l):v.ownBlock≠some mb:=by
 intro e
 obtain⟨es,clock,h1⟩:=h.block
 obtain⟨cur,T,fz,h2⟩:=hv.cells e
 rw[h1] at h2
 cases h2
theorem wf_i64 {k:Int} (h0:-9223372036854775808≤k) (h1:k≤9223372036854775807):(Lit.int .i64 k).wf=true:=WalkArith.wf_i64 ⟨h0,h1⟩
def xcY (w:World) (v:Value) (l:List ByteArray) (S:Nat→Prop):Prop:=∃ pb va vm G,v=.pointer (some ⟨pb,0,none⟩)∧PoolAt w pb va vm G l∧∀ b,S b↔xfX pb va vm G b
theorem xcY.ptr {w:World} {v:Value} {l:List ByteArray} {S:Nat→Prop} (h:xcY w v l S):∃ a,v=.pointer (some a):=by
 obtain⟨pb,va,vm,G,rfl,_⟩:=h
 exact⟨_,rfl⟩
theorem xcY.good {w:World} {v:Value} {l:List ByteArray} {S:Nat→Prop} (h:xcY w v l S):GoodP l:=by
 obtain⟨pb,va,vm,G,rfl,h,_⟩:=h
 exact h.good
theorem xcY.lt {w:World} {v:Value} {l:List ByteArray} {S:Nat→Prop} (h:xcY w v l S):∀ b,S b→b<w.heap.size:=by
 obtain⟨pb,va,vm,G,rfl,h,hS⟩:=h
 exact fun b hb=>h.lt b ((hS b).1 hb)
theorem xcY.keep {w w':World} {v:Value} {l:List ByteArray} {S:Nat→Prop} (h:xcY w v l S) (hs:w.heap.size≤w'.heap.size) (hk:∀ b,S b→w'.heap[b]?=w.heap[b]?):xcY w' v l S:=by
 obtain⟨pb,va,vm,G,rfl,h,hS⟩:=h
 exact⟨pb,va,vm,G,rfl,h.keep (fun b hb=>hk b ((hS b).2 hb)),hS⟩
theorem xx6 (w:World) (T:TypeId):PoolAt (w.alloc (.cells #[.slice none 0 0,.map none] T)) w.heap.size (.slice none 0 0) (.map none) (fun _=>xk4) [] :=
 ⟨xkg,xfg w _ _ _,xnr _ _,.inl ⟨rfl,rfl,fun _=>rfl⟩,fun k=>xnr _ _,(by simp[Value.ownBlock]),(by simp[Value.ownBlock,xk4]),(by simp[Value.ownBlock,xk4]),(by simp[Value.ownBlock,xk4]),(by simp)⟩
theorem xuT {pb b:Nat} (h:xfX pb (.slice none 0 0) (.map none) (fun _=>xk4) b):b=pb:=by
 rcases h with h|h|h|⟨k,h⟩
 ·exact h
 ·cases h
 ·cases h
 ·cases h
theorem xz1 (w:World):Calls Tryz.prog 67 #[] w fun e w'=>∃ v S,e=.returned v∧xcY w' v [] S∧(∀ b,S b→w.heap.size≤b)∧Below w.heap.size w w':=by
 go_enter Tryz.func67,Tryz.ntmps67
 go_wp2_with fail
 go_ret
 exact⟨_,_,rfl,⟨w.heap.size,_,_,_,rfl,xx6 w _,fun _=>Iff.rfl⟩,fun b hb=>(by rw[xuT hb];exact Nat.le_refl _),(Below.refl _ _).alloc (Nat.le_refl _) _⟩
end Go.Proofs.YtjkgkmmkehnggaaGreatDoor
namespace Go.Proofs.YtjkgkmmkehnggaaGreatDoor
set_option linter.unusedVariables false
set_option linter.unusedSimpArgs false
open Go.Maps
set_option maxRecDepth 20000
theorem xBi {L:List It} (hg:GoodC L) (k:Nat) (hk:k≤L.length):totF (xad (L.take k)).2≤134217728:=(xgE hg k hk).good.tot
end Go.Proofs.YtjkgkmmkehnggaaGreatDoor
namespace Go.Proofs.YtjkgkmmkehnggaaGreatDoor
set_option linter.unusedVariables false
set_option linter.unusedSimpArgs false
open Go.RowKit
set_option maxRecDepth 20000
theorem xyt {P:Program} {ops:Array Oper} {Q:Exit→Act→World→Prop} {md:Region.Mode} {S:World→Prop} {i d:Nat} {oi:Oper} {v:Value} {fuel:Nat} {listed:Array Bool} {a:Act} {w:World} (hi:ops[i]?=some oi) (hd:oi.dst=some d)
  (hy:YieldsIf P ops S oi v a) (hS:S w) (h:wpAnyH P md ops Q S fuel (listed.setIfInBounds i true) (a.put (some d) v) w)
  (hs:Region.noSelect ops=true:=by kernel_rfl) (hf:Region.free md ops listed i=true:=by kernel_rfl) (hr:(Region.ready md ops listed).contains i=true:=by kernel_rfl) (hQ:∀ c a w,Q (.panic c) (a.put (some d) v) w→Q (.panic c) a w:=by exact fun _ _ _ h=>h):wpAnyH P md ops Q S (fuel+1) listed a w :=
 wpAnyH_take hi hs hf hr (by rw[hd];exact hQ) hy hS (by rw[hd];exact h)
theorem tK {P:Program} {ops:Array Oper} {Q:Exit→Act→World→Prop} {md:Region.Mode} {S:World→Prop} {oi:Oper} {v:Value} {fuel:Nat} {listed:Array Bool} {a a2:Act} {l2:Array Bool} {w:World} (i d:Nat) (hS:S w)
  (h:wpAnyH P md ops Q S fuel l2 a2 w) (hi:ops[i]?=some oi:=by rfl) (hd:oi.dst=some d:=by rfl) (hs:Region.noSelect ops=true:=by kernel_rfl) (hf:Region.free md ops listed i=true:=by kernel_rfl) (hr:(Region.ready md ops listed).contains i=true:=by kernel_rfl)
  (hQ:∀ c a w,Q (.panic c) (a.put (some d) v) w→Q (.panic c) a w:=by exact fun _ _ _ h=>h) (hw:Region.wanted oi (yielded ops a.tmps)=true:=by rfl) (hy:∀ w,S w→(execOp a.eval oi).run P w=.ok (.value v) w:=by intro w hSw;go_simp;try with_reducible rfl) (ha:a.put (some d) v=a2:=by (try simp only[Act.put,zsA,zsB,zsC]);exact rfl) (hl:listed.setIfInBounds i true=l2:=by (try simp only[Act.put,zsA,zsB,zsC]);exact rfl):wpAnyH P md ops Q S (fuel+1) listed a w :=
 xyt hi hd (Or.inl ⟨hw,hy⟩) hS (by rw[hl,ha];exact h) hs hf hr hQ
theorem tU {P:Program} {ops:Array Oper} {Q:Exit→Act→World→Prop} {md:Region.Mode} {S:World→Prop} {oi:Oper} {fuel:Nat} {listed:Array Bool} {a a2:Act} {l2:Array Bool} {w:World} (i d:Nat) (hS:S w)
  (h:wpAnyH P md ops Q S fuel l2 a2 w) (hi:ops[i]?=some oi:=by rfl) (hd:oi.dst=some d:=by rfl) (hs:Region.noSelect ops=true:=by kernel_rfl) (hf:Region.free md ops listed i=true:=by kernel_rfl) (hr:(Region.ready md ops listed).contains i=true:=by kernel_rfl)
  (hQ:∀ c a w,Q (.panic c) (a.put (some d) undef) w→Q (.panic c) a w:=by exact fun _ _ _ h=>h) (hw:Region.wanted oi (yielded ops a.tmps)=false:=by rfl) (ha:a.put (some d) undef=a2:=by (try simp only[Act.put,zsA,zsB,zsC]);exact rfl) (hl:listed.setIfInBounds i true=l2:=by (try simp only[Act.put,zsA,zsB,zsC]);exact rfl):wpAnyH P md ops Q S (fuel+1) listed a w :=
 xyt hi hd (Or.inr ⟨hw,rfl⟩) hS (by rw[hl,ha];exact h) hs hf hr hQ
def eC (e:En):Array Value:=#[.int .u64 e.id,.int .u64 e.off,.int .u32 e.ln,.int .u32 e.rn]
def EAt (w:World) (b:Nat) (e:En):Prop:=w.cell? ⟨b,0,none⟩=some (.int .u64 e.id)∧w.cell? ⟨b,1,none⟩=some (.int .u64 e.off)∧w.cell? ⟨b,2,none⟩=some (.int .u32 e.ln)∧w.cell? ⟨b,3,none⟩=some (.int .u32 e.rn)
theorem EAt.later {w w':World} {b:Nat} {e:En} (h:EAt w b e) (hb:Below w.heap.size w w'):EAt w' b e:=⟨xaa hb h.1,xaa hb h.2.1,xaa hb h.2.2.1,xaa hb h.2.2.2⟩
theorem EAt.made (w:World) (e:En) (T:TypeId):EAt (w.alloc (.cells (eC e) T)) w.heap.size e:=by
 unfold EAt eC
 refine⟨?_,?_,?_,?_⟩ <;> rw[World.cell?_alloc_mark] <;> rfl
theorem xfS {w w' w1:World} {b:Nat} {e:En} (hb:Below w'.heap.size w' w1) (H:(w'.cell? ⟨b,0,none⟩=some (.int .u64 e.id)∧w'.cell? ⟨b,1,none⟩=some (.int .u64 e.off)∧w'.cell? ⟨b,2,none⟩=some (.int .u32 e.ln)∧w'.cell? ⟨b,3,none⟩=some (.int .u32 e.rn))∧Below w.heap.size w w'):(w1.cell? ⟨b,0,none⟩=some (.int .u64 e.id)∧w1.cell? ⟨b,1,none⟩=some (.int .u64 e.off)∧w1.cell? ⟨b,2,none⟩=some (.int .u32 e.ln)∧w1.cell? ⟨b,3,none⟩=some (.int .u32 e.rn))∧Below w.heap.size w w1:=⟨EAt.later H.1 hb,H.2.trans (hb.mono H.2.size)⟩
theorem xya {a b:Int} (h:a=b):Ending.returned (.int .i64 a)=.returned (.int .i64 b):=by rw[h]
theorem xd6 {a b:Int} (h:a=b):Ending.returned (.int .u64 a)=.returned (.int .u64 b):=by rw[h]
theorem xkY {a b:Bool} (h:a=b):Ending.returned (.bool a)=.returned (.bool b):=by rw[h]
theorem xpo (s:ByteArray) (w:World) (hs:s.size≤281474976710656):Calls Tryz.prog 95 #[.string s] w fun e w'=>e=.returned (.string s)∧Below w.heap.size w w':=by
 have HC:=lH (fun W=>clo_any s W hs)
 go_enter Tryz.func95,Tryz.ntmps95
 go_wp2_with fail
 refine(HC.out _).mono ?_
 rintro e w1 ⟨rfl,hb⟩
 have HB:=lH hb
 clear hb
 go_wp2_with fail
 go_ret
 exact⟨rfl,HB.out⟩
theorem xlS {fn:Func} {p:Tmp} {ty:TypeId} (h:fn.results=#[.cell p ty]) (tmps:Array Value) (w:World) (g:Nat) (x y:Value) (d:TypeDesc) (hp:tmps.getD p undef=.pointer (some ⟨g,0,none⟩)) (c0:w.cell? ⟨g,0,none⟩=some x) (c1:w.cell? ⟨g,1,none⟩=some y)
  (hu:Tryz.prog.underlying ty=some d) (hd:(match d with|.struct _|.array _ _=>true|_=>false)=true) (hi:(Tryz.prog.info? ty).map (·.size)=some 2) :
  (results fn tmps).run Tryz.prog w=.ok (.agg #[x,y]) w:=by
 have hl:=xgd w g ty x y d c0 c1 hu hd hi
 have hp':tmps[p]?.getD undef=.pointer (some ⟨g,0,none⟩):=by simpa using hp
 simp[results,h,hp',asAddr,hl]
theorem xfJ {ops:Array Oper} {o:Oper} {a:Act} {w:World} {K:Act→World→Prop} {Q:Exit→Act→World→Prop} {E:Prop}
  (hg:o.guard=none) (s x:Operand) (hop:o.op=Op.call { callee:=Callee.builtin Builtin.append,args:=#[s,x],argTypes:=#[242,242] })
  (v:Value) (L:List Kt) (t:Kt) (g c:Nat) (hown:xdv w 0 v L) (h3:xdX w g t) (hl:L.length≤1000000) (hs:a.eval s=v) (hx:a.eval x=.slice (some ⟨g,0,none⟩) 1 c)
  (hK:∀ v' w',xdv w' 0 v' (L++[t])→w.grownBy w' v.ownBlock→(v'.ownBlock=v.ownBlock∨∃ g,v'.ownBlock=some g∧w.heap.size≤g)→K (a.put o.dst v') w') :
  if Region.wanted o (yielded ops a.tmps)=true then Oper.wp Tryz.prog o a w K Q else E:=by
 have hw:Region.wanted o (yielded ops a.tmps)=true:=by simp[Region.wanted,hg]
 rw[if_pos hw]
 obtain⟨v',w',hrun,h1,h2,h4⟩:=xmx w o.type v L t g c hown h3 hl
 unfold Oper.wp
 simp[execOp,hop,resolve,invoke,builtin,hs,hx,hrun,Result.andThen]
 exact hK v' w' h1 h2 h4
structure MidL (w W:World) (pb rb kb mb:Nat) (va vm:Value) (G:Int→Value) (l:List ByteArray) (s:ByteArray):Prop where
 two:Two W pb va (.map (some mb))
 all:xdv W 0 va (plc l 0)
 map:xfT W mb l.length G
 grps:∀ k,xdv W 0 (G k) (grp k (plc l 0))
 kt:xdX W kb (totF l,s)
 rs:Two W rb (.int .u64 0) (.int .u32 0)
 lr:w.heap.size≤rb
 lk:w.heap.size≤kb
 nk:rb≠kb
 nm:mb≠pb
 om:vm=.map (some mb)∨w.heap.size≤mb
 la:∀ g,va.ownBlock=some g→g<w.heap.size
 lg:∀ k g,(G k).ownBlock=some g→g<w.heap.size
 kept:Kept (xfX pb va vm G) (xfX pb va vm G) w W
theorem MidL.below {w W X:World} {pb rb kb mb:Nat} {va vm:Value} {G:Int→Value} {l:List ByteArray} {s:ByteArray} (h:MidL w W pb rb kb mb va vm G l s) (hb:Below W.heap.size W X):MidL w X pb rb kb mb va vm G l s :=
 ⟨h.two.below hb,h.all.below hb,h.map.below hb,fun k=>(h.grps k).below hb,h.kt.below hb,h.rs.below hb,h.lr,h.lk,h.nk,h.nm,h.om,h.la,h.lg,h.kept.trans (Kept.below _ hb)⟩
structure Mid2 (w W:World) (pb rb kb mb:Nat) (va vm va':Value) (G:Int→Value) (l:List ByteArray) (s:ByteArray):Prop where
 two:Two W pb va' (.map (some mb))
 all:xdv W 0 va' (plc l 0++[(totF l,s)])
 map:xfT W mb l.length G
 grps:∀ k,xdv W 0 (G k) (grp k (plc l 0))
 kt:xdX W kb (totF l,s)
 rs:Two W rb (.int .u64 0) (.int .u32 0)
 oa:va'.ownBlock=va.ownBlock∨∃ g,va'.ownBlock=some g∧w.heap.size≤g∧g≠rb∧g≠kb∧g≠mb∧g≠pb
 kept:Kept (xfX pb va vm G) (xfX pb va vm G) w W
theorem Mid2.below {w W X:World} {pb rb kb mb:Nat} {va vm va':Value} {G:Int→Value} {l:List ByteArray} {s:ByteArray} (h:Mid2 w W pb rb kb mb va vm va' G l s) (hb:Below W.heap.size W X):Mid2 w X pb rb kb mb va vm va' G l s :=
 ⟨h.two.below hb,h.all.below hb,h.map.below hb,fun k=>(h.grps k).below hb,h.kt.below hb,h.rs.below hb,h.oa,h.kept.trans (Kept.below _ hb)⟩
end Go.Proofs.YtjkgkmmkehnggaaGreatDoor
