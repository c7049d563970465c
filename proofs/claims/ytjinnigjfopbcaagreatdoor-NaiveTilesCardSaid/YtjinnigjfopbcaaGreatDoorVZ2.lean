/- Qd Qe Qf Za. -/
import Derived.Test.YtjinnigjfopbcaaGreatDoorVZ1
import Derived.Test.YtjinnigjfopbcaaGreatDoorVa8
import Derived.Test.YtjinnigjfopbcaaGreatDoorVs
set_option maxHeartbeats 16000000
namespace Go.Proofs.YtjinnigjfopbcaaGreatDoor
set_option linter.unusedVariables false
set_option linter.unusedSimpArgs false
open Go.RowKit
set_option maxRecDepth 20000
def xyy (g:Nat) (w:World) (b:Nat):Prop:=b=g∨w.heap.size≤b
theorem xnW {g:Nat} {w X:World} (hb:Below w.heap.size w X):Kept (fun b=>b=g) (xyy g w) w X:=⟨hb.os,hb.tape,hb.output,hb.size,fun b hl _=>hb.block b hl,fun _ h=>h⟩
theorem P0.keep {W X:World} {g:Nat} {a b:Value} (h:P0 W g a b) (hk:X.heap[g]?=W.heap[g]?):P0 X g a b:=by
 obtain⟨T,h⟩:=h
 exact⟨T,hk.trans h⟩
theorem xdl {X Y:World} (h:X.grownBy Y none):Below X.heap.size X Y:=(Below.refl _ X).grown h (Nat.le_refl _) (fun k hk=>by cases hk)
def Pk (W:World) (g z:Nat) (s:ByteArray) (S:Nat→Prop):Prop:=∃ va gv mb,P0 W g va (.map (some mb))∧xcM W 0 va [(z,s)]∧xfl W mb 1 (xv7 (fun _=>xoi) (bkt s) gv)∧xcM W 0 gv [(z,s)]∧∀ b,S b↔(b=g∨va.ownBlock=some b∨b=mb∨gv.ownBlock=some b)
theorem Pk.lt {W:World} {g z:Nat} {s:ByteArray} {S:Nat→Prop} (h:Pk W g z s S):∀ b,S b→b<W.heap.size:=by
 obtain⟨va,gv,mb,h1,h2,h3,h4,h5⟩:=h
 intro b hb
 rcases(h5 b).1 hb with rfl|hb|rfl|hb
 ·exact h1.lt
 ·exact(h2.lt b hb).2
 ·exact h3.lt
 ·exact(h4.lt b hb).2
theorem Pk.keep {W X:World} {g z:Nat} {s:ByteArray} {S:Nat→Prop} (h:Pk W g z s S) (hk:∀ b,S b→X.heap[b]?=W.heap[b]?):Pk X g z s S:=by
 obtain⟨va,gv,mb,h1,h2,h3,h4,h5⟩:=h
 exact⟨va,gv,mb,h1.keep (hk g ((h5 g).2 (.inl rfl))),h2.keep (fun k e=>hk k ((h5 k).2 (.inr (.inl e)))),h3.keep (hk mb ((h5 mb).2 (.inr (.inr (.inl rfl))))),h4.keep (fun k e=>hk k ((h5 k).2 (.inr (.inr (.inr e))))),h5⟩
theorem Pk.below {W X:World} {g z:Nat} {s:ByteArray} {S:Nat→Prop} (h:Pk W g z s S) (hb:Below W.heap.size W X):Pk X g z s S:=h.keep (fun b hS=>hb.block b (h.lt b hS))
theorem Pk.norec {W:World} {g z:Nat} {s:ByteArray} {S:Nat→Prop} (h:Pk W g z s S) {b:Nat} (hb:S b) {o:Obj} (ho:W.heap[b]?=some o):xcY o=false:=by
 obtain⟨va,gv,mb,⟨T,h1⟩,h2,h3,h4,h5⟩:=h
 rcases(h5 b).1 hb with rfl|hb|rfl|hb
 ·rw[h1] at ho;cases ho;rfl
 ·obtain⟨_,_,_,hh⟩:=h2.cells hb
  rw[hh] at ho;cases ho;rfl
 ·obtain⟨_,_,hh⟩:=h3.block
  rw[hh] at ho;cases ho;rfl
 ·obtain⟨_,_,_,hh⟩:=h4.cells hb
  rw[hh] at ho;cases ho;rfl
structure M1 (w W:World) (g rb kb mb z:Nat) (s:ByteArray) (va:Value):Prop where
 po:P0 W g va (.map (some mb))
 kt:xc2 W kb (z,s)
 mp:xfl W mb 0 (fun _=>xoi)
 rs:Two W rb (.int .u64 0) (.int .u32 0)
 kp:Kept (fun b=>b=g) (xyy g w) w W
 lg:g<w.heap.size
 lr:w.heap.size≤rb
 lk:w.heap.size≤kb
 lm:w.heap.size≤mb
theorem M1.below {w W X:World} {g rb kb mb z:Nat} {s:ByteArray} {va:Value} (h:M1 w W g rb kb mb z s va) (hb:Below W.heap.size W X):M1 w X g rb kb mb z s va :=
 ⟨h.po.below hb,h.kt.below hb,h.mp.below hb,h.rs.below hb,h.kp.trans (Kept.below _ hb),h.lg,h.lr,h.lk,h.lm⟩
theorem M1.set {w W:World} {g rb kb mb z:Nat} {s:ByteArray} {va:Value} (h:M1 w W g rb kb mb z s va) (v:Value):M1 w (W.setCell ⟨g,0,none⟩ v) g rb kb mb z s v:=by
 have es:∀ b,b≠g→(W.setCell ⟨g,0,none⟩ v).heap[b]?=W.heap[b]?:=fun b hb=>Below.heap_setCell _ _ _ _ (by simpa using hb)
 have:=h.lg
 have:=h.lr
 have:=h.lk
 have:=h.lm
 exact⟨h.po.set0 v,h.kt.keep (es kb (by omega)),h.mp.keep (es mb (by omega)),h.rs.keep (es rb (by omega)),h.kp.trans (xlY _ _ _ _ (.inl rfl)),h.lg,h.lr,h.lk,h.lm⟩
theorem xwO {w w3:World} {g rb z:Nat} {s:ByteArray} (h:P0 w3 g (.slice none 0 0) (.map none)) (ht:Two w3 rb (.int .u64 0) (.int .u32 0)) (hb:Below w.heap.size w w3) (hg:g<w.heap.size) (hr:w.heap.size≤rb) (T:TypeId) :
  M1 w (((w3.setCell ⟨g,1,none⟩ (.map (some (w3.heap.size+1)))).alloc (.cells #[.int .u64 z,.int .u32 s.size,.string s] T)).alloc (.map #[] 0)) g rb w3.heap.size (w3.heap.size+1) z s (.slice none 0 0):=by
 have hs:=hb.size
 have hsz:(w3.setCell ⟨g,1,none⟩ (.map (some (w3.heap.size+1)))).heap.size=w3.heap.size:=by simp
 have es:∀ b,b≠g→(w3.setCell ⟨g,1,none⟩ (.map (some (w3.heap.size+1)))).heap[b]?=w3.heap[b]?:=fun b hn=>Below.heap_setCell _ _ _ _ (by simpa using hn)
 have h2:=h.set1 (.map (some (w3.heap.size+1)))
 have hrs:=ht.keep (es rb (by omega))
 have hkp:=(xnW (g:=g) hb).trans (xlY (xyy g w) w3 ⟨g,1,none⟩ (.map (some (w3.heap.size+1))) (.inl rfl))
 generalize hv:Value.map (some (w3.heap.size+1))=mv at *
 generalize hw:w3.setCell ⟨g,1,none⟩ mv=W3 at *
 have b1:=xaI W3 (.cells #[.int .u64 z,.int .u32 s.size,.string s] T)
 have b2:=xaI (W3.alloc (.cells #[.int .u64 z,.int .u32 s.size,.string s] T)) (.map #[] 0)
 have hm:=xfl.made (W3.alloc (.cells #[.int .u64 z,.int .u32 s.size,.string s] T))
 have hk:=(xf9 W3 (z,s) T).below b2
 have e:(W3.alloc (.cells #[.int .u64 z,.int .u32 s.size,.string s] T)).heap.size=w3.heap.size+1:=by simp[hsz]
 rw[hsz] at hk
 rw[e] at hm
 refine⟨?_,hk,hm,(hrs.below b1).below b2,(hkp.trans (Kept.below _ b1)).trans (Kept.below _ b2),hg,hr,hs,by omega⟩
 rw[hv]
 exact(h2.below b1).below b2
theorem M1.stepA {w W X w6:World} {g rb kb mb z:Nat} {s:ByteArray} {v':Value} (h:M1 w W g rb kb mb z s (.slice none 0 0)) (hX:Below W.heap.size W X) (ho:xcM w6 0 v' [(z,s)]) (hg:X.grownBy w6 none) (hl:v'.ownBlock=none∨∃ g,v'.ownBlock=some g∧X.heap.size≤g) :
  P0 w6 g (.slice none 0 0) (.map (some mb))∧M1 w (w6.setCell ⟨g,0,none⟩ v') g rb kb mb z s v'∧xcM (w6.setCell ⟨g,0,none⟩ v') 0 v' [(z,s)]∧∀ b,v'.ownBlock=some b→b≠g∧b≠rb∧w.heap.size≤b:=by
 have hx:=h.below hX
 have h6:=hx.below (xdl hg)
 have h1:=hx.po.lt
 have h2:=hx.rs.lt
 have h3:=hx.kp.size
 have hv:∀ b,v'.ownBlock=some b→X.heap.size≤b:=by
  intro b hb
  rcases hl with e|⟨g',e,hg'⟩
  ·rw[e] at hb;cases hb
  ·rw[e] at hb;cases hb;exact hg'
 refine⟨h6.po,h6.set v',ho.keep (fun k hk=>Below.heap_setCell _ _ _ _ (by have:=hv k hk;simp;omega)),fun b hb=>?_⟩
 have:=hv b hb
 exact⟨by omega,by omega,by omega⟩
theorem M1.stepB {w W X w7 w8:World} {g rb kb mb z:Nat} {s:ByteArray} {va gv:Value} (h:M1 w W g rb kb mb z s va) (ho:xcM W 0 va [(z,s)]) (hn:∀ b,va.ownBlock=some b→b≠g∧b≠rb∧w.heap.size≤b) (hX:Below W.heap.size W X) (ho7:xcM w7 0 gv [(z,s)]) (hg7:X.grownBy w7 none) (hl:gv.ownBlock=none∨∃ g,gv.ownBlock=some g∧X.heap.size≤g)
  (hm:xfl w8 mb 1 (xv7 (fun _=>xoi) (bkt s) gv)) (hg8:w7.grownBy w8 (some mb)):∃ S,Pk w8 g z s S∧Kept (fun b=>b=g) S w w8∧Two w8 rb (.int .u64 0) (.int .u32 0)∧xc2 w8 kb (z,s)∧¬ S rb:=by
 have hx:=h.below hX
 have h7:=hx.below (xdl hg7)
 have l1:=hx.po.lt
 have l2:=hx.rs.lt
 have l3:=hx.kp.size
 have i1:=h.lg
 have i2:=h.lr
 have i3:=h.lk
 have i4:=h.lm
 have hv:∀ b,gv.ownBlock=some b→X.heap.size≤b:=by
  intro b hb
  rcases hl with e|⟨g',e,hg'⟩
  ·rw[e] at hb;cases hb
  ·rw[e] at hb;cases hb;exact hg'
 have e8:∀ b,b<w7.heap.size→b≠mb→w8.heap[b]?=w7.heap[b]?:=fun b hb hn=>hg8.block b hb (fun e=>hn (by injection e))
 have hva:=(ho.below hX).below (xdl hg7)
 have n1:va.ownBlock≠some mb:=xoO h7.mp hva
 have n2:gv.ownBlock≠some mb:=xoO h7.mp ho7
 have hrm:rb≠mb:=by
  rintro rfl
  obtain⟨es,cl,hh⟩:=h7.mp.block
  have:=h7.rs.1
  simp[World.cell?,hh] at this
 have hkm:kb≠mb:=by
  rintro rfl
  obtain⟨es,cl,hh⟩:=h7.mp.block
  have:=h7.kt.1
  simp[World.cell?,hh] at this
 have hk:=h7.kp.trans (xnw (xyy g w) hg8 (fun k hk=>.inl (.inr (by cases hk;exact i4))))
 refine⟨fun b=>b=g∨va.ownBlock=some b∨b=mb∨gv.ownBlock=some b,⟨va,gv,mb,h7.po.keep (e8 g h7.po.lt (by omega)),hva.keep (fun k e=>e8 k (hva.lt k e).2 (fun e2=>n1 (by rw[e,e2]))),hm,ho7.keep (fun k e=>e8 k (ho7.lt k e).2 (fun e2=>n2 (by rw[e,e2]))),fun b=>Iff.rfl⟩,⟨hk.os,hk.tape,hk.output,hk.size,hk.same,fun b hb=>?_⟩,h7.rs.keep (e8 rb h7.rs.lt hrm),h7.kt.keep (e8 kb h7.kt.lt hkm),?_⟩
 ·rcases hb with rfl|hb|rfl|hb
  ·exact .inl rfl
  ·exact .inr (hn b hb).2.2
  ·exact .inr i4
  ·exact .inr (by have:=hv b hb;omega)
 ·rintro(hb|hb|hb|hb)
  ·omega
  ·exact(hn rb hb).2.1 rfl
  ·exact hrm hb
  ·have:=hv rb hb;omega
theorem M1.later7 {w W X w7:World} {g rb kb mb z:Nat} {s:ByteArray} {va:Value} (h:M1 w W g rb kb mb z s va) (hX:Below W.heap.size W X) (hg:X.grownBy w7 none):M1 w w7 g rb kb mb z s va:=(h.below hX).below (xdl hg)
theorem Pk.set2 {W:World} {g z:Nat} {s:ByteArray} {S:Nat→Prop} (h:Pk W g z s S) (r:Nat) (hr:¬ S r) (x y:Value):Pk ((W.setCell ⟨r,0,none⟩ x).setCell ⟨r,1,none⟩ y) g z s S :=
 h.keep (fun b hb=>by rw[Below.heap_setCell _ _ _ _ (by intro e;simp at e;subst e;exact hr hb),Below.heap_setCell _ _ _ _ (by intro e;simp at e;subst e;exact hr hb)])
theorem xr0 (g ga off cap z:Nat) (s:ByteArray) (m:Value) (w:World) (h:P0 w g (.slice (some ⟨ga,off,none⟩) 1 cap) m) (hs:s.size≤65536) (hz:z=0) (l0:w.cell? ⟨ga,off,none⟩=some (.int .u64 (z:Nat))) (l1:w.cell? ⟨ga,off+1,none⟩=some (.int .u32 s.size)) :
  Calls Tryz.prog 209 #[.pointer (some ⟨g,0,none⟩)] w fun e w'=>e=.returned (.int .u64 s.size)∧Below w.heap.size w w':=by
 obtain⟨c0,c1,f0,f1⟩:=h.cells
 have k0:∀ O,(w.alloc O).cell? ⟨g,0,none⟩=_:=fun O=>xan (xaI w O) c0
 have k1:∀ O,(w.alloc O).cell? ⟨ga,off,none⟩=_:=fun O=>xan (xaI w O) l0
 have k2:∀ O,(w.alloc O).cell? ⟨ga,off+1,none⟩=_:=fun O=>xan (xaI w O) l1
 have HZ:=lH hz
 clear h hz
 go_enter Tryz.func209,Tryz.ntmps209
 go_wp2_with fail
 go_region
 all_goals
  go_wp2_with fail
  go_ret
  refine⟨xal ?_,by go_grown⟩
  have:=HZ.out
  simp only[IntKind.wrap_u64]
  omega
theorem xsk (g z:Nat) (hz:z=0) (m:Value) (w:World) (h:P0 w g (.slice none 0 0) m):Calls Tryz.prog 209 #[.pointer (some ⟨g,0,none⟩)] w fun e w'=>e=.returned (.int .u64 (z:Nat))∧Below w.heap.size w w':=by
 subst hz
 exact xtD g m w h
theorem xtU (w:World) (g z:Nat) (hz:z=0) (s:ByteArray) (h:P0 w g (.slice none 0 0) (.map none)) (hss:s.size≤65536) :
  Calls Tryz.prog 208 #[.pointer (some ⟨g,0,none⟩),.int .i64 (bkt s),.string s] w fun e w'=>e=.returned (.agg #[.int .u64 (z:Nat),.int .u32 s.size])∧∃ S,Pk w' g z s S∧Kept (fun b=>b=g) S w w':=by
 have hwf:(Lit.int .i64 (bkt s)).wf=true:=by have:=xf0 s;exact wf_i64 (by omega) (by omega)
 have hB0:=xaI w (.cells #[.int .u64 0,.int .u32 0] 227)
 have hP1:=h.below hB0
 have ht2:=xf7 w (.int .u64 0) (.int .u32 0) 227
 have HE:=lH (xsk g z hz _ _ hP1)
 have HC:=lH (fun W=>xgY s W (by omega))
 have hw1:IntKind.u32.wrap (s.size:Int)=(s.size:Int):=by rw[IntKind.wrap_u32];omega
 have HP1:=lH (And.intro hP1 (And.intro ht2 hB0))
 have hpl:=h.lt
 clear h hP1 ht2 hB0 hz
 go_enter Tryz.func208,Tryz.ntmps208
 go_wp2_with fail
 generalize hW1:w.alloc (.cells #[.int .u64 0,.int .u32 0] 227)=W1 at *
 have hWs:W1.heap.size=w.heap.size+1:=by rw[← hW1];simp
 refine HE.out.mono ?_
 rintro e w2 ⟨rfl,hb2⟩
 have HB2:=lH hb2
 clear hb2 HE
 go_wp2_with fail
 refine(HC.out _).mono ?_
 rintro e w3 ⟨rfl,hb3⟩
 have hb13:=HB2.out.trans (hb3.mono HB2.out.size)
 have hp3:=HP1.out.1.below hb13
 have HR3:=lH (And.intro hp3 (And.intro (HP1.out.2.1.below hb13) (HP1.out.2.2.trans (hb13.mono HP1.out.2.2.size))))
 obtain⟨c0,c1,c2,c3⟩:=hp3.cells
 have hpl3:=hp3.lt
 have hne3:g≠w3.heap.size:=by omega
 have hM:=xwO (z:=z) (s:=s) HR3.out.1 HR3.out.2.1 HR3.out.2.2 hpl (Nat.le_refl _) 328
 have HM0:=lH hM
 clear hb3 HB2 HC hp3 hb13 hM
 have q1:=fun W=>xjq W
 have q2:=fun t W=>run_makeMap (P:=Tryz.prog) t W
 have hwk:w.heap.size≠w3.heap.size:=by have:=HR3.out.2.1.lt;omega
 generalize hkb:w3.heap.size=kb at *
 have hne4:g≠kb+1:=by omega
 go_upto_if 21 with fail
 go_cut [] (fun wx=>M1 w wx g w.heap.size kb (kb+1) z s (.slice none 0 0))
 case first =>
  go_wp2_with fail
  go_meet
  case rel=>exact HM0.out
 case rest =>
  generalize wc=W at *
  go_upto_region 4 with fail
  have HM:=lH hcut
  obtain⟨d0,d1,d2,d3⟩:=hcut.po.cells
  obtain⟨k0,k1,k2⟩:=hcut.kt
  have dA:∀ O,(W.alloc O).cell? ⟨g,0,none⟩=some (.slice none 0 0):=fun O=>(hcut.below (xaI W O)).po.cells.1
  clear hcut HR3 HP1 c0 c1 c2 c3 hpl3 hne3 hW1 hWs hkb q1 HM0
  go_cut [] (fun wx=>∃ v',M1 w wx g w.heap.size kb (kb+1) z s v'∧xcM wx 0 v' [(z,s)]∧∀ b,v'.ownBlock=some b→b≠g∧b≠w.heap.size∧w.heap.size≤b)
  case first =>
   go_region_law (refine xfd rfl (.tmp 30) (.tmp 32) rfl (.slice none 0 0) [] (z,s) _ 1 (xlZ _ _) (xf9 _ (z,s) _) (by simp) (by simp[Act.eval,Act.put]) (by simp[Act.eval,Act.put]) ?_;intro v' w6 hown6 hgr6 hloc6;obtain⟨a6,n6,p6,rfl⟩:=hown6.form3;obtain⟨f2,hm2⟩:=HM.out.stepA (by go_grown) hown6 hgr6 hloc6;obtain⟨f0,f1,f3,f4⟩:=f2.cells)
   all_goals
    go_wp2_with fail
    go_meet
    case rel=>exact⟨_,hm2⟩
  case rest =>
   obtain⟨va',hm2,ho2,hn2⟩:=hcut
   generalize wc=W2 at *
   clear d0 d1 d2 d3 k0 k1 k2 dA
   have HM2:=lH (And.intro hm2 (And.intro ho2 hn2))
   have HLK:Hid (∀ X,Below W2.heap.size W2 X→(Instr.lookup 319 (.map (some (kb+1))) (.int .i64 (bkt s)) false).run Tryz.prog X=.ok (.slice none 0 0) X):=lH (fun X hX=>(hm2.mp.below hX).look (bkt s) hwf)
   have hl0:=HLK.out W2.drew (by go_grown)
   have hl1:=fun O=>HLK.out (W2.alloc O).drew (by go_grown)
   have hl2:=fun O=>HLK.out (W2.drew.alloc O) (by go_grown)
   obtain⟨d0,d1,d2,d3⟩:=hm2.po.cells
   obtain⟨k0,k1,k2⟩:=hm2.kt
   have dA:∀ O,(W2.alloc O).cell? ⟨g,1,none⟩=some (.map (some (kb+1))):=fun O=>(hm2.below (xaI W2 O)).po.cells.2.1
   clear hm2 ho2 hn2
   go_upto_region 5 with fail
   go_cut [] (fun wx=>∃ S,Pk wx g z s S∧Kept (fun b=>b=g) S w wx∧Two wx w.heap.size (.int .u64 0) (.int .u32 0)∧xc2 wx kb (z,s)∧¬ S w.heap.size)
   case first =>
    go_region_law (refine xfd rfl (.tmp 46) (.tmp 48) rfl (.slice none 0 0) [] (z,s) _ 1 (xlZ _ _) (xf9 _ (z,s) _) (by simp) (by simp[Act.eval,Act.put]) (by simp[Act.eval,Act.put]) ?_;intro v' w7 hown7 hgr7 hloc7;obtain⟨a7,n7,p7,rfl⟩:=hown7.form3;have h7:=HM2.out.1.later7 (by go_grown) hgr7;have f7:=h7.po.cells.2.1;obtain⟨w8,hup,hmap8,hgr8⟩:=h7.mp.put (by unfold maxLen;omega) (bkt s) hwf _ ⟨a7,n7,p7,rfl⟩;have hfin:=HM2.out.1.stepB HM2.out.2.1 HM2.out.2.2 (by go_grown) hown7 hgr7 hloc7 hmap8 hgr8;clear h7)
    all_goals
     go_wp2_with fail
     go_meet
     case rel=>exact hfin
   case rest =>
    obtain⟨S,hp2,hk2,ht2,h32,hr2⟩:=hcut
    generalize wc=W5 at *
    clear d0 d1 d2 d3 k0 k1 k2 dA hl0 hl1 hl2
    obtain⟨t0,t1,t2,t3⟩:=ht2
    obtain⟨k0,k1,k2⟩:=h32
    have HF:=lH (And.intro hp2 (And.intro hk2 hr2))
    have HT2:=lH (show Two W5 w.heap.size (.int .u64 0) (.int .u32 0) from ⟨t0,t1,t2,t3⟩)
    clear hp2 hk2 hr2
    go_wp2_with fail
    refine bodyPost_ret (xkP rfl _ _ w.heap.size _ _ _ rfl (HT2.out.set _ _).1 (HT2.out.set _ _).2.1 Tryz.underlying227 rfl xfA) rfl ⟨rfl,S,HF.out.1.set2 _ HF.out.2.2 _ _,HF.out.2.1.set2 _ (Nat.le_refl _) _ _⟩
theorem xrY (g z:Nat) (hz:z=0) (s:ByteArray) (w:World) (h:P0 w g (.slice none 0 0) (.map none)) (h0:0<s.size) (h1:s.size≤65536) :
  Calls Tryz.prog 130 #[.pointer (some ⟨g,0,none⟩),.string s] w fun e w'=>e=.returned (.tuple #[.agg #[.int .u64 (z:Nat),.int .u32 s.size],.bool true,.int .i64 0])∧∃ S,Pk w' g z s S∧Kept (fun b=>b=g) S w w':=by
 have hd:=xlr (s:=s) (by omega)
 have h6':¬ (65536:Int)<(s.size:Int):=by omega
 have hwk:(Lit.int .i64 (bkt s)).wf=true:=by have:=xf0 s;exact wf_i64 (by omega) (by omega)
 have hb0:=xaI w (.cells #[.int .u64 0,.int .u32 0] 227)
 have HT:=lH (And.intro (xf7 w (.int .u64 0) (.int .u32 0) 227) hb0)
 have HP:=lH h
 have HB:=lH (fun W=>xfa s (by unfold maxLen;omega) W)
 have HL:=lH (fun X (hX:Below (w.alloc (.cells #[.int .u64 0,.int .u32 0] 227)).heap.size (w.alloc (.cells #[.int .u64 0,.int .u32 0] 227)) X)=>xqE g _ (bkt s) hwk s X ((h.below hb0).below hX))
 have HZ:=lH hz
 clear h hb0 h0 hwk hz
 go_enter Tryz.func130,Tryz.ntmps130
 go_wp2_with fail
 generalize w.alloc (.cells #[.int .u64 0,.int .u32 0] 227)=W at *
 refine(HB.out _).mono ?_
 rintro e w1 ⟨rfl,hb1⟩
 have HB1:=lH hb1
 clear hb1
 go_wp2_with fail
 refine(HL.out _ HB1.out).mono ?_
 rintro e w2 ⟨rfl,hb2⟩
 have hbb:=HB1.out.trans (hb2.mono HB1.out.size)
 have h2:=HT.out.1.below hbb
 have hbw:=HT.out.2.trans (hbb.mono HT.out.2.size)
 have hp2:=HP.out.below hbw
 obtain⟨c0,c1,c2,c3⟩:=hp2.cells
 have hwl:w.heap.size<w2.heap.size:=h2.lt
 have hpn:g<w.heap.size:=HP.out.lt
 have hpn2:g≠w2.heap.size:=by omega
 have dA:∀ O,(w2.alloc O).cell? ⟨g,0,none⟩=some (.slice none 0 0):=fun O=>xan (xaI w2 O) c0
 have HX:=lH (fun O=>And.intro (hp2.below (xaI w2 O)) (And.intro (h2.alloc O) (hbw.alloc hbw.size O)))
 have HLA:=lH (fun O=>xtU (w2.alloc O) g z HZ.out s (hp2.below (xaI w2 O)) h1)
 clear hb2 hbb hbw h2 hp2
 go_wp2_with fail
 refine(HLA.out _).mono ?_
 rintro e w3 ⟨rfl,S,hp3,hk3⟩
 obtain⟨hx1,hx2,hx3⟩:=HX.out (.cells #[.int .u64 0,.int .u32 0] 227)
 have h3:=hx2.keep (hk3.same _ hx2.lt (by omega))
 have hnS3:¬ S w.heap.size:=fun hb=>by
  rcases hk3.own _ hb with h|h
  ·omega
  ·have:(w2.alloc (.cells #[.int .u64 0,.int .u32 0] 227)).heap.size=w2.heap.size+1:=by simp
   omega
 have H3:=lH h3
 have HP3:=lH (hp3.set2 w.heap.size hnS3)
 have HK3:=lH (((Kept.below (fun b=>b=g) hx3).trans hk3).set2 w.heap.size (Nat.le_refl _))
 obtain⟨k0,k1,k2,k3⟩:=h3
 clear hp3 hk3 hx1 hx2 hx3 HX HLA
 go_wp2_with fail
 refine bodyPost_ret (xf2 rfl _ _ w.heap.size _ _ _ _ _ rfl rfl rfl (H3.out.set _ _).1 (H3.out.set _ _).2.1 Tryz.underlying227 rfl xfA) rfl ⟨rfl,S,HP3.out _ _,HK3.out _ _⟩
theorem xoA (g z:Nat) (s:ByteArray) (S:Nat→Prop) (w:World) (h:Pk w g z s S) (hz:z=0) (hs:s.size≤65536) :
  Calls Tryz.prog 133 #[.pointer (some ⟨g,0,none⟩)] w fun e w'=>e=.returned (.string s)∧Below w.heap.size w w':=by
 obtain⟨va,gv,mb,h1,h2,h3,h4,h5⟩:=h
 obtain⟨al,cap,rfl,hcap,hmx,hc⟩:=h2.ktsAt
 obtain⟨ga,off,rfl,hg,l0,l1,l2⟩:=hc 0 (z,s) rfl
 simp only[Nat.zero_mul,Nat.add_zero,List.length_cons,List.length_nil,Nat.zero_add] at l0 l1 l2 h1 hcap
 have hb0:=xaI w (.cells #[.pointer none,.slice none 0 0] 254)
 have HN:=lH (xcr w (.cells #[.pointer none,.slice none 0 0] 254))
 have HE:=lH (xr0 g ga off cap z s (.map (some mb)) _ (h1.below hb0) hs hz ((hb0.cell (p:=⟨ga,off,none⟩) hg).trans l0) ((hb0.cell (p:=⟨ga,off+1,none⟩) hg).trans l1))
 have HP:=lH h1
 have HB0:=lH hb0
 have HC:=lH (fun X (hX:Below w.heap.size w X)=>And.intro (h1.below hX).cells (And.intro ((hX.cell (p:=⟨ga,off,none⟩) hg).trans l0) (And.intro ((hX.cell (p:=⟨ga,off+1,none⟩) hg).trans l1) ((hX.cell (p:=⟨ga,off+2,none⟩) hg).trans l2))))
 have hpl:=h1.lt
 have hw1:IntKind.i64.wrap (s.size:Int)=(s.size:Int):=by rw[IntKind.wrap_i64] <;> omega
 clear h1 h2 h3 h4 h5 hc l0 l1 l2 hb0
 go_enter Tryz.func133,Tryz.ntmps133
 go_wp2_with fail
 generalize hW:w.alloc (.cells #[.pointer none,.slice none 0 0] 254)=W at *
 have hWs:W.heap.size=w.heap.size+1:=by rw[← hW];simp
 refine HE.out.mono ?_
 rintro e w1 ⟨rfl,hb1⟩
 have HB1:=lH hb1
 have hg1:w1.heap[w.heap.size]?=_:=(hb1.block w.heap.size (by omega)).trans HN.out
 have hbw1:=HB0.out.trans (hb1.mono HB0.out.size)
 have HG:=lH (xjX w.heap.size w.heap.size s.size w1 (Nat.le_refl _) hg1 hbw1.size (by omega))
 have HBW1:=lH hbw1
 clear hb1 hg1 hbw1 HE
 go_wp2_with fail
 refine HG.out.mono ?_
 rintro e w2 ⟨rfl,hbt,hb2⟩
 have hbw2:=HBW1.out.trans hb2
 have HBT:=lH hbt
 have HBW2:=lH hbw2
 obtain⟨⟨c0,c1,c2,c3⟩,l0,l1,l2⟩:=HC.out _ hbw2
 clear hb2 hbt hbw2 HG HBW1
 go_wp2_with fail
 refine wp_loop_rounds 2 ?_
 rw[rounds_succ]
 have HWR:=lH (fun X (hX:xcO X w.heap.size w.heap.size []) (hs2:w.heap.size≤X.heap.size)=>xca w.heap.size w.heap.size _ s X hX (by simp;omega) hs2)
 go_wp2_with fail
 refine(HWR.out _ (HBT.out.alloc _) (by have:=HBW2.out.size;simp;omega)).mono ?_
 rintro e w3 ⟨rfl,hb3,hbel⟩
 have hfin:Below w.heap.size w w3:=(HBW2.out.alloc HBW2.out.size _).trans hbel
 have HS:=lH (xlE w.heap.size w.heap.size _ w3 hb3 hfin.size)
 have HF:=lH hfin
 clear hb3 hbel hfin l0 l1 l2 c0 c1 c2 c3
 go_wp2_with fail
 rw[rounds_succ]
 go_wp2_with fail
 refine HS.out.mono ?_
 rintro e w4 ⟨rfl,hb4⟩
 have hfin:=HF.out.trans hb4
 clear hb4 HS
 go_wp2_with fail
 go_ret
 exact⟨by simp,hfin⟩
end Go.Proofs.YtjinnigjfopbcaaGreatDoor
namespace Go.Proofs.YtjinnigjfopbcaaGreatDoor
set_option linter.unusedVariables false
set_option linter.unusedSimpArgs false
open Go.RowKit Go.Shelf
set_option maxRecDepth 20000
def PL (W:World) (g z:Nat) (s:ByteArray) (n:Nat) (S:Nat→Prop):Prop:=(n=0∧P0 W g (.slice none 0 0) (.map none)∧∀ b,S b↔b=g)∨(n≠0∧Pk W g z s S)
theorem PL.lt {W:World} {g z:Nat} {s:ByteArray} {n:Nat} {S:Nat→Prop} (h:PL W g z s n S):∀ b,S b→b<W.heap.size:=by
 intro b hb
 rcases h with ⟨_,h,h2⟩|⟨_,h⟩
 ·rw[(h2 b).1 hb];exact h.lt
 ·exact h.lt b hb
theorem PL.keep {W W':World} {g z:Nat} {s:ByteArray} {n:Nat} {S:Nat→Prop} (h:PL W g z s n S) (hk:∀ b,S b→W'.heap[b]?=W.heap[b]?):PL W' g z s n S:=by
 rcases h with ⟨h0,h,h2⟩|⟨h0,h⟩
 ·exact .inl ⟨h0,h.keep (hk g ((h2 g).2 rfl)),h2⟩
 ·exact .inr ⟨h0,h.keep hk⟩
theorem PL.norec {W:World} {g z:Nat} {s:ByteArray} {n:Nat} {S:Nat→Prop} (h:PL W g z s n S) {b:Nat} (hb:S b) {o:Obj} (ho:W.heap[b]?=some o):xcY o=false:=by
 rcases h with ⟨_,⟨T,h⟩,h2⟩|⟨_,h⟩
 ·rw[(h2 b).1 hb,h] at ho;cases ho;rfl
 ·exact h.norec hb ho
def xiq (bl:Nat) (vo:Value) (Sp:Nat→Prop) (b:Nat):Prop:=b=bl∨vo.ownBlock=some b∨Sp b
structure RwQ (w:World) (B bp bl:Nat) (gp z:Nat) (s:ByteArray) (rows:List En) (n:Nat) (vo:Value) (Sp:Nat→Prop) (W:World):Prop where
 bxp:One W bp (.pointer (some ⟨gp,0,none⟩))
 bxl:One W bl vo
 out:xaQ W B 74 vo rows
 pool:PL W gp z s n Sp
 np:¬ Sp bp
 nl:¬ Sp bl
 no:∀ b,vo.ownBlock=some b→¬ Sp b
 npl:bp≠bl
 bas:∀ b,Sp b→B≤b
 bll:B≤bl
 bel:Below B w W
section
variable {w:World} {B bp bl:Nat} {gp z:Nat} {s:ByteArray} {rows:List En} {n:Nat} {vo:Value} {Sp:Nat→Prop} {W W':World}
theorem RwQ.lt (h:RwQ w B bp bl gp z s rows n vo Sp W):∀ b,xiq bl vo Sp b→b<W.heap.size:=by
 rintro b (rfl|hb|hb)
 ·exact h.bxl.lt
 ·exact(h.out.lt b hb).2
 ·exact h.pool.lt b hb
theorem RwQ.low (h:RwQ w B bp bl gp z s rows n vo Sp W):∀ b,xiq bl vo Sp b→B≤b:=by
 rintro b (rfl|hb|hb)
 ·exact h.bll
 ·exact(h.out.lt b hb).1
 ·exact h.bas b hb
theorem RwQ.keep (h:RwQ w B bp bl gp z s rows n vo Sp W) (hs:W.heap.size≤W'.heap.size) (hk:∀ b,b=bp∨xiq bl vo Sp b→W'.heap[b]?=W.heap[b]?) (hb:Below B w W'):RwQ w B bp bl gp z s rows n vo Sp W' :=
 ⟨h.bxp.keep (hk _ (.inl rfl)),h.bxl.keep (hk _ (.inr (.inl rfl))),h.out.keep (fun k hv=>hk k (.inr (.inr (.inl hv)))),h.pool.keep (fun b hS=>hk b (.inr (.inr (.inr hS)))),h.np,h.nl,h.no,h.npl,h.bas,h.bll,hb⟩
theorem RwQ.below (h:RwQ w B bp bl gp z s rows n vo Sp W) (hb:Below W.heap.size W W') (hB:B≤W.heap.size):RwQ w B bp bl gp z s rows n vo Sp W' :=
 h.keep hb.size (fun b hk=>hb.block b (by rcases hk with rfl|hk;exact h.bxp.lt;exact h.lt b hk)) (h.bel.trans (hb.mono hB))
theorem RwQ.size (h:RwQ w B bp bl gp z s rows n vo Sp W):B≤W.heap.size:=Nat.le_of_lt (Nat.lt_of_le_of_lt h.bll h.bxl.lt)
theorem RwQ.later (h:RwQ w B bp bl gp z s rows n vo Sp W) (hb:Below W.heap.size W W'):RwQ w B bp bl gp z s rows n vo Sp W':=h.below hb h.size
theorem RwQ.add {n':Nat} {Sp':Nat→Prop} (h:RwQ w B bp bl gp z s rows n vo Sp W) (hp:PL W' gp z s n' Sp') (hk:Kept Sp Sp' W W'):RwQ w B bp bl gp z s rows n' vo Sp' W'∧KeepsS (xiq bl vo Sp) (xiq bl vo Sp') W W':=by
 refine⟨⟨h.bxp.keep (hk.same _ h.bxp.lt h.np),h.bxl.keep (hk.same _ h.bxl.lt h.nl),h.out.keep (fun k hv=>hk.same k (h.out.lt k hv).2 (h.no k hv)),hp,fun hb=>?_,fun hb=>?_,fun b hv hb=>?_,h.npl,fun b hb=>?_,h.bll,Below.kept h.bel hk h.bas h.size⟩,⟨hk.size,fun b o hb ho=>?_,fun b hb=>?_⟩⟩
 ·rcases hk.own _ hb with hq|hq
  ·exact h.np hq
  ·have:=h.bxp.lt;omega
 ·rcases hk.own _ hb with hq|hq
  ·exact h.nl hq
  ·have:=h.bxl.lt;omega
 ·rcases hk.own _ hb with hq|hq
  ·exact h.no b hv hq
  ·have:=(h.out.lt b hv).2;omega
 ·rcases hk.own _ hb with hq|hq
  ·exact h.bas b hq
  ·exact Nat.le_trans h.size hq
 ·exact(hk.same b (xay ho) (fun hq=>hb (.inr (.inr hq)))).trans ho
 ·rcases hb with rfl|hb|hb
  ·exact .inl (.inl rfl)
  ·exact .inl (.inr (.inl hb))
  ·rcases hk.own _ hb with hq|hq
   ·exact .inl (.inr (.inr hq))
   ·exact .inr hq
theorem RwQ.row {rows':List En} (h:RwQ w B bp bl gp z s rows n vo Sp W) (ho:xaQ W' B 74 vo rows') (hg:W.grownBy W' vo.ownBlock):RwQ w B bp bl gp z s rows' n vo Sp W':=by
 have hbp:=xby h.out h.bxp
 have hbl:=xby h.out h.bxl
 exact⟨h.bxp.keep (hg.block _ h.bxp.lt (fun e=>hbp e.symm)),h.bxl.keep (hg.block _ h.bxl.lt (fun e=>hbl e.symm)),ho,h.pool.keep (fun b hS=>hg.block b (h.pool.lt b hS) (fun e=>h.no b e.symm hS)),h.np,h.nl,h.no,h.npl,h.bas,h.bll,h.bel.grown hg h.size (fun k hk=>(h.out.lt k hk).1)⟩
theorem xiI {S:Nat→Prop} {X Y:World} {r:Option Nat} (h:X.grownBy Y r) (hr:∀ k,r=some k→S k):KeepsS S S X Y :=
 ⟨h.size,fun b o hb ho=>(h.block b (xay ho) (fun e=>hb (hr b e.symm))).trans ho,fun _ h=>.inl h⟩
theorem RwQ.run {r:List En} {a:En} {g cap:Nat} (h:RwQ w B bp bl gp z s (r++[a]) n (.slice (some ⟨g,0,none⟩) (r.length+1) cap) Sp W) (x:Int) :
  RwQ w B bp bl gp z s (r++[{ a with rn:=x }]) n (.slice (some ⟨g,0,none⟩) (r.length+1) cap) Sp (W.setCell ⟨g,r.length*4+3,none⟩ (.int .u32 x))∧KeepsS (xiq bl (.slice (some ⟨g,0,none⟩) (r.length+1) cap) Sp) (xiq bl (.slice (some ⟨g,0,none⟩) (r.length+1) cap) Sp) W (W.setCell ⟨g,r.length*4+3,none⟩ (.int .u32 x)):=by
 obtain⟨h1,h2⟩:=xrk h.out x
 exact⟨h.row h1 h2,xiI h2 (fun k e=>.inr (.inl e))⟩
theorem RwQ.app {rows':List En} {v':Value} (h:RwQ w B bp bl gp z s rows n vo Sp W) (ho:xaQ W' B 74 v' rows') (hg:W.grownBy W' vo.ownBlock) (hl:v'.ownBlock=vo.ownBlock∨∃ g,v'.ownBlock=some g∧W.heap.size≤g) :
  RwQ w B bp bl gp z s rows' n v' Sp (W'.setCell ⟨bl,0,none⟩ v')∧KeepsS (xiq bl vo Sp) (xiq bl v' Sp) W (W'.setCell ⟨bl,0,none⟩ v'):=by
 have hbp:=xby h.out h.bxp
 have hbl:=xby h.out h.bxl
 have hp1:=h.bxp.keep (w':=W') (hg.block _ h.bxp.lt (fun e=>hbp e.symm))
 have hl1:=h.bxl.keep (w':=W') (hg.block _ h.bxl.lt (fun e=>hbl e.symm))
 have hbl':=xby ho hl1
 have hset:∀ b,b≠bl→(W'.setCell ⟨bl,0,none⟩ v').heap[b]?=W'.heap[b]?:=fun b hb=>Below.heap_setCell _ _ _ _ (by simpa using hb)
 have hsz:(W'.setCell ⟨bl,0,none⟩ v').heap.size=W'.heap.size:=by simp
 refine⟨⟨hp1.set_other h.npl v',hl1.set v',ho.keep (fun k hk=>hset k (fun e=>hbl' (by rw[hk,e]))),h.pool.keep (fun b hS=>(hset b (fun e=>h.nl (e ▸ hS))).trans (hg.block b (h.pool.lt b hS) (fun e=>h.no b e.symm hS))),h.np,h.nl,fun b hv hS=>?_,h.npl,h.bas,h.bll,(h.bel.grown hg h.size (fun k hk=>(h.out.lt k hk).1)).setCell (p:=⟨bl,0,none⟩) h.bll v'⟩,⟨by rw[hsz];exact hg.size,fun b o hb hq=>?_,fun b hb=>?_⟩⟩
 ·rcases hl with hl|⟨g,hl,hge⟩
  ·exact h.no b (by rw[← hl];exact hv) hS
  ·rw[hv] at hl
   cases hl
   have:=h.pool.lt b hS
   omega
 ·exact(hset b (fun e=>hb (.inl e))).trans ((hg.block b (xay hq) (fun e=>hb (.inr (.inl e.symm)))).trans hq)
 ·rcases hb with rfl|hb|hb
  ·exact .inl (.inl rfl)
  ·rcases hl with hl|⟨g,hl,hge⟩
   ·exact .inl (.inr (.inl (by rw[← hl];exact hb)))
   ·rw[hb] at hl
    cases hl
    exact .inr hge
  ·exact .inl (.inr (.inr hb))
theorem RwQ.grown {row:Option Nat} (h:RwQ w B bp bl gp z s rows n vo Sp W) (hg:W.grownBy W' row) (hrow:∀ r,row=some r→B≤r∧∃ o:Obj,W.heap[r]?=some o∧xcY o=true):RwQ w B bp bl gp z s rows n vo Sp W':=by
 have hne:∀ b o,W.heap[b]?=some o→xcY o=false→row≠some b:=fun b o ho hn e=>by
  obtain⟨_,o',ho',hy⟩:=hrow b e
  rw[ho] at ho'
  cases ho'
  rw[hn] at hy
  cases hy
 refine h.keep hg.size (fun b hb=>?_) (h.bel.grown hg h.size (fun r e=>(hrow r e).1))
 rcases hb with rfl|rfl|hb|hb
 ·obtain⟨T,hh⟩:=h.bxp
  exact hg.block _ (xay hh) (fun e=>hne _ _ hh rfl e.symm)
 ·obtain⟨T,hh⟩:=h.bxl
  exact hg.block _ (xay hh) (fun e=>hne _ _ hh rfl e.symm)
 ·obtain⟨_,_,_,hh⟩:=h.out.cells hb
  exact hg.block _ (xay hh) (fun e=>hne _ _ hh rfl e.symm)
 ·have hlt:=h.pool.lt b hb
  have ho:=Array.getElem?_eq_getElem hlt
  exact hg.block _ hlt (fun e=>hne _ _ ho (h.pool.norec hb ho) e.symm)
end
attribute [local go_sem] Oper.semAt_some
def xgCq (i z:Nat) (s:ByteArray):Nat→List En
 | 0=>[]
 | k+1=>[⟨i,z,s.size,((k+1:Nat):Int)⟩]
def RwJ (w:World) (B bp bl gp z:Nat) (s:ByteArray) (i k:Nat) (S:Nat→Prop) (W:World):Prop :=
 ∃ vo Sp,RwQ w B bp bl gp z s (xgCq i z s k) k vo Sp W∧∀ b,S b↔xiq bl vo Sp b
theorem xpV (w:World) (B bp bl gp z:Nat) (s:ByteArray) (i B':Nat) (hB:B≤B'):xdD (fun _=>False) B' (RwJ w B bp bl gp z s i):=by
 rintro⟨k,S⟩ X Y row ⟨vo,Sp,h,hS⟩ hg hr
 refine⟨vo,Sp,h.grown hg (fun r e=>?_),hS⟩
 rcases hr r e with h|h
 ·exact h.elim
 ·exact⟨Nat.le_trans hB h.1,h.2⟩
theorem RwJ.lt {w:World} {B bp bl gp z:Nat} {s:ByteArray} {i k:Nat} {S:Nat→Prop} {W:World} (h:RwJ w B bp bl gp z s i k S W):∀ b,S b→b<W.heap.size:=by
 obtain⟨vo,Sp,h,hS⟩:=h
 exact fun b hb=>h.lt b ((hS b).1 hb)
theorem xqy (a:Option Addr) (n c:Nat) (w:World) :
  Calls Tryz.prog 129 #[.agg #[.slice a n c]] w fun e w'=>e=.returned (.func (.func 205) #[] #[.pointer (some ⟨w.heap.size,0,none⟩)])∧w'.cell? ⟨w.heap.size,0,none⟩=some (.slice a n c)∧Below w.heap.size w w':=by
 go_enter Tryz.func129,Tryz.ntmps129
 go_wp2_with fail
 go_ret
 exact⟨rfl,by simp[go_sem],by go_grown⟩
set_option maxRecDepth 100000 in
theorem xrt (sv:Value) (L:List It) (i n z:Nat) (s:ByteArray) (w:World) (h:ItsAt w sv L) (hz:z=0) (hn:1≤n) (hn2:n≤1000) (hi:i≤6004799503150000) (h0:0<s.size) (h1:s.size≤65536) (hLn:L.length=n) (hLk:∀ k,k<n→L[k]?=some (i+k,s))
  (HA:∀ k,1≤k→k<n→∀ g S W,Pk W g z s S→Calls Tryz.prog 130 #[.pointer (some ⟨g,0,none⟩),.string s] W fun e w'=>e=.returned (.tuple #[.agg #[.int .u64 (z:Nat),.int .u32 s.size],.bool false,.int .i64 0])∧Below W.heap.size W w')
  (HO:∀ k,1≤k→k<n→∀ v W,xaj W v (xgCq i z s k)→Calls Tryz.prog 131 #[v,.agg (eC ⟨((i+k:Nat):Int),z,s.size,1⟩),.func (.func 132) #[] #[]] W fun e w'=>e=.returned (.bool true)∧Below W.heap.size W w') :
  Calls Tryz.prog 67 #[.agg #[sv]] w fun e w'=>∃ v',e=.returned (.tuple #[v',.string s])∧xaj w' v' (xgCq i z s n)∧Below w.heap.size w w':=by
 have HCH:=lH h
 have HVC:Hid (∀ b a n c,L≠[]→sv=.slice (some a) n c→b=a.block→b<w.heap.size):=lH (fun b a n c hl e hb=>by
  obtain⟨a',cap,e',_,_,hc⟩:=h
  rw[e] at e'
  cases e'
  obtain⟨t0,ht0⟩:∃ t,L[0]?=some t:=⟨_,List.getElem?_eq_getElem (by cases L with|nil=>exact absurd rfl hl|cons _ _=>simp)⟩
  obtain⟨g,off,ha,hg,_⟩:=hc 0 t0 ht0
  cases ha
  rw[hb]
  exact hg)
 have HHA:=lH HA
 have HHO:=lH HO
 have HLK:=lH hLk
 have HLN:=lH hLn
 have HZ:=lH hz
 clear HA HO hLk hLn hz
 obtain⟨a7,n7,p7,rfl⟩:∃ a n c,sv=.slice a n c:=by
  obtain⟨a',cap,e',_⟩:=h
  exact⟨_,_,_,e'⟩
 clear h
 refine(callsIn_wide (n:=10)).1 ?_
 refine callsIn_of_wp_marks Tryz.func67 rfl trivial ?_ rfl
 simp only[Tryz.ntmps67,List.size_toArray,List.length_cons,List.length_nil,Nat.reduceAdd,Nat.reduceSub,Array.replicate_succ,Array.replicate_zero,List.push_toArray,List.append_toArray,List.nil_append,List.cons_append]
 have HB0:Hid (Below w.heap.size w (w.alloc (.cells #[.slice a7 n7 p7] 36))):=lH (xah _ _)
 have HC0:=lH (xbn w (.slice a7 n7 p7) 36)
 have HNW:=lH (xuf (w.alloc (.cells #[.slice a7 n7 p7] 36)))
 gi_wp2
 generalize hW0:w.alloc (.cells #[.slice a7 n7 p7] 36)=W0 at *
 refine⟨trivial,(callsIn_wide.2 HNW.out).mono ?_⟩
 rintro y w1 ⟨gp,rfl,hgp,hpool,hb1⟩
 have HBW1:=lH (HB0.out.trans (hb1.mono HB0.out.size))
 have HC1:=lH (HC0.out.below hb1)
 have HP1:=lH hpool
 have hgw:w.heap.size≤gp:=Nat.le_trans HB0.out.size hgp
 have hgl:=hpool.lt
 have HEA:=lH (fun X (hX:Below w.heap.size w X)=>xqy a7 n7 p7 X)
 have cc:=HC1.out.cell
 have hlc:w.heap.size<w1.heap.size:=HC1.out.lt
 clear hpool hgp hb1 hW0 HB0 HC0 HNW
 gi_wp2
 obtain⟨W2,hW2⟩:∃ W2,(w1.alloc (.cells #[.pointer (some ⟨gp,0,none⟩)] 221)).alloc (.cells #[.slice none 0 0] 27)=W2:=⟨_,rfl⟩
 have hz2:w1.heap.size+2≤W2.heap.size:=by rw[← hW2];simp
 have hb12:Below w1.heap.size w1 W2:=by rw[← hW2];go_grown
 have HBp:One W2 w1.heap.size (.pointer (some ⟨gp,0,none⟩)):=by rw[← hW2];exact(xbn w1 _ _).alloc _
 have HBl:One W2 (w1.heap.size+1) (.slice none 0 0):=by
  have h:=xbn (w1.alloc (.cells #[.pointer (some ⟨gp,0,none⟩)] 221)) (.slice none 0 0) 27
  rw[World.size_alloc] at h
  rw[← hW2]
  exact h
 try rw[hW2]
 have hbw2:Below w.heap.size w W2:=HBW1.out.trans (hb12.mono HBW1.out.size)
 have HR2:Hid (RwQ w w.heap.size w1.heap.size (w1.heap.size+1) gp z s (xgCq i z s 0) 0 (.slice none 0 0) (fun b=>b=gp) W2):=lH
  ⟨HBp,HBl,xaU _ _ _,.inl ⟨rfl,HP1.out.below hb12,fun b=>Iff.rfl⟩,(by omega),(by omega),(fun b h=>by cases h),by omega,(fun b hb=>by rw[hb];exact hgw),by omega,hbw2⟩
 refine⟨trivial,(callsIn_wide.2 (HEA.out _ hbw2)).mono ?_⟩
 rintro y w3 ⟨rfl,hcell,hb3⟩
 have hR3:=HR2.out.later hb3
 have HITS:=lH (HCH.out.below (hbw2.trans (hb3.mono hbw2.size)))
 have hz3:=hb3.size
 have hVV:∀ b,VC W2.heap.size (.slice a7 n7 p7) L b→b<w3.heap.size∧(b=W2.heap.size∨b<w.heap.size):=fun b hb=>by
  rcases hb with rfl|⟨hl,a,n,c,e,hb⟩
  ·exact⟨xbh hcell,.inl rfl⟩
  ·have:=HVC.out b a n c hl e hb
   exact⟨by omega,.inr this⟩
 have HCE:=lH hcell
 have HR3:=lH hR3
 have HVV:=lH hVV
 clear hcell hR3 hVV hW2 HBp HBl hb12 HR2 HP1 HC1 HEA cc
 gi_wp2
 refine xlU (n:=10) (val:=fun k=>.int .u64 (idC L k)) (va2:=fun k=>.string (txC L k)) (r:=6) (s:=7) rfl (enters_of Tryz.func205 (by kernel_rfl) rfl) (xnZ (.slice a7 n7 p7) L W2.heap.size w3 HITS.out HCE.out).toY (Below.refl _ _) (fun _ h=>h.elim) (fun b hb=>(HVV.out b hb).1)
  (RwJ w w.heap.size w1.heap.size (w1.heap.size+1) gp z s i) (fun _ _ _=>False) ?hI (fun _ _ _ _ _ h _ _=>h) (fun k S W h=>⟨trivial,h.lt⟩) (xiq (w1.heap.size+1) (.slice none 0 0) (fun b=>b=gp)) ?hS0 ?h0 (fun _ _ _ _ _ _ _ _=>trivial) (fun _ _ _ _ _ _ _ _ _=>trivial) ?assign ?body ?done (fun _ _ _ _ _ _ h _=>h.elim)
 case hI=>exact xpV w w.heap.size w1.heap.size (w1.heap.size+1) gp z s i w3.heap.size HR3.out.size
 case hS0 =>
  intro b hb
  refine⟨HR3.out.lt b hb,fun hv=>?_⟩
  have h1:=HR3.out.low b hb
  rcases(HVV.out b hv).2 with rfl|h2
  ·rcases hb with hb|hb|hb
   ·omega
   ·cases hb
   ·omega
  ·omega
 case h0=>exact⟨_,_,HR3.out,fun b=>Iff.rfl⟩
 case assign =>
  intro lq k W' K hK
  simp only[List.setIfInBounds_toArray,List.set_cons_zero,List.set_cons_succ] at hK ⊢
  gi_wp2
  exact hK
 case body =>
  rintro lq k S W hlq ⟨vo,Sq,hR,hS⟩ - hk
  rw[HLN.out] at hk
  have htk:=HLK.out k hk
  have hidk:idC L k=((i+k:Nat):Int):=by unfold idC;rw[List.getD_eq_getElem?_getD,htk];rfl
  have htxk:txC L k=s:=by unfold txC;rw[List.getD_eq_getElem?_getD,htk];rfl
  have hS':S=xiq (w1.heap.size+1) vo Sq:=funext fun b=>propext (hS b)
  subst hS'
  obtain⟨bN,lo,HAD,HAH,HLT,HLF⟩:∃ bN lo:Bool,Hid (Calls Tryz.prog 130 #[.pointer (some ⟨gp,0,none⟩),.string s] W fun e w'=>e=.returned (.tuple #[.agg #[.int .u64 (z:Nat),.int .u32 s.size],.bool bN,.int .i64 0])∧∃ S',PL w' gp z s (k+1) S'∧Kept Sq S' W w') ∧
    Hid (∀ X,xaj X vo (xgCq i z s k)→Calls Tryz.prog 131 #[vo,.agg (eC ⟨((i+k:Nat):Int),z,s.size,1⟩),.func (.func 132) #[] #[]] X fun e w'=>e=.returned (.bool lo)∧Below X.heap.size X w') ∧
    Hid (lo=true→∃ r a,xgCq i z s k=r++[a]∧xgCq i z s (k+1)=r++[{ a with rn:=a.rn+1 }]∧r.length≤1∧a.rn≤2048∧0≤a.rn)∧Hid (lo=false→xgCq i z s (k+1)=xgCq i z s k++[⟨((i+k:Nat):Int),z,s.size,1⟩]):=by
   cases k with
   | zero =>
    refine⟨true,false,lH ?_,lH ?_,lH (fun h=>by cases h),lH (fun _=>rfl)⟩
    ·rcases hR.pool with ⟨_,hp,hq⟩|⟨h,_⟩
     ·have hq':Sq=fun b=>b=gp:=funext fun b=>propext (hq b)
      subst hq'
      refine(xrY gp z HZ.out s W hp h0 h1).mono ?_
      rintro e w' ⟨he,S',h1,h2⟩
      exact⟨he,S',.inr ⟨by omega,h1⟩,h2⟩
     ·exact absurd rfl h
    ·intro X hX
     obtain⟨a0,c0,rfl,_,_,hc⟩:=hR.out.ensAt
     exact xnH a0 c0 _ _ _
   | succ j =>
    refine⟨false,true,lH ?_,lH (fun X hX=>HHO.out (j+1) (by omega) hk vo X hX),lH (fun _=>⟨[],_,rfl,by simp[xgCq],by simp,by simp;omega,by simp;omega⟩),lH (fun h=>by cases h)⟩
    rcases hR.pool with ⟨h,_⟩|⟨_,hp⟩
    ·exact absurd h (by omega)
    ·refine(HHA.out (j+1) (by omega) hk gp Sq W hp).mono ?_
     rintro e w' ⟨he,hb⟩
     exact⟨he,Sq,.inr ⟨by omega,hp.below hb⟩,Kept.below _ hb⟩
  obtain⟨e1,he1⟩:∃ e1:En,e1=⟨((i+k:Nat):Int),z,s.size,1⟩:=⟨_,rfl⟩
  obtain⟨x,hx⟩:∃ x:Nat,i+k=x:=⟨_,rfl⟩
  rw[hx] at hidk HAH he1 HLF
  rw[← he1] at HLF
  unfold eC at HAH
  have HE1:=lH he1
  have HRL:Hid ((xgCq i z s k).length≤1):=lH (by cases k <;> simp[xgCq])
  obtain⟨rows,hrows⟩:∃ rows,xgCq i z s k=rows:=⟨_,rfl⟩
  rw[hrows] at hR HAH HLT HLF HRL
  obtain⟨av,cv,hvo⟩:∃ a c,vo=.slice a rows.length c:=by
   obtain⟨a,c,h,_⟩:=hR.out.ensAt
   exact⟨a,c,h⟩
  subst hvo
  have HR:=lH hR
  have c1:=hR.bxp.cell
  have hlb:=hR.bxl.lt
  have hlp:=hR.bxp.lt
  rw[hidk,htxk]
  clear hidk htxk hR hrows htk he1 hx hS
  simp only[List.setIfInBounds_toArray,List.set_cons_zero,List.set_cons_succ]
  gi_wp2
  refine⟨trivial,(CallsIn.inRound lq (callsIn_wide.2 HAD.out)).mono ?_⟩
  rintro y w4 ⟨rfl,Sr,hp4,hk4⟩
  have hr4:=HR.out.add hp4 hk4
  have HR4:=lH hr4.1
  have HK4:=lH hr4.2
  have c4:=hr4.1.bxl.cell
  have c4a:∀ O,(w4.alloc O).cell? ⟨w1.heap.size+1,0,none⟩=_:=fun O=>(hr4.1.bxl.alloc O).cell
  have c4b:∀ O O',((w4.alloc O).alloc O').cell? ⟨w1.heap.size+1,0,none⟩=_:=fun O O'=>((hr4.1.bxl.alloc O).alloc O').cell
  clear hp4 hk4 hr4 c1 hlb hlp HAD HR
  gi_wp2
  have HE5:=lH (EAt.made (w4.alloc (.cells #[.int .u64 (z:Nat),.int .u32 (s.size:Nat)] 227)) e1 74)
  have hb45:Below w4.heap.size w4 ((w4.alloc (.cells #[.int .u64 (z:Nat),.int .u32 (s.size:Nat)] 227)).alloc (.cells #[.int .u64 (x:Nat),.int .u64 (z:Nat),.int .u32 (s.size:Nat),.int .u32 1] 74)):=by go_grown
  rw[HE1.out] at HE5
  unfold eC at HE5
  dsimp only at HE5
  rw[World.size_alloc] at HE5
  have HB45:=lH hb45
  clear c4 c4a c4b hb45
  generalize hW5:(w4.alloc (.cells #[.int .u64 (z:Nat),.int .u32 (s.size:Nat)] 227)).alloc (.cells #[.int .u64 (x:Nat),.int .u64 (z:Nat),.int .u32 (s.size:Nat),.int .u32 1] 74)=W5 at *
  refine⟨trivial,(CallsIn.inRound lq (callsIn_wide.2 (HAH.out _ (HR4.out.later HB45.out).out.ensAt))).mono ?_⟩
  rintro y w6 ⟨rfl,hb6⟩
  have hb46:=HB45.out.trans (hb6.mono HB45.out.size)
  have HR6:=lH (HR4.out.later hb46)
  have HK6:=lH (HK4.out.trans (KeepsS.below _ hb46))
  have he6:=HE5.out.later hb6
  obtain⟨k0,k1,k2,k3⟩:=he6
  dsimp only at k0 k1 k2 k3
  clear hb6 hb46 hW5 HR4 HK4 HB45 HAH HE5
  cases lo with
  | true =>
   obtain⟨r,a,rfl,hadd,hrl,hra,hma⟩:=HLT.out rfl
   have hlt:(r++[a]).length=r.length+1:=by simp
   rw[hlt] at HR6 HK6 ⊢
   obtain⟨go,hu,hcn,hfz⟩:∃ go,av=some ⟨go,0,none⟩∧w6.cell? ⟨go,r.length*4+3,none⟩=some (.int .u32 a.rn)∧w6.frozen? ⟨go,r.length*4+3,none⟩=false:=by
    rcases HR6.out.out.form with ⟨_,h⟩|⟨go,c,h,_,_,_,_,_,hf⟩
    ·simp at h
    ·have hav:av=some ⟨go,0,none⟩:=by injection h
     refine⟨go,hav,?_,hf _⟩
     obtain⟨a',c',e,_,_,hcc⟩:=HR6.out.out.ensAt
     have ha':a'=some ⟨go,0,none⟩:=by
      injection e with e' _ _
      rw[← e',hav]
     obtain⟨g',o',e2,_,hq⟩:=hcc r.length a (by simp)
     rw[ha'] at e2
     cases e2
     simpa using hq.2.2.2
   subst hu
   have hrun:=HR6.out.run (a.rn+1)
   have HN:Hid (RwJ w w.heap.size w1.heap.size (w1.heap.size+1) gp z s i (k+1) (xiq (w1.heap.size+1) (.slice (some ⟨go,0,none⟩) (r.length+1) cv) Sr) (w6.setCell ⟨go,r.length*4+3,none⟩ (.int .u32 (a.rn+1)))∧KeepsS (xiq (w1.heap.size+1) (.slice (some ⟨go,0,none⟩) (r.length+1) cv) Sq) (xiq (w1.heap.size+1) (.slice (some ⟨go,0,none⟩) (r.length+1) cv) Sr) W (w6.setCell ⟨go,r.length*4+3,none⟩ (.int .u32 (a.rn+1)))):=lH
    ⟨⟨_,_,by rw[hadd];exact hrun.1,fun b=>Iff.rfl⟩,HK6.out.trans hrun.2⟩
   have c6:=HR6.out.bxl.cell
   have hi1:IntKind.i64.wrap ((r.length:Int)+1 - 1)=(r.length:Int):=by rw[IntKind.wrap_i64];omega
   have hi2:IntKind.i64.wrap (r.length:Int)=(r.length:Int):=by rw[IntKind.wrap_i64];omega
   have hi3:(r.length:Int)<(r.length:Int)+1:=by omega
   have hi4:IntKind.u32.wrap (a.rn+1)=a.rn+1:=by rw[IntKind.wrap_u32];omega
   clear hrun hadd hlt HR6 HK6 HLT HLF HRL
   generalize r.length=rl at *
   gi_wp2
   exact⟨_,HN.out⟩
  | false =>
   have hadd:=HLF.out rfl
   have hrl:=HRL.out
   have hba:Below w6.heap.size w6 (w6.alloc (.cells (eC e1) 74)):=xah _ _
   have hr7:=HR6.out.later hba
   have hea:=EAt.made w6 e1 74
   obtain⟨v8,w8,hr8,ho8,hg8,hl8⟩:=xjR (w6.alloc (.cells (eC e1) 74)) 27 w.heap.size (.slice av rows.length cv) rows e1 w6.heap.size 1 hr7.out hea (by omega) hr7.size
   have hb8:One w8 (w1.heap.size+1) (.slice av rows.length cv):=hr7.bxl.keep (hg8.block _ hr7.bxl.lt (fun e=>xby hr7.out hr7.bxl e.symm))
   have happ:=hr7.app ho8 hg8 hl8
   have HN:Hid (RwJ w w.heap.size w1.heap.size (w1.heap.size+1) gp z s i (k+1) (xiq (w1.heap.size+1) v8 Sr) (w8.setCell ⟨w1.heap.size+1,0,none⟩ v8)∧KeepsS (xiq (w1.heap.size+1) (.slice av rows.length cv) Sq) (xiq (w1.heap.size+1) v8 Sr) W (w8.setCell ⟨w1.heap.size+1,0,none⟩ v8)):=lH
    ⟨⟨_,_,by rw[hadd];exact happ.1,fun b=>Iff.rfl⟩,(HK6.out.trans (KeepsS.below _ hba)).trans happ.2⟩
   obtain⟨a8,n8,p8,rfl⟩:∃ a n c,v8=.slice a n c:=by
    obtain⟨a,c,h,_⟩:=ho8.ensAt
    exact⟨a,_,c,h⟩
   have c6:=HR6.out.bxl.cell
   have c8:=hb8.cell
   have f8:=hb8.frz
   rw[HE1.out] at hr8
   unfold eC at hr8
   dsimp only at hr8
   clear happ hb8 ho8 hg8 hl8 hea hr7 hba hadd HR6 HK6 HLT HLF HRL
   gi_wp2_with (first|(gi_at_builtin;refine xs0 _ rfl _ _ _ rfl _ _ _ _ rfl rfl _ _ hr8 ?_)|fail)
   exact⟨_,HN.out⟩
 case done =>
  rintro D S W hD hSD ⟨vo,Sq,hR,hS⟩ - hDW
  rw[HLN.out] at hR
  obtain⟨av,cv,hvo⟩:∃ a c,vo=.slice a (xgCq i z s n).length c:=by
   obtain⟨a,c,h,_⟩:=hR.out.ensAt
   exact⟨a,c,h⟩
  subst hvo
  have hPK:Pk W gp z s Sq:=by
   rcases hR.pool with ⟨h,_⟩|⟨_,h⟩
   ·omega
   ·exact h
  have HR:=lH hR
  have HTX:=lH (fun X (hX:Below W.heap.size W X)=>xoA gp z s Sq X (hPK.below hX) HZ.out h1)
  have HCC:Hid (∀ w',Below W.heap.size W w'→(w'.cell? ⟨w1.heap.size+1,0,none⟩=some (.slice av (xgCq i z s n).length cv)∧w'.cell? ⟨w1.heap.size,0,none⟩=some (.pointer (some ⟨gp,0,none⟩)))∧Below W.heap.size W w'):=lH (fun X hX=>⟨⟨(hR.bxl.below hX).cell,(hR.bxp.below hX).cell⟩,hX⟩)
  have HD:=lH hDW
  have HDL:=lH hD
  clear hR hDW hS hD hPK
  gi_wp2
  refine wpIn_wide.2 (wp_mono (xfU (S:=fun w'=>(w'.cell? ⟨w1.heap.size+1,0,none⟩=some (.slice av (xgCq i z s n).length cv)∧w'.cell? ⟨w1.heap.size,0,none⟩=some (.pointer (some ⟨gp,0,none⟩)))∧Below W.heap.size W w') (by kernel_rfl) (HCC.out _ (Below.drew (Below.refl _ _))) (fun hH0=>?_)) xgn)
  refine tK 0 47 hH0 ?_
  refine tK 1 48 hH0 ?_
  refine wpAnyH_ready (rs:=[2]) (by kernel_rfl) (by simp) ?_
  refine AllReadyH.cons rfl (fun K hK=>?_) AllReadyH.nil
  go_simp
  refine(HTX.out _ hH0.2).mono ?_
  rintro e w' ⟨rfl,hb⟩
  go_wp2_with fail
  refine hK.out _ _ (HCC.out _ (hH0.2.trans (hb.mono hH0.2.size))) (fun hH1=>?_)
  clear hK K hb hH0
  try simp only[Act.put,zsA,zsB,zsC]
  refine tK 3 2 hH1 ?_
  refine tK 4 3 hH1 ?_
  refine wpAnyH_done (by kernel_rfl) ?_ _
  dsimp only[xdp]
  gi_wp2
  have hK9:=(hH1.2.block D (xay HD.out)).trans HD.out
  have hR9:=(HR.out.later hH1.2).grown (grownBy_putObj' _ D (.deferred none)) (fun r e=>by cases e;exact⟨Nat.le_trans HR3.out.size HDL.out,_,hK9,rfl⟩)
  refine⟨by simp,.inl ⟨_,_,rfl,run_takeDeferred hK9,?_⟩⟩
  refine⟨_,results_tmp2 rfl _ _ _,?_⟩
  exact⟨_,rfl,hR9.out.ensAt,hR9.bel⟩
end Go.Proofs.YtjinnigjfopbcaaGreatDoor
namespace Go.Proofs.YtjinnigjfopbcaaGreatDoor
set_option linter.unusedVariables false
set_option linter.unusedSimpArgs false
open Go.RowKit
set_option maxRecDepth 20000
theorem xtf (v:Value) (z:Nat) (s:ByteArray) (w:World) (hv:xom w v [(z,s)]):Calls Tryz.prog 272 #[v,.func (.func 271) #[.string s] #[]] w fun e w'=>e=.returned (.int .i64 0)∧Below w.heap.size w w':=by
 obtain⟨a,cap,rfl,h1,h2,hc⟩:=hv
 obtain⟨g,off,rfl,hg,l0,l1,l2⟩:=hc 0 (z,s) rfl
 simp only[Nat.zero_mul,Nat.add_zero] at l0 l1 l2
 have HE:=lH (xxa s (z,s) w)
 rw[decide_eq_true (show (z,s).2=s from rfl)] at HE
 dsimp only at HE
 simp only[List.length_cons,List.length_nil,Nat.zero_add]
 clear hc h1 h2
 go_enter Tryz.func272,Tryz.ntmps272
 go_wp2_with fail
 refine wp_loop_rounds 2 ?_
 rw[rounds_succ]
 go_wp2_with fail
 refine HE.out.mono ?_
 rintro e w1 ⟨rfl,hb⟩
 have HB:=lH hb
 clear hb l0 l1 l2
 go_wp2_with fail
 go_ret
 exact⟨rfl,HB.out⟩
theorem xpS (g z:Nat) (s:ByteArray) (S:Nat→Prop) (w:World) (h:Pk w g z s S):Calls Tryz.prog 207 #[.pointer (some ⟨g,0,none⟩),.int .i64 (bkt s),.string s] w fun e w'=>e=.returned (.tuple #[.agg #[.int .u64 (z:Nat),.int .u32 s.size],.bool true])∧Below w.heap.size w w':=by
 have hr:=xf0 s
 have hw:(Lit.int .i64 (bkt s)).wf=true:=wf_i64 (by omega) (by omega)
 have hb1:=xaI w (.cells #[.int .u64 0,.int .u32 0] 227)
 have hlt0:=h.lt
 obtain⟨va,gv,mb,P1,P2,P3,P4,P5⟩:=h
 have hne0:∀ b,gv.ownBlock=some b→b<w.heap.size:=fun b hb=>(P4.lt b hb).2
 have p1:=P1.below hb1
 have p3:=P3.below hb1
 have p4:=P4.below hb1
 have hlt:=P1.lt
 have hlook:=p3.look (bkt s) hw
 rw[xiB] at hlook
 have hk:=p4.ktsAt
 have HI:=lH (xtf gv z s _ hk)
 obtain⟨a,cap,rfl,q1,q2,hc⟩:=hk
 obtain⟨gg,off,rfl,hg,l0,l1,l2⟩:=hc 0 (z,s) rfl
 simp only[Nat.zero_mul,Nat.add_zero,List.length_cons,List.length_nil,Nat.zero_add] at l0 l1 l2 HI hlook
 obtain⟨c0,c1,_,_⟩:=p1.cells
 have ht2:=xf7 w (.int .u64 0) (.int .u32 0) 227
 have HB:=lH hb1
 have hne1:=hne0 gg rfl
 clear hb1 p1 p3 p4 P1 P2 P3 P4 P5 hc q1 q2 hlt0 hne0
 go_enter Tryz.func207,Tryz.ntmps207
 go_wp2_with fail
 generalize w.alloc (.cells #[.int .u64 0,.int .u32 0] 227)=W at *
 refine HI.out.mono ?_
 rintro e w1 ⟨rfl,hb⟩
 have hbb:=Below.trans HB.out (hb.mono HB.out.size)
 have h2:=ht2.below hb
 have H2:=lH h2
 have HBB:=lH hbb
 replace l0:=xan hb l0
 replace l1:=xan hb l1
 obtain⟨k0,k1,k2,k3⟩:=h2
 have hwn:w.heap.size<w1.heap.size:=xbh k0
 have hne:gg≠w.heap.size:=by omega
 clear HI hlook hb hbb l2 c0 c1
 go_wp2_with fail
 refine bodyPost_ret (xmI rfl _ _ w.heap.size _ _ _ _ rfl rfl (H2.out.set _ _).1 (H2.out.set _ _).2.1 Tryz.underlying227 rfl xfA) rfl ⟨rfl,?_⟩
 exact(HBB.out.setCell (p:=⟨w.heap.size,0,none⟩) (Nat.le_refl _) _).setCell (p:=⟨w.heap.size,1,none⟩) (Nat.le_refl _) _
theorem xtc (g z:Nat) (s:ByteArray) (S:Nat→Prop) (w:World) (h:Pk w g z s S) (h0:0<s.size) (h1:s.size≤65536) :
  Calls Tryz.prog 130 #[.pointer (some ⟨g,0,none⟩),.string s] w fun e w'=>e=.returned (.tuple #[.agg #[.int .u64 (z:Nat),.int .u32 s.size],.bool false,.int .i64 0])∧Below w.heap.size w w':=by
 have hd:=xlr (s:=s) (by omega)
 have h6':¬ (65536:Int)<(s.size:Int):=by omega
 have hb0:=xaI w (.cells #[.int .u64 0,.int .u32 0] 227)
 have HT:=lH (And.intro (xf7 w (.int .u64 0) (.int .u32 0) 227) hb0)
 have HB:=lH (fun W=>xfa s (by unfold maxLen;omega) W)
 have HL:=lH (fun X (hX:Below (w.alloc (.cells #[.int .u64 0,.int .u32 0] 227)).heap.size (w.alloc (.cells #[.int .u64 0,.int .u32 0] 227)) X)=>xpS g z s S X ((h.below hb0).below hX))
 clear h hb0 h0
 go_enter Tryz.func130,Tryz.ntmps130
 go_wp2_with fail
 generalize w.alloc (.cells #[.int .u64 0,.int .u32 0] 227)=W at *
 refine(HB.out _).mono ?_
 rintro e w1 ⟨rfl,hb1⟩
 have HB1:=lH hb1
 clear hb1
 go_wp2_with fail
 refine(HL.out _ HB1.out).mono ?_
 rintro e w2 ⟨rfl,hb2⟩
 have hbb:=HB1.out.trans (hb2.mono HB1.out.size)
 have h2:=HT.out.1.below hbb
 have H2:=lH h2
 have HBB:=lH (HT.out.2.trans (hbb.mono HT.out.2.size))
 obtain⟨k0,k1,k2,k3⟩:=h2
 have hwl:w.heap.size<w2.heap.size:=xbh k0
 have hwn:w.heap.size≠w2.heap.size:=by omega
 clear hb2 hbb
 go_wp2_with fail
 refine bodyPost_ret (xf2 rfl _ _ w.heap.size _ _ _ _ _ rfl rfl rfl ((H2.out.set _ _).alloc _).1 ((H2.out.set _ _).alloc _).2.1 Tryz.underlying227 rfl xfA) rfl ⟨rfl,?_⟩
 exact((HBB.out.setCell (p:=⟨w.heap.size,0,none⟩) (Nat.le_refl _) _).setCell (p:=⟨w.heap.size,1,none⟩) (Nat.le_refl _) _).alloc (by simpa using HBB.out.size) _
def xyx:Js→Bool
 | .obj _=>true
 | _=>false
def ckP (b k:Int) (s:ByteArray):Int :=
 if b<512∨16257<b then 15 else if 5<k then 14 else if (xgF (bI s)).2.2≠0 then (xgF (bI s)).2.2 else if xyx (xgF (bI s)).1=true then 0 else 4
end Go.Proofs.YtjinnigjfopbcaaGreatDoor
