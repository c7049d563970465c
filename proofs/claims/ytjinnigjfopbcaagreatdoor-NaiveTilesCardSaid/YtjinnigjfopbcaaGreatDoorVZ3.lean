/- Zb Zd Ze Qg Qi Ke Kf Kg Qa. -/
import Derived.Test.YtjinnigjfopbcaaGreatDoorVs
import Derived.Test.YtjinnigjfopbcaaGreatDoorVZ2
import Derived.Test.YtjinnigjfopbcaaGreatDoorVd6
set_option maxHeartbeats 16000000
namespace Go.Proofs.YtjinnigjfopbcaaGreatDoor
set_option linter.unusedVariables false
set_option linter.unusedSimpArgs false
open Go.RowKit
set_option maxRecDepth 20000
theorem xw2 (S:Nat→Prop) (J:Js) (x:Value) (w:World) (h:xap S w J x):∃ v,∀ W,(Instr.typeAssert x 20 157 true).run Tryz.prog W=.ok (.tuple #[v,.bool (xyx J)]) W:=by
 cases J <;> rw[xap] at h
 ·subst h;exact⟨_,fun W=>xhf _ _ _ _ Tryz.underlying157 rfl xvy W⟩
 ·subst h;exact⟨_,fun W=>xau _ _ _ _ _ _ Tryz.underlying157 rfl xvy (by decide) W⟩
 ·subst h;exact⟨_,fun W=>xau _ _ _ _ _ _ Tryz.underlying157 rfl xvy (by decide) W⟩
 ·obtain⟨t,rfl,_⟩:=h;exact⟨_,fun W=>xau _ _ _ _ _ _ Tryz.underlying157 rfl xvy (by decide) W⟩
 ·obtain⟨a,c,rfl,_⟩:=h;exact⟨_,fun W=>xau _ _ _ _ _ _ Tryz.underlying157 rfl xvy (by decide) W⟩
 ·obtain⟨a,c,rfl,_⟩:=h;exact⟨_,fun W=>xb6 _ _ _ _ Tryz.underlying157 rfl W⟩
 ·subst h;exact⟨_,fun W=>xau _ _ _ _ _ _ Tryz.underlying157 rfl xvy (by decide) W⟩
def xfX (b k:Int) (s:ByteArray):Array Value:=#[.int .i64 b,.int .u8 k,.string s]
theorem xkv (b k:Int) (s:ByteArray) (w:World) (hq:QTab w) (hs:s.size≤1000000):Calls Tryz.prog 33 #[.agg (xfX b k s)] w fun e w'=>e=.returned (.int .i64 (ckP b k s))∧Below w.heap.size w w':=by
 unfold xfX ckP
 have HT:=lH (fun W hq=>xoZ s W hq hs)
 have HQ:=lH (fun W (hb:Below w.heap.size w W)=>hq.below hb)
 obtain⟨V,hV⟩:∃ V,xgF (bI s)=V:=⟨_,rfl⟩
 rw[hV] at HT ⊢
 unfold xuP at HT
 clear hq hV
 by_cases h1:b<512
 ·rw[if_pos (.inl h1)]
  have e1:decide (b<512)=true:=decide_eq_true h1
  clear h1
  go_enter Tryz.func33,Tryz.ntmps33
  go_wp2_with fail
  go_ret
  exact⟨rfl,by go_grown⟩
 have e1:decide (b<512)=false:=decide_eq_false h1
 by_cases h2:16257<b
 ·rw[if_pos (.inr h2)]
  have e2:decide (16257<b)=true:=decide_eq_true h2
  clear h1 h2
  go_enter Tryz.func33,Tryz.ntmps33
  go_wp2_with fail
  go_ret
  exact⟨rfl,by go_grown⟩
 have e2:decide (16257<b)=false:=decide_eq_false h2
 rw[if_neg (by omega)]
 by_cases h3:5<k
 ·rw[if_pos h3]
  have e3:decide (5<k)=true:=decide_eq_true h3
  clear h1 h2 h3
  go_enter Tryz.func33,Tryz.ntmps33
  go_wp2_with fail
  go_ret
  exact⟨rfl,by go_grown⟩
 have e3:decide (5<k)=false:=decide_eq_false h3
 rw[if_neg h3]
 obtain⟨R,hR⟩:∃ R,(if V.2.2≠0 then V.2.2 else if xyx V.1=true then 0 else 4)=R:=⟨_,rfl⟩
 rw[hR]
 have HR:=lH hR
 clear h1 h2 h3 hR
 go_enter Tryz.func33,Tryz.ntmps33
 go_wp2_with fail
 have HB0:Hid (Below w.heap.size w (w.alloc (.cells #[.int .i64 b,.int .u8 k,.string s] 59))):=lH ((Below.refl _ _).alloc (Nat.le_refl _) _)
 refine(HT.out _ (HQ.out _ HB0.out)).mono ?_
 rintro e w1 ⟨⟨x,rfl,hx⟩,hb1⟩
 have HB:=lH (HB0.out.trans (hb1.mono HB0.out.size))
 obtain⟨v,hv⟩:=xw2 _ _ _ _ hx
 clear hx hb1 HT HB0
 by_cases h4:V.2.2=0
 ·have e4:(V.2.2 == 0)=true:=by simp[h4]
  have HR1:=lH (HR.out.symm.trans (if_neg (by simpa using h4)))
  cases h5:xyx V.1 with
  | true =>
   rw[h5] at hv
   have HR2:=lH (HR1.out.trans (if_pos h5))
   clear h4 h5
   generalize V.2.2=z at *
   go_wp2_with fail
   go_ret
   exact⟨by rw[HR2.out];rfl,HB.out⟩
  | false =>
   rw[h5] at hv
   have HR2:=lH (HR1.out.trans (if_neg (by simp[h5])))
   clear h4 h5
   generalize V.2.2=z at *
   go_wp2_with fail
   go_ret
   exact⟨by rw[HR2.out];rfl,HB.out⟩
 ·have e4:(V.2.2 == 0)=false:=by simp[h4]
  have HR2:=lH (HR.out.symm.trans (if_pos (by simpa using h4)))
  clear h4
  generalize V.2.2=z at *
  go_wp2_with fail
  go_ret
  exact⟨by rw[HR2.out];rfl,HB.out⟩
end Go.Proofs.YtjinnigjfopbcaaGreatDoor
namespace Go.Proofs.YtjinnigjfopbcaaGreatDoor
set_option linter.unusedVariables false
set_option linter.unusedSimpArgs false
open Go.RowKit
set_option maxRecDepth 100000
theorem xuS (gb ge:Nat) (x y:Int) (u:FrameMode) (w:World) (hb:One w gb (.int .i64 x)) (he:One w ge (.int .i64 y)) :
  CallsD Tryz.prog 66 #[.pointer (some ⟨gb,0,none⟩),.pointer (some ⟨ge,0,none⟩)] u w fun e u' w'=>u'=u∧(e=.returned (.tuple #[])∧w'=w.setCell ⟨ge,0,none⟩ (.int .i64 x)):=by
 have h1:=hb.cell
 have h2:=he.cell
 have h3:=he.frz
 go_enter_d Tryz.func66,Tryz.ntmps66
 go_wp2
 go_end0
 exact⟨rfl,rfl⟩
theorem Box.set_other {w:World} {g g':Nat} {x:Array Value} (h:Box w g x) (hn:g≠g') (x':Value):Box (w.setCell ⟨g',0,none⟩ x') g x:=by
 obtain⟨T,h⟩:=h
 exact⟨T,xei h hn _ _⟩
theorem xaj.set18 {w:World} {v:Value} {l:List En} (h:xaj w v l) {g:Nat} {x:Value} (ho:One w g x) (x':Value):xaj (w.setCell ⟨g,0,none⟩ x') v l:=by
 obtain⟨T,hh⟩:=ho
 obtain⟨a,cap,rfl,h1,h2,hc⟩:=h
 refine⟨a,cap,rfl,h1,h2,fun k t ht=>?_⟩
 obtain⟨g',off,ha,hg,c0,c1,c2,c3⟩:=hc k t ht
 have hn:g'≠g:=by
  rintro rfl
  simp[World.cell?,hh] at c3
 have hb:(w.setCell ⟨g,0,none⟩ x').heap[g']?=w.heap[g']?:=Below.heap_setCell _ _ _ _ (by simpa using hn)
 exact⟨g',off,ha,by simpa using hg,(World.cell?_of_block (a:=⟨g',_,none⟩) hb).trans c0,(World.cell?_of_block (a:=⟨g',_,none⟩) hb).trans c1,(World.cell?_of_block (a:=⟨g',_,none⟩) hb).trans c2,(World.cell?_of_block (a:=⟨g',_,none⟩) hb).trans c3⟩
theorem xqD:(Tryz.prog.info? 59).map (·.size)=some 3:=by kernel_rfl
structure StP (w W:World) (g0 g1 g2 g3:Nat) (s:Value) (L:List It) (b k:Int) (t:ByteArray) (z:Int):Prop where
 ord:w.heap.size≤g2∧w.heap.size≤g3∧g0≠g3∧g1≠g3∧g2≠g3
 ch:One W g0 s
 pl:Box W g1 (xfX b k t)
 e:One W g2 (.int .i64 0)
 bad:One W g3 (.int .i64 z)
 its:ChS W s L
 bel:Below w.heap.size w W
theorem StP.below {w W X:World} {g0 g1 g2 g3:Nat} {s:Value} {L:List It} {b k:Int} {t:ByteArray} {z:Int} (h:StP w W g0 g1 g2 g3 s L b k t z) (hb:Below W.heap.size W X):StP w X g0 g1 g2 g3 s L b k t z :=
 ⟨h.ord,h.ch.below hb,h.pl.below hb,h.e.below hb,h.bad.below hb,h.its.below hb,h.bel.trans (hb.mono h.bel.size)⟩
theorem StP.tell {w W:World} {g0 g1 g2 g3:Nat} {s:Value} {L:List It} {b k:Int} {t:ByteArray} {z:Int} (h:StP w W g0 g1 g2 g3 s L b k t z) (y:Int):StP w (W.setCell ⟨g3,0,none⟩ (.int .i64 y)) g0 g1 g2 g3 s L b k t y :=
 ⟨h.ord,h.ch.set_other h.ord.2.2.1 _,h.pl.set_other h.ord.2.2.2.1 _,h.e.set_other h.ord.2.2.2.2 _,h.bad.set _,h.its.set h.bad _,h.bel.setCell (p:=⟨g3,0,none⟩) h.ord.2.1 _⟩
theorem StP.facts {w W:World} {g0 g1 g2 g3:Nat} {s:Value} {L:List It} {b k:Int} {t:ByteArray} {z:Int} (h:StP w W g0 g1 g2 g3 s L b k t z) :
  W.cell? ⟨g0,0,none⟩=some s∧W.cell? ⟨g1,0,none⟩=some (.int .i64 b)∧W.cell? ⟨g1,1,none⟩=some (.int .u8 k)∧W.cell? ⟨g1,2,none⟩=some (.string t) ∧
  W.cell? ⟨g3,0,none⟩=some (.int .i64 z)∧W.frozen? ⟨g3,0,none⟩=false∧(loadVar 59 ⟨g1,0,none⟩).run Tryz.prog W=.ok (.agg (xfX b k t)) W:=by
 refine⟨h.ch.cell,by rw[h.pl.cell];rfl,by rw[h.pl.cell];rfl,by rw[h.pl.cell];rfl,h.bad.cell,h.bad.frz,?_⟩
 obtain⟨T,hT⟩:=h.pl
 exact run_loadVar_row W g1 T _ _ (0,0) _ hT Tryz.underlying59 rfl xqD
theorem StP.shut {w W:World} {g0 g1 g2 g3:Nat} {s:Value} {L:List It} {b k:Int} {t:ByteArray} {z:Int} (h:StP w W g0 g1 g2 g3 s L b k t z) :
  (W.setCell ⟨g2,0,none⟩ (.int .i64 z)).cell? ⟨g2,0,none⟩=some (.int .i64 z)∧Below w.heap.size w (W.setCell ⟨g2,0,none⟩ (.int .i64 z)) :=
 ⟨(h.e.set _).cell,h.bel.setCell (p:=⟨g2,0,none⟩) h.ord.1 _⟩
def xT:ByteArray:={ data:=#[120] }
def obT:ByteArray:={ data:=#[123,125] }
theorem xzp:ckP 512 0 obT=0:=by kernel_rfl
def hdE (L:List It):Hd:=⟨0,0,0,0,0,0,0,0,(L.length:Nat),1,1,true,1,1,0,zlo L,zhi L,-1800000000,-850511287,1800000000,850511287,zlo L,0,0⟩
theorem xqc (s v:Value) (L:List It) (e1:En) (w:World) (h:ChS w s L) (hv:xaj w v [e1]) (he1:xaY e1) (hc1:conN [e1]=1) :
  Calls Tryz.prog 71 #[.agg #[s],.int .u8 0,v] w fun e w'=>e=.returned (.agg (cH (hdE L)))∧Below w.heap.size w w':=by
 have hg:=h.good
 have hfew:=hg.few
 have hw1:IntKind.u64.wrap (L.length:Int)=(L.length:Int):=by rw[IntKind.wrap_u64] <;> omega
 obtain⟨a5,n5,c5,rfl⟩:=h.form
 have HV:=lH hv
 obtain⟨ar,cr,rfl,hcr,hmr,_⟩:=hv
 obtain⟨W,hW⟩:∃ W,(w.alloc (.cells #[.slice a5 n5 c5] 36)).alloc (.cells (cH xaa) 124)=W:=⟨_,rfl⟩
 have h0:One W w.heap.size (.slice a5 n5 c5):=by
  rw[← hW]
  exact(xbn w _ _).alloc _
 have h2:HAt W (w.heap.size+1) 124 xaa:=by
  have:=HAt.made (w.alloc (.cells #[.slice a5 n5 c5] 36)) xaa 124
  simp only[World.size_alloc] at this
  rw[← hW]
  exact this
 have hbw:Below w.heap.size w W:=by rw[← hW];exact((Below.refl _ w).alloc (Nat.le_refl _) _).alloc (by simp) _
 have HM:Hid (xas [e1]):=lH (fun x hx=>by rw[List.mem_singleton.1 hx];exact he1)
 have HZ:=lH (xpX (.slice a5 n5 c5) L W (h.below hbw))
 have HL:=lH (fun X (hX:Below W.heap.size W X)=>xmx (.slice a5 n5 c5) L X ((h.below hbw).below hX))
 have HC:=lH (fun X (hX:Below W.heap.size W X)=>xq5 _ [e1] X ((HV.out.below hbw).below hX) HM.out (by simp))
 rw[hc1] at HC
 have H0:=lH h0
 have H2:=lH h2
 have HB:=lH hbw
 have q0:=h0.cell
 have hz:cH xaa=#[.int .u64 0,.int .u64 0,.int .u64 0,.int .u64 0,.int .u64 0,.int .u64 0,.int .u64 0,.int .u64 0,.int .u64 0,.int .u64 0,.int .u64 0,.bool false,.int .u8 0,.int .u8 0,.int .u8 0,.int .i64 0,.int .i64 0,.int .i64 0,.int .i64 0,.int .i64 0,.int .i64 0,.int .i64 0,.int .i64 0,.int .i64 0]:=rfl
 rw[hz] at hW
 have hR:cH (hdE L)=#[.int .u64 0,.int .u64 0,.int .u64 0,.int .u64 0,.int .u64 0,.int .u64 0,.int .u64 0,.int .u64 0,.int .u64 L.length,.int .u64 1,.int .u64 1,.bool true,.int .u8 1,.int .u8 1,.int .u8 0,.int .i64 (zlo L),.int .i64 (zhi L),.int .i64 (-1800000000),.int .i64 (-850511287),.int .i64 1800000000,.int .i64 850511287,.int .i64 (zlo L),.int .i64 0,.int .i64 0]:=rfl
 generalize hX:hdE L=X at *
 have HR:=lH hR
 clear h hg h0 h2 hbw hz hX hR hc1 he1
 simp only[List.length_cons,List.length_nil,Nat.zero_add] at HC ⊢
 generalize zlo L=zl at *
 generalize zhi L=zh at *
 go_enter Tryz.func71,Tryz.ntmps71
 go_wp2_with fail
 try rw[hW]
 clear hW
 refine HZ.out.mono ?_
 rintro e w1 ⟨rfl,hb1⟩
 have HB1:=lH hb1
 have q1:=(H0.out.below hb1).cell
 clear hb1 q0 HZ
 go_wp2_with fail
 refine(HL.out _ HB1.out).mono ?_
 rintro e w2 ⟨rfl,hb2⟩
 have HB2:=lH (HB1.out.trans (hb2.mono HB1.out.size))
 clear hb2 q1 HB1 HL
 go_wp2_with fail
 refine(HC.out _ HB2.out).mono ?_
 rintro e w3 ⟨rfl,hb3⟩
 have HB3:=lH (HB2.out.trans (hb3.mono HB2.out.size))
 have HH:=lH (H2.out.later HB3.out)
 have HBX:=lH (HB.out.trans (HB3.out.mono HB.out.size))
 clear hb3 HB2 HC
 go_wp2_with (first|(refine wpList_store_row rfl 124 _ _ rfl (w.heap.size+1) _ rfl rfl 124 (cH xaa) HH.out xaB rfl (by have:=xcl X;rw[HR.out] at this;exact this) ?_)|fail)
 have hp:=xeQ w3 (w.heap.size+1) _ xaa X HH.out
 rw[← HR.out]
 refine bodyPost_ret (results_cell_row rfl _ _ (w.heap.size+1) 124 (cH X) (0,0) _ rfl hp.1 Tryz.underlying124 rfl xaB) rfl ⟨rfl,hp.2.2.1 _ _ (by omega) HBX.out⟩
theorem xmS (s:Value) (L:List It) (e1:En) (y:ByteArray) (w:World) (hq:QTab w) (h:ChS w s L) (he1:xaY e1) (hr1:xa5 [e1]=0) (hn1:e1.rn≠0) (hc1:conN [e1]=1) (hs1:xs5 [e1]≤512) (hck:ckP 512 0 obT=0) (hmh:xi1 (hdE L)) (hfw:Few ⟨xj7 [e1],obT,noB,y⟩ 200000000)
  (HRW:∀ X,ChS X s L→Calls Tryz.prog 67 #[.agg #[s]] X fun x X'=>∃ v',x=.returned (.tuple #[v',.string y])∧xaj X' v' [e1]∧Below X.heap.size X X') :
  Calls Tryz.prog 28 #[.agg #[s],.agg (xfX 512 0 obT)] w fun e w'=>e=.returned (.tuple #[.string (xgM (hdE L) ⟨xj7 [e1],obT,noB,y⟩).1,.int .i64 (xgM (hdE L) ⟨xj7 [e1],obT,noB,y⟩).2])∧Below w.heap.size w w':=by
 have hmf:∀ (fn:Fn) (first cap:Array Value) (w:World),(Instr.makeFunc fn first cap).run Tryz.prog w=.ok (.func fn first cap) w:=fun _ _ _ _=>rfl
 have HQ:=lH (fun W (hb:Below w.heap.size w W)=>hq.below hb)
 have HCK:=lH (fun W hq=>xkv 512 0 obT W hq (by decide))
 rw[hck] at HCK
 obtain⟨a5,n5,c5,rfl⟩:=h.form
 obtain⟨W,hW⟩:∃ W,(((w.alloc (.cells #[.slice a5 n5 c5] 36)).alloc (.cells (xfX 512 0 obT) 59)).alloc (.cells #[.int .i64 0] 28)).alloc (.cells #[.int .i64 0] 28)=W:=⟨_,rfl⟩
 have hS:StP w W w.heap.size (w.heap.size+1) (w.heap.size+1+1) (w.heap.size+1+1+1) (.slice a5 n5 c5) L 512 0 obT 0:=by
  have b1:=(Below.refl w.heap.size w).alloc (Nat.le_refl _) (.cells #[.slice a5 n5 c5] 36)
  have o1:=xbn w (.slice a5 n5 c5) 36
  generalize hW1:w.alloc (.cells #[.slice a5 n5 c5] 36)=W1 at *
  have z1:W1.heap.size=w.heap.size+1:=by rw[← hW1,World.size_alloc]
  have b2:=(Below.refl W1.heap.size W1).alloc (Nat.le_refl _) (.cells (xfX 512 0 obT) 59)
  have o2:=xkI W1 (xfX 512 0 obT) 59
  generalize hW2:W1.alloc (.cells (xfX 512 0 obT) 59)=W2 at *
  have z2:W2.heap.size=w.heap.size+1+1:=by rw[← hW2,World.size_alloc,z1]
  have b3:=(Below.refl W2.heap.size W2).alloc (Nat.le_refl _) (.cells #[.int .i64 0] 28)
  have o3:=xbn W2 (.int .i64 0) 28
  generalize hW3:W2.alloc (.cells #[.int .i64 0] 28)=W3 at *
  have z3:W3.heap.size=w.heap.size+1+1+1:=by rw[← hW3,World.size_alloc,z2]
  have b4:=(Below.refl W3.heap.size W3).alloc (Nat.le_refl _) (.cells #[.int .i64 0] 28)
  have o4:=xbn W3 (.int .i64 0) 28
  rw[hW] at b4 o4
  rw[z1] at o2
  rw[z2] at o3
  rw[z3] at o4
  have c1:=b1.trans ((b2.mono b1.size).trans (((b3.mono b2.size).trans (b4.mono (Nat.le_trans b2.size b3.size))).mono b1.size))
  exact⟨⟨by omega,by omega,by omega,by omega,by omega⟩,((o1.below b2).below b3).below b4,(o2.below b3).below b4,o3.below b4,o4,h.below c1,c1⟩
 unfold xfX at hW ⊢
 have HS:=lH hS
 have H0:=lH h
 have HR1:=lH HRW
 have HFW:=lH (And.intro hmh hfw)
 have HE1:=lH (And.intro he1 (And.intro hr1 (And.intro hn1 (And.intro hc1 hs1))))
 clear hq hS h hck hmh hfw HRW he1 hr1 hn1 hc1 hs1
 go_enter_defers Tryz.func28,Tryz.ntmps28
 go_upto_region 3 with fail
 generalize w.heap.size+1+1+1=g3 at *
 generalize w.heap.size+1+1=g2 at *
 generalize w.heap.size+1=g1 at *
 obtain⟨q0,p0,p1,p2,b0,bf,lp⟩:=HS.out.facts
 unfold xfX at lp HCK
 clear hW
 go_wp2_with fail
 refine(HCK.out _ (HQ.out _ HS.out.bel)).mono ?_
 rintro e w1 ⟨rfl,hb1⟩
 have HS1:=lH (HS.out.below hb1)
 obtain⟨_,_,_,_,b1,bf1,_⟩:=HS1.out.facts
 clear HS hb1 q0 p0 p1 p2 b0 bf lp HCK
 have HS2:=lH (HS1.out.tell 0)
 go_upto_region 5 with fail
 generalize w1.setCell { block:=g3,off:=0 } (Value.int IntKind.i64 0)=w2 at *
 obtain⟨q0,_⟩:=HS2.out.facts
 clear HS1 b1 bf1
 go_wp2_with fail
 refine(HR1.out _ HS2.out.its).mono ?_
 rintro e w3 ⟨v3,rfl,hr3,hb3⟩
 have HS3:=lH (HS2.out.below hb3)
 obtain⟨_,p0,_⟩:=HS3.out.facts
 have HR3:=lH hr3
 obtain⟨ar,cr,rfl,hcr,hmr,_⟩:=hr3
 have HSP:=lH (xny e1 _ 512 _ HR3.out HE1.out.1 HE1.out.2.1 HE1.out.2.2.1 (by omega) (by omega) HE1.out.2.2.2.2)
 clear HS2 hb3 q0
 simp only[List.length_cons,List.length_nil,Nat.zero_add] at HSP ⊢
 go_wp2_with fail
 refine HSP.out.mono ?_
 rintro e w4 ⟨v4,rfl,hr4,hb4⟩
 have HS4:=lH (HS3.out.below hb4)
 have HR4:=lH (And.intro (HR3.out.below hb4) hr4)
 obtain⟨_,_,_,_,b4,bf4,_⟩:=HS4.out.facts
 clear HS3 hb4 p0 HSP hr4 HR3
 have HS5:=lH (HS4.out.tell 0)
 have HR5:=lH (And.intro (HR4.out.1.set18 HS4.out.bad (.int .i64 0)) (HR4.out.2.set18 HS4.out.bad (.int .i64 0)))
 have HEN:=lH (fun X hX=>xrc v4 [e1] X hX (fun x hx=>by rw[List.mem_singleton.1 hx];exact HE1.out.1) (by simp))
 have HHD:=lH (fun X (h1:ChS X (.slice a5 n5 c5) L) h2=>xqc (.slice a5 n5 c5) (.slice ar 1 cr) L e1 X h1 h2 HE1.out.1 HE1.out.2.2.2.1)
 have HGL:=lH (fun X=>xnj (hdE L) ⟨xj7 [e1],obT,noB,y⟩ X HFW.out.1 HFW.out.2)
 obtain⟨⟨y9,z⟩,hG⟩:∃ G,xgM (hdE L) ⟨xj7 [e1],obT,noB,y⟩=G:=⟨_,rfl⟩
 rw[hG] at HGL
 have HPE:=lH hG
 clear hG
 unfold xfg at HGL
 dsimp only at HGL
 generalize cH (hdE L)=Hc at *
 go_upto_region 8 with fail
 generalize w4.setCell { block:=g3,off:=0 } (Value.int IntKind.i64 0)=w5 at *
 clear HS4 HR4 b4 bf4
 go_wp2_with fail
 refine(HEN.out _ HR5.out.2).mono ?_
 rintro e w6 ⟨rfl,hb6⟩
 have HS6:=lH (HS5.out.below hb6)
 have HR6:=lH (HR5.out.1.below hb6)
 obtain⟨q0,p0,p1,p2,b0,bf,_⟩:=HS6.out.facts
 clear HS5 HR5 hb6 HEN
 go_upto_region 9 with fail
 go_cut [4] from 40 to 54 (fun x wx=>x=.string y9∧StP w wx w.heap.size g1 g2 g3 (.slice a5 n5 c5) L 512 0 obT z)
 case first =>
  refine wp_mono (Q:=xdp _) ?_ xgn
  go_region_with (first|(go_at_call 71;refine(HHD.out _ (HS6.out.its.below (by go_grown)) (HR6.out.below (by go_grown))).mono ?_;rintro e wa ⟨rfl,hba⟩;have hbA:Below w6.heap.size w6 wa:=Below.trans (by go_grown) (hba.mono (by simp));obtain⟨_,_,r1,r2,rb,rf,_⟩:=(HS6.out.below hbA).facts)|(go_at_call 70;refine(HGL.out _).mono ?_;rintro e wb ⟨rfl,hbb⟩;have hbB:Below w6.heap.size w6 wb:=hbA.trans (hbb.mono hbA.size);obtain⟨_,_,_,_,sb,sf,_⟩:=(HS6.out.below hbB).facts))
  all_goals
   dsimp only[xdp]
   go_wp2_with fail
   go_meet
   case rel=>exact⟨rfl,(HS6.out.below hbB).tell z⟩
 case rest =>
  obtain⟨rfl,hS9⟩:=hcut
  generalize wc=w9 at *
  have HS9:=lH hS9
  clear hS9
  go_wp2_with fail
  refine leaves_cons (f:=66) (args:=#[.pointer (some ⟨g3,0,none⟩),.pointer (some ⟨g2,0,none⟩)]) (by simp) (by simp[go_sem]) ?_
  refine(xuS g3 g2 z 0 .returning _ HS9.out.bad HS9.out.e).mono ?_
  rintro e u' w'' ⟨rfl,rfl,rfl⟩
  obtain⟨k1,k2⟩:=HS9.out.shut
  refine⟨.tuple #[.string y9,.int .i64 z],?_,by rw[HPE.out],k2⟩
  clear k2
  generalize w9.setCell { block:=g2,off:=0 } (Value.int IntKind.i64 z)=W9 at *
  simp[results,Tryz.results28,go_sem,k1]
def yL:List It:=[(3,xT),(4,xT)]
def yE:En:=⟨3,0,1,2⟩
def yA:ByteArray:=(xgM (hdE yL) ⟨xj7 [yE],obT,noB,xT⟩).1
theorem xxT:xgM (hdE yL) ⟨xj7 [yE],obT,noB,xT⟩=(yA,0):=by
 have h:(xgM (hdE yL) ⟨xj7 [yE],obT,noB,xT⟩).2=0:=by kernel_rfl
 unfold yA
 rw[← h]
theorem xxs:xaY yE:=by unfold xaY yE;decide
theorem xxQ:xi1 (hdE yL):=by unfold xi1 U64 U8;decide
theorem xzM:ofI yL=(yL,0):=by rfl
theorem xwU:xgh (xgCq 3 0 xT 1) ⟨((3+1:Nat):Int),0,xT.size,1⟩=true:=by kernel_rfl
theorem xrX (s:Value) (X:World) (h:ChS X s yL):Calls Tryz.prog 67 #[.agg #[s]] X fun x X'=>∃ v',x=.returned (.tuple #[v',.string xT])∧xaj X' v' [yE]∧Below X.heap.size X X' :=
 xrt s yL 3 2 0 xT X h.its rfl (by omega) (by omega) (by omega) (by decide) (by decide) rfl (fun k hk=>by
  match k,hk with
  | 0,_=>rfl
  | 1,_=>rfl) (fun k h1 h2 g S W hW=>xtc g 0 xT S W hW (by decide) (by decide)) (fun k h1 h2 v W hv=>by
  have h:k=1:=by omega
  subst h
  have hx:=xp9 v (xgCq 3 0 xT 1) ⟨((3+1:Nat):Int),0,xT.size,1⟩ W hv (by intro e he;rw[List.mem_singleton.1 he];unfold xaY;decide) (by unfold xaY;decide)
  rw[xwU] at hx
  exact hx)
theorem xqM (s:Value) (w:World) (hq:QTab w) (h:ChS w s yL):Calls Tryz.prog 28 #[.agg #[s],.agg #[.int .i64 512,.int .u8 0,.string { data:=#[123,125] }]] w fun e w'=>e=.returned (.tuple #[.string yA,.int .i64 0])∧Below w.heap.size w w':=by
 have:=xmS s yL yE xT w hq h xxs (by kernel_rfl) (by decide) (by kernel_rfl) (by have:xs5 [yE]=5:=(by kernel_rfl);omega) xzp xxQ (by have e1:(xj7 [yE]).size=5:=(by kernel_rfl);exact⟨(by show (xj7 [yE]).size≤_;omega),by decide,by decide,by decide⟩) (fun X hX=>xrX s X hX)
 rw[xxT] at this
 exact this
theorem xxy (v:Value) (w:World) (hv:ItsAt w v yL):Calls Tryz.prog 40 #[v] w fun e w'=>∃ s',e=.returned (.tuple #[.agg #[s'],.int .i64 0])∧ChS w' s' yL∧Below w.heap.size w w':=by
 refine(xri v _ w hv (by decide) (fun t ht=>?_) (fun t ht=>?_)).mono ?_
 ·simp[yL] at ht;rcases ht with h|h <;> subst h <;> decide
 ·simp[yL] at ht;unfold maxLen;rcases ht with h|h <;> subst h <;> decide
 rintro e w' ⟨s',rfl,h,hb⟩
 rw[xzM] at h
 exact⟨s',by rw[xzM];rfl,h,hb⟩
end Go.Proofs.YtjinnigjfopbcaaGreatDoor
namespace Go.Proofs.YtjinnigjfopbcaaGreatDoor
set_option linter.unusedVariables false
set_option linter.unusedSimpArgs false
open Go.RowKit Go.Maps
set_option maxRecDepth 100000
theorem n_c:nvC yA=(yL,0):=by kernel_rfl
theorem xz0:nvT yA 4=(xT,true,0):=by kernel_rfl
theorem xzU:nvT yA 5=(noB,false,0):=by kernel_rfl
theorem xzV:nvR { data:=#[] }=([],noB,3):=by kernel_rfl
theorem n_r:nvR yA=([yE],xT,0):=by kernel_rfl
theorem xim:yA.size=135:=by kernel_rfl
theorem xu6 (w:World) (T:TypeId):ItsAt (w.alloc (.cells #[.int .u64 3,.string xT,.int .u64 4,.string xT] T)) (.slice (some ⟨w.heap.size,0,none⟩) 2 2) yL:=by
 refine⟨_,2,rfl,by simp[yL],by unfold maxLen;omega,fun k u hu=>⟨w.heap.size,0,rfl,by simp,?_⟩⟩
 match k,hu with
 | 0,hu=>simp[yL] at hu;subst hu;exact⟨by simp[go_sem],by simp[go_sem]⟩
 | 1,hu=>simp[yL] at hu;subst hu;exact⟨by simp[go_sem],by simp[go_sem]⟩
 | k+2,hu=>simp[yL] at hu
theorem xce (w:World) (hq:QTab w):Calls Tryz.prog 14 #[] w fun e w'=>e=.returned (.bool true)∧Below w.heap.size w w':=by
 have HQ:=lH hq
 have HI:=lH (xu6 w 67)
 have HB0:=lH (xah w (.cells #[.int .u64 3,.string xT,.int .u64 4,.string xT] 67))
 have HRD:=lH (fun W=>xfQ yA W (by rw[xim];omega))
 have HT4:=lH (fun W=>xeb yA 4 W (by rw[xim];omega))
 have HT5:=lH (fun W=>xeb yA 5 W (by rw[xim];omega))
 have HR0:=lH (fun W=>xdb { data:=#[] } W (by decide))
 have HR1:=lH (fun W=>xdb yA W (by rw[xim];omega))
 unfold xgI at HR0 HR1
 rw[n_c] at HRD
 rw[xz0] at HT4
 rw[xzU] at HT5
 rw[xzV] at HR0
 rw[n_r] at HR1
 have HPR:=lH (fun s W=>xqM s W)
 unfold xT at HI HB0 HT4 HR1
 unfold noB at HT5 HR0
 generalize yA=A at *
 clear hq
 go_enter Tryz.func14,Tryz.ntmps14
 go_wp2_with fail
 refine(xxy _ _ HI.out).mono ?_
 rintro e w1 ⟨s1,rfl,hc1,hb1⟩
 obtain⟨a1,n1,p1,rfl⟩:=hc1.form
 have HB1:=lH (HB0.out.trans (hb1.mono HB0.out.size))
 have HC1:=lH hc1
 clear hb1 hc1 HI HB0
 have h1:=xah w1 (.cells #[.slice a1 n1 p1] 36)
 have HC2:=lH (And.intro (xbn w1 (.slice a1 n1 p1) 36) (And.intro (HC1.out.below h1) (HB1.out.trans (h1.mono HB1.out.size))))
 clear h1 HB1 HC1
 go_wp2_with fail
 generalize w1.alloc (.cells #[.slice a1 n1 p1] 36)=W1 at *
 generalize w1.heap.size=gc at *
 refine(HPR.out _ _ (HQ.out.below HC2.out.2.2) HC2.out.2.1).mono ?_
 rintro e w2 ⟨rfl,hb2⟩
 have HC3:=lH (And.intro (HC2.out.1.below hb2) (And.intro (HC2.out.2.1.below hb2) (HC2.out.2.2.trans (hb2.mono HC2.out.2.2.size))))
 clear hb2 HC2
 go_wp2_with fail
 refine(HRD.out _).mono ?_
 rintro e w3 ⟨s3,rfl,hc3,hb3⟩
 obtain⟨a3,n3,p3,rfl⟩:=hc3.form
 have h3:=xah w3 (.cells #[.slice a3 n3 p3] 36)
 have h4:=hb3.trans (h3.mono hb3.size)
 have HC4:=lH (And.intro (HC3.out.1.below h4) (And.intro (HC3.out.2.1.below h4) (HC3.out.2.2.trans (h4.mono HC3.out.2.2.size))))
 have HD4:=lH (And.intro (xbn w3 (.slice a3 n3 p3) 36) (hc3.below h3))
 clear hb3 hc3 h3 h4 HC3
 go_wp2_with fail
 generalize w3.alloc (.cells #[.slice a3 n3 p3] 36)=W3 at *
 generalize w3.heap.size=gd at *
 refine(HT4.out _).mono ?_
 rintro e w4 ⟨rfl,hb4⟩
 have HB4:=lH hb4
 clear hb4
 go_wp2_with fail
 refine(HT5.out _).mono ?_
 rintro e w5 ⟨rfl,hb5⟩
 have HB5:=lH (HB4.out.trans (hb5.mono HB4.out.size))
 clear hb5 HB4
 go_wp2_with fail
 refine(HR0.out _).mono ?_
 rintro e w6 ⟨v6,rfl,he6,hb6⟩
 have HB6:=lH (HB5.out.trans (hb6.mono HB5.out.size))
 obtain⟨a6,c6,rfl⟩:=xae he6
 clear hb6 he6 HB5
 go_wp2_with fail
 refine(HR1.out _).mono ?_
 rintro e w7 ⟨v7,rfl,he7,hb7⟩
 have HB7:=lH (HB6.out.trans (hb7.mono HB6.out.size))
 obtain⟨a7,c7,rfl⟩:=xae he7
 clear hb7 he7 HB6
 have HC7:=lH (And.intro (HC4.out.1.below HB7.out) (And.intro (HC4.out.2.1.below HB7.out) (HC4.out.2.2.trans (HB7.out.mono HC4.out.2.2.size))))
 have HD7:=lH (And.intro (HD4.out.1.below HB7.out) (HD4.out.2.below HB7.out))
 have q1:=HC7.out.1.cell
 have q2:=HD7.out.1.cell
 have HSM:=lH (fun X (hX:Below w7.heap.size w7 X)=>xsb (.slice a1 n1 p1) (.slice a3 n3 p3) yL yL X (HC7.out.2.1.below hX) (HD7.out.2.below hX))
 rw[decide_eq_true (rfl:yL=yL)] at HSM
 clear HC4 HD4 HB7
 simp only[List.length_cons,List.length_nil,Nat.zero_add]
 have hst:=xcd (rfl:(({ data:=#[120] }:ByteArray))={ data:=#[120] })
 go_wp2_with fail
 refine(HSM.out _ (Below.refl _ _)).mono ?_
 rintro e w8 ⟨rfl,hb8⟩
 have HB8:=lH (HC7.out.2.2.trans (hb8.mono HC7.out.2.2.size))
 clear hb8 HSM q1 q2 HC7 HD7
 go_wp2_with fail
 go_ret
 exact⟨rfl,HB8.out⟩
theorem naivetells_law (s:ByteArray) (n:Nat) (w:World) (hq:QTab w) (hn:n<18446744073709551616) :
  Calls Tryz.prog 4 #[.string s,.int .u64 (n:Nat)] w fun e w'=>e=.returned (.bool true)∧Below w.heap.size w w':=by
 have HQ:=lH hq
 clear hq
 by_cases hs:3000<s.size
 ·have e1:decide (3000<(s.size:Int))=true:=decide_eq_true (by omega)
  clear hs
  go_enter Tryz.func4,Tryz.ntmps4
  go_wp2_with fail
  refine(xce _ HQ.out).mono ?_
  rintro e w1 ⟨rfl,hbz⟩
  have HB:=lH hbz
  clear hbz
  go_wp2_with fail
  go_ret
  exact⟨rfl,HB.out⟩
 ·have e1:decide (3000<(s.size:Int))=false:=decide_eq_false (by omega)
  have HR1:=lH (fun W=>xdb s W (by omega))
  have HR2:=lH (fun W=>xe1 s W (by omega))
  have HC1:=lH (fun W=>xfQ s W (by omega))
  have HC2:=lH (fun W=>xm1 s W (by omega))
  have HT1:=lH (fun W=>xeb s (n:Int) W (by omega))
  have HT2:=lH (fun W=>xnU s (n:Int) W (by omega))
  have hl:=xk0 s
  unfold xgI at HR1 HR2
  generalize nvR s=R at *
  generalize nvC s=C at *
  generalize nvT s (n:Int)=T at *
  obtain⟨rl,rd,rz⟩:=R
  obtain⟨cl,cz⟩:=C
  obtain⟨tt,tb,tz⟩:=T
  dsimp only at *
  clear hs
  go_enter Tryz.func4,Tryz.ntmps4
  go_wp2_with fail
  refine(HR1.out _).mono ?_
  rintro e w1 ⟨v1,rfl,he1,hb1⟩
  have HB1:=lH hb1
  have HE1:=lH he1
  obtain⟨a1,c1,rfl⟩:=xae he1
  clear hb1 he1 HR1
  go_wp2_with fail
  refine(HR2.out _).mono ?_
  rintro e w2 ⟨v2,rfl,he2,hb2⟩
  have HB2:=lH (HB1.out.trans (hb2.mono HB1.out.size))
  have HE2:=lH (And.intro (HE1.out.below hb2) he2)
  obtain⟨a2,c2,rfl⟩:=xae he2
  clear hb2 he2 HR2 HB1 HE1
  go_wp2_with fail
  refine(HC1.out _).mono ?_
  rintro e w3 ⟨s3,rfl,hc3,hb3⟩
  obtain⟨a3,n3,p3,rfl⟩:=hc3.form
  have h3:=xah w3 (.cells #[.slice a3 n3 p3] 36)
  have hx:=hb3.trans (h3.mono hb3.size)
  have HB3:=lH (HB2.out.trans (hx.mono HB2.out.size))
  have HE3:=lH (And.intro (HE2.out.1.below hx) (HE2.out.2.below hx))
  have HD3:=lH (And.intro (xbn w3 (.slice a3 n3 p3) 36) (hc3.below h3))
  clear hb3 hc3 h3 hx HC1 HB2 HE2
  go_wp2_with fail
  generalize w3.alloc (.cells #[.slice a3 n3 p3] 36)=W3 at *
  generalize w3.heap.size=gd at *
  refine(HC2.out _).mono ?_
  rintro e w4 ⟨v4,rfl,hi4,hb4⟩
  have HB4:=lH (HB3.out.trans (hb4.mono HB3.out.size))
  have HX4:=lH hb4
  have HI4:=lH hi4
  obtain⟨a4,p4,rfl⟩:∃ a c,v4=.slice a cl.length c:=by
   obtain⟨a,c,e,_⟩:=hi4
   exact⟨a,c,e⟩
  clear hb4 hi4 HC2 HB3
  go_wp2_with fail
  refine(HT1.out _).mono ?_
  rintro e w5 ⟨rfl,hb5⟩
  have HX5:=lH (HX4.out.trans (hb5.mono HX4.out.size))
  have HI5:=lH (HI4.out.below hb5)
  have HB5:=lH (HB4.out.trans (hb5.mono HB4.out.size))
  clear hb5 HT1 HX4 HI4 HB4
  go_wp2_with fail
  refine(HT2.out _).mono ?_
  rintro e w6 ⟨rfl,hb6⟩
  have HX6:=lH (HX5.out.trans (hb6.mono HX5.out.size))
  have HI6:=lH (HI5.out.below hb6)
  have HB6:=lH (HB5.out.trans (hb6.mono HB5.out.size))
  clear hb6 HT2 HX5 HI5 HB5
  have HE6:=lH (And.intro (HE3.out.1.below HX6.out) (HE3.out.2.below HX6.out))
  have HD6:=lH (And.intro (HD3.out.1.below HX6.out) (HD3.out.2.below HX6.out))
  clear HX6 HE3 HD3
  have HEB:=lH (xn2 _ rl w6 HE6.out.1 (by omega))
  unfold xmy at HEB
  go_wp2_with fail
  refine HEB.out.mono ?_
  rintro e w7 ⟨v7,rfl,ho7,hb7⟩
  have HSE:=lH (xnh v7 _ rl rl w7 ho7.ensAt (HE6.out.2.below hb7))
  rw[decide_eq_true (rfl:rl=rl)] at HSE
  have HD7:=lH (And.intro (HD6.out.1.below hb7) (HD6.out.2.below hb7))
  have HI7:=lH (HI6.out.below hb7)
  have HB7:=lH (HB6.out.trans (hb7.mono HB6.out.size))
  obtain⟨a7,c7,rfl⟩:=xae ho7.ensAt
  clear hb7 ho7 HEB HE6 HD6 HI6 HB6
  go_wp2_with fail
  refine HSE.out.mono ?_
  rintro e w8 ⟨rfl,hb8⟩
  have HD8:=lH (And.intro (HD7.out.1.below hb8) (HD7.out.2.below hb8))
  have HI8:=lH (HI7.out.below hb8)
  have HB8:=lH (HB7.out.trans (hb8.mono HB7.out.size))
  have q8:=HD8.out.1.cell
  have hst:=xcd (rfl:rd=rd)
  have hsu:=xcd (rfl:tt=tt)
  have HIT:=lH (xjU _ cl w8 HD8.out.2)
  clear hb8 HSE HD7 HI7 HB7
  go_wp2_with fail
  refine HIT.out.mono ?_
  rintro e w9 ⟨v9,rfl,hi9,hb9⟩
  have HI9:=lH (HI8.out.below hb9)
  have HB9:=lH (HB8.out.trans (hb9.mono HB8.out.size))
  have hcl:=HD8.out.2.good.few
  have HBK:=lH (xsB v9 cl w9 hi9 (by omega))
  unfold xuO at HBK
  obtain⟨a9,c9,rfl⟩:∃ a c,v9=.slice a cl.length c:=by
   obtain⟨a,c,e,_⟩:=hi9
   exact⟨a,c,e⟩
  clear hi9 hb9 hcl HIT HI8 HB8 HD8 q8
  go_wp2_with fail
  refine HBK.out.mono ?_
  rintro e w10 ⟨v10,rfl,ho10,hb10⟩
  have HSI:=lH (xrv v10 _ cl cl w10 ho10.itsAt (HI9.out.below hb10))
  rw[decide_eq_true (rfl:cl=cl)] at HSI
  have HB10:=lH (HB9.out.trans (hb10.mono HB9.out.size))
  obtain⟨a10,c10,rfl⟩:∃ a c,v10=.slice a cl.length c:=by
   obtain⟨a,c,e,_⟩:=ho10.itsAt
   exact⟨a,c,e⟩
  clear ho10 hb10 HBK HI9 HB9
  go_wp2_with fail
  refine HSI.out.mono ?_
  rintro e w11 ⟨rfl,hb11⟩
  have HB11:=lH (HB10.out.trans (hb11.mono HB10.out.size))
  clear hb11 HSI HB10
  go_wp2_with fail
  refine(xce _ (HQ.out.below HB11.out)).mono ?_
  rintro e w12 ⟨rfl,hb12⟩
  have HB12:=lH (HB11.out.trans (hb12.mono HB11.out.size))
  clear hb12 HB11
  go_wp2_with fail
  go_ret
  exact⟨rfl,HB12.out⟩
theorem xqs:∀ (q:Nat) (l:List It) (s:ByteArray),xbx q l=some s→(q,s) ∈ l
 | q,[],s,h=>by cases h
 | q,t :: l,s,h=>by
  rw[xbx] at h
  split at h
  ·rename_i h1
   injection h with h
   rw[← h1,← h]
   exact List.mem_cons_self
  ·exact List.mem_cons_of_mem _ (xqs q l s h)
theorem xrq (d:ByteArray) (q:Nat):∀ (l:List En),(∀ e ∈ l,xaY e∧ckN e=0∧TellE e d)→xog d (xh6 l (q:Int))=(xrS (xbx q (xiR l d)),(xbx q (xiR l d)).isSome,0)
 | [],_=>rfl
 | e :: l,h=>by
  obtain⟨hm,hc,ht⟩:=h e (by simp)
  have hr:=xwn e d hm hc q
  have he:xiR (e :: l) d=xg4 e d++xiR l d:=by simp[xiR]
  rw[he,xkN]
  by_cases hh:xic e (q:Int)=true
  ·have hf:xh6 (e :: l) (q:Int)=some e:=by unfold xh6;simp[hh]
   rw[hf]
   have hs:(xbx q (xg4 e d)).isSome=true:=(xbS q _).2 (hr.1 hh)
   obtain⟨s,hs2⟩:=Option.isSome_iff_exists.1 hs
   have hmem:=xqs q _ s hs2
   obtain⟨k,_,hk⟩:=(xeu e d _).1 hmem
   have hx:s=txN e d:=by injection hk
   rw[hs2]
   dsimp only
   unfold xog
   dsimp only
   rw[if_neg (by have:=ht.inn;omega),hx]
   unfold txN xrS
   unfold xaY at hm
   rw[Int.toNat_add (by omega) (by omega)]
   rfl
  ·have hf:xh6 (e :: l) (q:Int)=xh6 l (q:Int):=by unfold xh6;simp[hh]
   have hn:xbx q (xg4 e d)=none:=by
    cases hg:xbx q (xg4 e d) with
    | none=>rfl
    | some s=>exact absurd (hr.2 ((xbS q _).1 (by rw[hg];rfl))) hh
   rw[hf,hn]
   exact xrq d q l (fun x hx=>h x (List.mem_cons_of_mem _ hx))
theorem xv1 {s:ByteArray} (h:(nvC s).2=0) (q:Nat):nvT s (q:Int)=(xrS (xbx q (nvC s).1),(xbx q (nvC s).1).isSome,0):=by
 obtain⟨hm,hr⟩:=xg2 s
 unfold nvT
 by_cases h1:(nvR s).2.2=0
 ·rw[if_neg (by simpa using h1)]
  unfold nvC at h ⊢
  rw[if_neg (by simpa using h1)] at h ⊢
  unfold xcT at h ⊢
  rw[if_neg (by simpa using hr)] at h ⊢
  obtain⟨⟨C,z⟩,hB⟩:∃ X,xb2 (nvR s).1 (nvR s).2.1 [] 0=X:=⟨_,rfl⟩
  rw[hB] at h ⊢
  dsimp only at h ⊢
  subst h
  obtain⟨b1,b2,_⟩:=xfV _ _ _ _ _ hB
  rw[b2,List.nil_append]
  exact xrq _ q _ (fun e he=>⟨hm e he,xo5 hm hr e he,b1 e he⟩)
 ·unfold nvC at h
  rw[if_pos h1] at h
  exact absurd h h1
theorem xw9 {s:ByteArray} (h:(nvC s).2≠0):(nvC s).1=[]:=by
 unfold nvC at h ⊢
 split
 ·rfl
 ·rename_i h1
  rw[if_neg h1] at h
  exact xov h
theorem naivetiles_law (s:ByteArray) (n:Nat) (w:World) (hq:QTab w) (hn:n<18446744073709551616) :
  Calls Tryz.prog 6 #[.string s,.int .u64 (n:Nat)] w fun e w'=>e=.returned (.bool true)∧Below w.heap.size w w':=by
 have HQ:=lH hq
 clear hq
 by_cases hs:3000<s.size
 ·have e1:decide (3000<(s.size:Int))=true:=decide_eq_true (by omega)
  clear hs
  go_enter Tryz.func6,Tryz.ntmps6
  go_wp2_with fail
  refine(xce _ HQ.out).mono ?_
  rintro e w1 ⟨rfl,hbz⟩
  have HB:=lH hbz
  clear hbz
  go_wp2_with fail
  go_ret
  exact⟨rfl,HB.out⟩
 ·have e1:decide (3000<(s.size:Int))=false:=decide_eq_false (by omega)
  have HC1:=lH (fun W=>xfQ s W (by omega))
  have HT:=lH (fun x W=>xeb s x W (by omega))
  have htl:=fun h x=>xv1 (s:=s) h x
  have hbd:=fun h=>xw9 (s:=s) h
  generalize nvC s=C at *
  generalize nvT s=T at *
  obtain⟨cl,cz⟩:=C
  dsimp only at *
  clear hs
  go_enter Tryz.func6,Tryz.ntmps6
  go_wp2_with fail
  refine(HC1.out _).mono ?_
  rintro e w3 ⟨s3,rfl,hc3,hb3⟩
  obtain⟨a3,n3,p3,rfl⟩:=hc3.form
  have h3:=xah w3 (.cells #[.slice a3 n3 p3] 36)
  have hx:=hb3.trans (h3.mono hb3.size)
  have HB3:=lH hx
  have HD3:=lH (And.intro (xbn w3 (.slice a3 n3 p3) 36) (hc3.below h3))
  clear hb3 hc3 h3 hx HC1
  by_cases hz:cz=0
  ·subst hz
   have HTL:=lH (fun x=>htl rfl x)
   clear htl hbd
   go_wp2_with fail
   generalize w3.alloc (.cells #[.slice a3 n3 p3] 36)=W3 at *
   generalize w3.heap.size=gd at *
   have HT1:=lH (HT.out (n:Int) W3)
   rw[HTL.out n] at HT1
   refine HT1.out.mono ?_
   rintro e w4 ⟨rfl,hb4⟩
   have HB4:=lH (HB3.out.trans (hb4.mono HB3.out.size))
   have HD4:=lH (And.intro (HD3.out.1.below hb4) (HD3.out.2.below hb4))
   have HG:=lH (xtR _ cl n w4 HD4.out.2 hn)
   have q4:=HD4.out.1.cell
   clear hb4 HT1 HB3 HD3
   go_wp2_with fail
   refine HG.out.mono ?_
   rintro e w5 ⟨rfl,hb5⟩
   have HB5:=lH (HB4.out.trans (hb5.mono HB4.out.size))
   have HD5:=lH (And.intro (HD4.out.1.below hb5) (HD4.out.2.below hb5))
   have q5:=HD5.out.1.cell
   have hst:=xcd (rfl:xrS (xbx n cl)=xrS (xbx n cl))
   have HIT:=lH (xjU _ cl w5 HD5.out.2)
   clear hb5 HG HB4 HD4 q4
   generalize xrS (xbx n cl)=tt at *
   generalize (xbx n cl).isSome=tb at *
   go_wp2_with fail
   refine HIT.out.mono ?_
   rintro e w6 ⟨v6,rfl,hi6,hb6⟩
   have HB6:=lH (HB5.out.trans (hb6.mono HB5.out.size))
   have HI6:=lH hi6
   have HG:=lH HD5.out.2.good
   obtain⟨a6,c6,rfl⟩:∃ a c,v6=.slice a cl.length c:=by
    obtain⟨a,c,e,_⟩:=hi6
    exact⟨a,c,e⟩
   have hfew:=HG.out.few
   clear hi6 hb6 HIT HB5 HD5 q5
   go_wp2_with fail
   go_loopw [13] (fun x wr=>∃ i:Nat,i≤cl.length∧i≤5∧x=.int .i64 i∧Hid (Below w.heap.size w wr)∧Hid (Below w6.heap.size w6 wr)) (fun x _=>cl.length - (intOf x).toNat)
   case atStart=>exact⟨0,Nat.zero_le _,by omega,rfl,HB6,lH (Below.refl _ _)⟩
   case round =>
    obtain⟨i,hi,hi5,rfl,HBW,HBX⟩:=hrel
    by_cases hlt:i<cl.length∧i<5
    ·obtain⟨hl1,hl2⟩:=hlt
     obtain⟨⟨x,t⟩,ht⟩:∃ t,cl[i]?=some t:=⟨_,List.getElem?_eq_getElem hl1⟩
     obtain⟨a',c',hav,_,_,hcc⟩:=HI6.out.below HBX.out
     obtain⟨g,off,rfl,hg,k0,k1⟩:=hcc i (x,t) ht
     cases hav
     have hi2:(i:Int)<(cl.length:Int):=by omega
     have hi3:(i:Int)<5:=by omega
     have HT1:=lH (HT.out (x:Int) wr)
     rw[HTL.out x,xuH HG.out.rise i (x,t) ht] at HT1
     have HCC:=lH (fun X (hX:Below wr.heap.size wr X)=>(hX.cell (p:=⟨g,off+i*2+1,none⟩) hg).trans k1)
     dsimp only[xrS,Option.getD,Option.isSome] at HT1
     have hst:=xcd (rfl:t=t)
     clear ht hcc hg
     go_wp2_with fail
     refine HT1.out.mono ?_
     rintro e w7 ⟨rfl,hb7⟩
     have HB7:=lH (HBW.out.trans (hb7.mono HBW.out.size))
     have HX7:=lH (HBX.out.trans (hb7.mono HBX.out.size))
     have k2:=HCC.out _ hb7
     clear hb7 HT1 k0 k1 HCC
     go_wp2_with fail
     go_roundw
     case rel=>exact⟨i+1,by omega,by omega,by go_num,HB7,HX7⟩
     case measure=>simp[intOf];omega
    ·have HAW:=lH (xce wr (HQ.out.below HBW.out))
     by_cases hl1:i<cl.length
     ·have hi2:(i:Int)<(cl.length:Int):=by omega
      have hi3:¬ (i:Int)<5:=by omega
      go_wp2_with fail
      refine HAW.out.mono ?_
      rintro e w7 ⟨rfl,hb7⟩
      have HB7:=lH (HBW.out.trans (hb7.mono HBW.out.size))
      clear hb7 HAW
      go_wp2_with fail
      go_ret
      exact⟨rfl,HB7.out⟩
     ·have hi2:¬ (i:Int)<(cl.length:Int):=by omega
      go_wp2_with fail
      refine HAW.out.mono ?_
      rintro e w7 ⟨rfl,hb7⟩
      have HB7:=lH (HBW.out.trans (hb7.mono HBW.out.size))
      clear hb7 HAW
      go_wp2_with fail
      go_ret
      exact⟨rfl,HB7.out⟩
  ·have hcl:=hbd hz
   subst hcl
   have e2:(cz == 0)=false:=by simpa using hz
   clear htl hbd hz
   go_wp2_with fail
   generalize w3.alloc (.cells #[.slice a3 n3 p3] 36)=W3 at *
   generalize w3.heap.size=gd at *
   have q3:=HD3.out.1.cell
   have HL:=lH (xmx _ [] W3 HD3.out.2)
   go_wp2_with fail
   refine HL.out.mono ?_
   rintro e w4 ⟨rfl,hb4⟩
   have HB4:=lH (HB3.out.trans (hb4.mono HB3.out.size))
   clear hb4 HL
   go_wp2_with fail
   refine(xce _ (HQ.out.below HB4.out)).mono ?_
   rintro e w5 ⟨rfl,hb5⟩
   have HB5:=lH (HB4.out.trans (hb5.mono HB4.out.size))
   clear hb5
   go_wp2_with fail
   go_ret
   exact⟨rfl,HB5.out⟩
end Go.Proofs.YtjinnigjfopbcaaGreatDoor
namespace Go.Proofs.YtjinnigjfopbcaaGreatDoor
set_option linter.unusedVariables false
set_option linter.unusedSimpArgs false
open Go.RowKit
set_option maxRecDepth 20000
end Go.Proofs.YtjinnigjfopbcaaGreatDoor
