/- Zc Z2 Zd Zk Z3 Ze Zf Zg Zh Z4. -/
import Derived.Test.YtdnmgpcfgcidbaaGreatDoorTZ4
import Derived.Test.YtdnmgpcfgcidbaaGreatDoorTa12
import Derived.Test.YtdnmgpcfgcidbaaGreatDoorTa13
import Derived.Test.YtdnmgpcfgcidbaaGreatDoorTs
namespace Go.Proofs.YtdnmgpcfgcidbaaGreatDoor
set_option linter.unusedVariables false
set_option linter.unusedSimpArgs false
open Go.RowKit
set_option maxRecDepth 100000
set_option maxHeartbeats 4000000 in
theorem head18_any (s v:Value) (L:List It) (k:Int) (w:World) (h:ChS w s L) (hv:EnsAt w v (rowsS L).1) :
  Calls Tryz.prog 36 #[.agg #[s],.int .u8 k,v] w fun e w'=>e=.returned (.agg (cH (hdP L k)))∧Below w.heap.size w w':=by
 have hg:=h.good
 have hfew:=hg.few
 have hrl:=rows_len hg
 have hcl:=con_le (rowsS L).1
 have hw1:IntKind.u64.wrap (L.length:Int)=(L.length:Int):=by rw[IntKind.wrap_u64] <;> omega
 have hw2:IntKind.u64.wrap ((rowsS L).1.length:Int)=((rowsS L).1.length:Int):=by rw[IntKind.wrap_u64] <;> omega
 have hw3:IntKind.u64.wrap (conN (rowsS L).1:Int)=(conN (rowsS L).1:Int):=by rw[IntKind.wrap_u64] <;> omega
 obtain⟨a5,n5,c5,rfl⟩:=h.form
 have HV:=Lib.hid hv
 obtain⟨ar,cr,rfl,hcr,hmr,_⟩:=hv
 obtain⟨W,hW⟩:∃ W,(w.alloc (.cells #[.slice a5 n5 c5] 29)).alloc (.cells (cH zeroH) 44)=W:=⟨_,rfl⟩
 have h0:One W w.heap.size (.slice a5 n5 c5):=by
  rw[← hW]
  exact(one_new w _ _).alloc _
 have h2:HAt W (w.heap.size+1) 44 zeroH:=by
  have:=HAt.made (w.alloc (.cells #[.slice a5 n5 c5] 29)) zeroH 44
  simp only[World.size_alloc] at this
  rw[← hW]
  exact this
 have hbw:Below w.heap.size w W:=by rw[← hW];exact((Below.refl _ w).alloc (Nat.le_refl _) _).alloc (by simp) _
 have HM:=Lib.hid (rows_may hg)
 have HZ:=Lib.hid (zooms_any (.slice a5 n5 c5) L W (h.below hbw))
 have HL:=Lib.hid (fun X (hX:Below W.heap.size W X)=>len_anyC (.slice a5 n5 c5) L X ((h.below hbw).below hX))
 have HC:=Lib.hid (fun X (hX:Below W.heap.size W X)=>pcont_any _ (rowsS L).1 X ((HV.out.below hbw).below hX) HM.out (by omega))
 have H0:=Lib.hid h0
 have H2:=Lib.hid h2
 have HB:=Lib.hid hbw
 have q0:=h0.cell
 have hz:cH zeroH=#[.int .u64 0,.int .u64 0,.int .u64 0,.int .u64 0,.int .u64 0,.int .u64 0,.int .u64 0,.int .u64 0,.int .u64 0,.int .u64 0,.int .u64 0,.bool false,.int .u8 0,.int .u8 0,.int .u8 0,.int .i64 0,.int .i64 0,.int .i64 0,.int .i64 0,.int .i64 0,.int .i64 0,.int .i64 0,.int .i64 0,.int .i64 0]:=rfl
 rw[hz] at hW
 have hR:cH (hdP L k)=#[.int .u64 0,.int .u64 0,.int .u64 0,.int .u64 0,.int .u64 0,.int .u64 0,.int .u64 0,.int .u64 0,.int .u64 L.length,.int .u64 (rowsS L).1.length,.int .u64 (conN (rowsS L).1:Nat),.bool true,.int .u8 1,.int .u8 1,.int .u8 k,.int .i64 (zlo L),.int .i64 (zhi L),.int .i64 (-1800000000),.int .i64 (-850511287),.int .i64 1800000000,.int .i64 850511287,.int .i64 (zlo L),.int .i64 0,.int .i64 0]:=rfl
 generalize hX:hdP L k=X at *
 have HR:=Lib.hid hR
 clear h hg h0 h2 hbw hz hcl hX hR
 generalize (rowsS L).1=R at *
 generalize zlo L=zl at *
 generalize zhi L=zh at *
 generalize conN R=cn at *
 go_enter Tryz.func36,Tryz.ntmps36
 go_wp2_with fail
 try rw[hW]
 clear hW
 refine HZ.out.mono ?_
 rintro e w1 ⟨rfl,hb1⟩
 have HB1:=Lib.hid hb1
 have q1:=(H0.out.below hb1).cell
 clear hb1 q0 HZ
 go_wp2_with fail
 refine(HL.out _ HB1.out).mono ?_
 rintro e w2 ⟨rfl,hb2⟩
 have HB2:=Lib.hid (HB1.out.trans (hb2.mono HB1.out.size))
 clear hb2 q1 HB1 HL
 go_wp2_with fail
 refine(HC.out _ HB2.out).mono ?_
 rintro e w3 ⟨rfl,hb3⟩
 have HB3:=Lib.hid (HB2.out.trans (hb3.mono HB2.out.size))
 have HH:=Lib.hid (H2.out.later HB3.out)
 have HBX:=Lib.hid (HB.out.trans (HB3.out.mono HB.out.size))
 clear hb3 HB2 HC
 go_wp2_with (first|(refine wpList_store_row rfl 44 _ _ rfl (w.heap.size+1) _ rfl rfl 44 (cH zeroH) HH.out head_size rfl (by have:=cH_one X;rw[HR.out] at this;exact this) ?_)|fail)
 have hp:=put24 w3 (w.heap.size+1) _ zeroH X HH.out
 rw[← HR.out]
 refine bodyPost_ret (results_cell_row rfl _ _ (w.heap.size+1) 44 (cH X) (0,0) _ rfl hp.1 Tryz.underlying44 rfl head_size) rfl ⟨rfl,hp.2.2.1 _ _ (by omega) HBX.out⟩
theorem rh18_size:(Tryz.prog.info? 49).map (·.size)=some 24:=by kernel_rfl
set_option maxHeartbeats 4000000 in
theorem rhead18_any (v:Value) (L:List It) (k:Int) (w:World) (hv:ItsAt w v L) (hg:GoodC L) :
  Calls Tryz.prog 16 #[v,.int .u8 k] w fun e w'=>e=.returned (.agg (cH (hdP L k)))∧Below w.heap.size w w':=by
 have hfew:=hg.few
 have hrl:=rows_len hg
 have hcl:=con_le (rowsS L).1
 have hw1:IntKind.u64.wrap (L.length:Int)=(L.length:Int):=by rw[IntKind.wrap_u64] <;> omega
 have hw2:IntKind.u64.wrap ((rowsS L).1.length:Int)=((rowsS L).1.length:Int):=by rw[IntKind.wrap_u64] <;> omega
 have hw3:IntKind.u64.wrap (conN (rowsS L).1:Int)=(conN (rowsS L).1:Int):=by rw[IntKind.wrap_u64] <;> omega
 obtain⟨W,hW⟩:∃ W,w.alloc (.cells (cH zeroH) 49)=W:=⟨_,rfl⟩
 have h2:HAt W w.heap.size 49 zeroH:=by
  rw[← hW]
  exact HAt.made w zeroH 49
 have hbw:Below w.heap.size w W:=by rw[← hW];exact(Below.refl _ w).alloc (Nat.le_refl _) _
 have HM:=Lib.hid (rows_may hg)
 have HRW:=Lib.hid (rrows_any v L W (hv.below hbw) hg)
 unfold RRowsEnd at HRW
 have HZ:=Lib.hid (fun X (hX:Below W.heap.size W X)=>rzooms_any v L X ((hv.below hbw).below hX))
 have HC:=Lib.hid (fun v' X (hX:EnsAt X v' (rowsS L).1)=>rcontN_any v' (rowsS L).1 X hX HM.out (by omega))
 have H2:=Lib.hid h2
 have HB:=Lib.hid hbw
 obtain⟨al,cap,rfl,hcap,hmx,_⟩:=hv
 have hz:cH zeroH=#[.int .u64 0,.int .u64 0,.int .u64 0,.int .u64 0,.int .u64 0,.int .u64 0,.int .u64 0,.int .u64 0,.int .u64 0,.int .u64 0,.int .u64 0,.bool false,.int .u8 0,.int .u8 0,.int .u8 0,.int .i64 0,.int .i64 0,.int .i64 0,.int .i64 0,.int .i64 0,.int .i64 0,.int .i64 0,.int .i64 0,.int .i64 0]:=rfl
 rw[hz] at hW
 have hR:cH (hdP L k)=#[.int .u64 0,.int .u64 0,.int .u64 0,.int .u64 0,.int .u64 0,.int .u64 0,.int .u64 0,.int .u64 0,.int .u64 L.length,.int .u64 (rowsS L).1.length,.int .u64 (conN (rowsS L).1:Nat),.bool true,.int .u8 1,.int .u8 1,.int .u8 k,.int .i64 (zlo L),.int .i64 (zhi L),.int .i64 (-1800000000),.int .i64 (-850511287),.int .i64 1800000000,.int .i64 850511287,.int .i64 (zlo L),.int .i64 0,.int .i64 0]:=rfl
 generalize hX:hdP L k=X at *
 have HR:=Lib.hid hR
 clear hg h2 hbw hz hcl hX hR
 generalize (rowsS L).1=R at *
 generalize zlo L=zl at *
 generalize zhi L=zh at *
 generalize conN R=cn at *
 go_enter Tryz.func16,Tryz.ntmps16
 go_wp2_with fail
 try rw[hW]
 clear hW
 refine HRW.out.mono ?_
 rintro e w1 ⟨v',rfl,hv1,hb1⟩
 have HB1:=Lib.hid hb1
 have HV1:=Lib.hid hv1
 obtain⟨ar,cr,rfl,hcr,hmr,_⟩:=hv1
 clear hb1 HRW
 go_wp2_with fail
 refine(HZ.out _ HB1.out).mono ?_
 rintro e w2 ⟨rfl,hb2⟩
 have HB2:=Lib.hid (HB1.out.trans (hb2.mono HB1.out.size))
 have HV2:=Lib.hid (HV1.out.below hb2)
 clear hb2 HB1 HZ HV1
 go_wp2_with fail
 refine(HC.out _ _ HV2.out).mono ?_
 rintro e w3 ⟨rfl,hb3⟩
 have HB3:=Lib.hid (HB2.out.trans (hb3.mono HB2.out.size))
 have HH:=Lib.hid (H2.out.later HB3.out)
 have HBX:=Lib.hid (HB.out.trans (HB3.out.mono HB.out.size))
 clear hb3 HB2 HC HV2
 go_wp2_with (first|(refine wpList_store_row rfl 49 _ _ rfl w.heap.size _ rfl rfl 49 (cH zeroH) HH.out rh18_size rfl (by have:=cH_one X;rw[HR.out] at this;exact this) ?_)|fail)
 have hp:=put24 w3 w.heap.size _ zeroH X HH.out
 rw[← HR.out]
 refine bodyPost_ret (results_cell_row rfl _ _ w.heap.size 49 (cH X) (0,0) _ rfl hp.1 Tryz.underlying49 rfl rh18_size) rfl ⟨rfl,hp.2.2.1 _ _ (by omega) HBX.out⟩
theorem close18 (gb ge:Nat) (x y:Int) (u:FrameMode) (w:World) (hb:One w gb (.int .i64 x)) (he:One w ge (.int .i64 y)) :
  CallsD Tryz.prog 31 #[.pointer (some ⟨gb,0,none⟩),.pointer (some ⟨ge,0,none⟩)] u w fun e u' w'=>u'=u∧(e=.returned (.tuple #[])∧w'=w.setCell ⟨ge,0,none⟩ (.int .i64 x)):=by
 have h1:=hb.cell
 have h2:=he.cell
 have h3:=he.frz
 go_enter_d Tryz.func31,Tryz.ntmps31
 go_wp2
 go_end0
 exact⟨rfl,rfl⟩
theorem Box.set_other {w:World} {g g':Nat} {x:Array Value} (h:Box w g x) (hn:g≠g') (x':Value):Box (w.setCell ⟨g',0,none⟩ x') g x:=by
 obtain⟨T,h⟩:=h
 exact⟨T,hother h hn _ _⟩
theorem EnsAt.set18 {w:World} {v:Value} {l:List En} (h:EnsAt w v l) {g:Nat} {x:Value} (ho:One w g x) (x':Value):EnsAt (w.setCell ⟨g,0,none⟩ x') v l:=by
 obtain⟨T,hh⟩:=ho
 obtain⟨a,cap,rfl,h1,h2,hc⟩:=h
 refine⟨a,cap,rfl,h1,h2,fun k t ht=>?_⟩
 obtain⟨g',off,ha,hg,c0,c1,c2,c3⟩:=hc k t ht
 have hn:g'≠g:=by
  rintro rfl
  simp[World.cell?,hh] at c3
 have hb:(w.setCell ⟨g,0,none⟩ x').heap[g']?=w.heap[g']?:=Below.heap_setCell _ _ _ _ (by simpa using hn)
 exact⟨g',off,ha,by simpa using hg,(World.cell?_of_block (a:=⟨g',_,none⟩) hb).trans c0,(World.cell?_of_block (a:=⟨g',_,none⟩) hb).trans c1,(World.cell?_of_block (a:=⟨g',_,none⟩) hb).trans c2,(World.cell?_of_block (a:=⟨g',_,none⟩) hb).trans c3⟩
theorem plan_size:(Tryz.prog.info? 35).map (·.size)=some 3:=by kernel_rfl
structure StP (w W:World) (g0 g1 g2 g3:Nat) (s:Value) (L:List It) (b k:Int) (t:ByteArray) (z:Int):Prop where
 ord:w.heap.size≤g2∧w.heap.size≤g3∧g0≠g3∧g1≠g3∧g2≠g3
 ch:One W g0 s
 pl:Box W g1 (planV b k t)
 e:One W g2 (.int .i64 0)
 bad:One W g3 (.int .i64 z)
 its:ChS W s L
 bel:Below w.heap.size w W
theorem StP.below {w W X:World} {g0 g1 g2 g3:Nat} {s:Value} {L:List It} {b k:Int} {t:ByteArray} {z:Int} (h:StP w W g0 g1 g2 g3 s L b k t z) (hb:Below W.heap.size W X):StP w X g0 g1 g2 g3 s L b k t z :=
 ⟨h.ord,h.ch.below hb,h.pl.below hb,h.e.below hb,h.bad.below hb,h.its.below hb,h.bel.trans (hb.mono h.bel.size)⟩
theorem StP.tell {w W:World} {g0 g1 g2 g3:Nat} {s:Value} {L:List It} {b k:Int} {t:ByteArray} {z:Int} (h:StP w W g0 g1 g2 g3 s L b k t z) (y:Int):StP w (W.setCell ⟨g3,0,none⟩ (.int .i64 y)) g0 g1 g2 g3 s L b k t y :=
 ⟨h.ord,h.ch.set_other h.ord.2.2.1 _,h.pl.set_other h.ord.2.2.2.1 _,h.e.set_other h.ord.2.2.2.2 _,h.bad.set _,h.its.set h.bad _,h.bel.setCell (p:=⟨g3,0,none⟩) h.ord.2.1 _⟩
theorem StP.facts {w W:World} {g0 g1 g2 g3:Nat} {s:Value} {L:List It} {b k:Int} {t:ByteArray} {z:Int} (h:StP w W g0 g1 g2 g3 s L b k t z) :
  W.cell? ⟨g0,0,none⟩=some s∧W.cell? ⟨g1,0,none⟩=some (.int .i64 b)∧W.cell? ⟨g1,1,none⟩=some (.int .u8 k)∧W.cell? ⟨g1,2,none⟩=some (.string t) ∧
  W.cell? ⟨g3,0,none⟩=some (.int .i64 z)∧W.frozen? ⟨g3,0,none⟩=false∧(loadVar 35 ⟨g1,0,none⟩).run Tryz.prog W=.ok (.agg (planV b k t)) W:=by
 refine⟨h.ch.cell,by rw[h.pl.cell];rfl,by rw[h.pl.cell];rfl,by rw[h.pl.cell];rfl,h.bad.cell,h.bad.frz,?_⟩
 obtain⟨T,hT⟩:=h.pl
 exact run_loadVar_row W g1 T _ _ (0,0) _ hT Tryz.underlying35 rfl plan_size
theorem StP.shut {w W:World} {g0 g1 g2 g3:Nat} {s:Value} {L:List It} {b k:Int} {t:ByteArray} {z:Int} (h:StP w W g0 g1 g2 g3 s L b k t z) :
  (W.setCell ⟨g2,0,none⟩ (.int .i64 z)).cell? ⟨g2,0,none⟩=some (.int .i64 z)∧Below w.heap.size w (W.setCell ⟨g2,0,none⟩ (.int .i64 z)) :=
 ⟨(h.e.set _).cell,h.bel.setCell (p:=⟨g2,0,none⟩) h.ord.1 _⟩
set_option maxHeartbeats 4000000 in
theorem press18_any (s:Value) (L:List It) (b k:Int) (t:ByteArray) (w:World) (hq:QTab w) (h:ChS w s L) (hl:L.length≤150) (hk:U8 k) (hb:-9223372036854775808≤b∧b≤9223372036854775807) (ht:t.size≤1000000) :
  Calls Tryz.prog 10 #[.agg #[s],.agg (planV b k t)] w fun e w'=>e=.returned (.tuple #[.string (pressN L b k t).1,.int .i64 (pressN L b k t).2])∧Below w.heap.size w w':=by
 have hmf:∀ (fn:Fn) (first cap:Array Value) (w:World),(Instr.makeFunc fn first cap).run Tryz.prog w=.ok (.func fn first cap) w:=fun _ _ _ _=>rfl
 have hg:=h.good
 have hrl:=rows_len hg
 have HQ:=Lib.hid (fun W (hb:Below w.heap.size w W)=>hq.below hb)
 have HCK:=Lib.hid (fun W hq=>check18_any b k t W hq ht)
 obtain⟨a5,n5,c5,rfl⟩:=h.form
 obtain⟨W,hW⟩:∃ W,(((w.alloc (.cells #[.slice a5 n5 c5] 29)).alloc (.cells (planV b k t) 35)).alloc (.cells #[.int .i64 0] 32)).alloc (.cells #[.int .i64 0] 32)=W:=⟨_,rfl⟩
 have hS:StP w W w.heap.size (w.heap.size+1) (w.heap.size+1+1) (w.heap.size+1+1+1) (.slice a5 n5 c5) L b k t 0:=by
  have b1:=(Below.refl w.heap.size w).alloc (Nat.le_refl _) (.cells #[.slice a5 n5 c5] 29)
  have o1:=one_new w (.slice a5 n5 c5) 29
  generalize hW1:w.alloc (.cells #[.slice a5 n5 c5] 29)=W1 at *
  have z1:W1.heap.size=w.heap.size+1:=by rw[← hW1,World.size_alloc]
  have b2:=(Below.refl W1.heap.size W1).alloc (Nat.le_refl _) (.cells (planV b k t) 35)
  have o2:=box_new W1 (planV b k t) 35
  generalize hW2:W1.alloc (.cells (planV b k t) 35)=W2 at *
  have z2:W2.heap.size=w.heap.size+1+1:=by rw[← hW2,World.size_alloc,z1]
  have b3:=(Below.refl W2.heap.size W2).alloc (Nat.le_refl _) (.cells #[.int .i64 0] 32)
  have o3:=one_new W2 (.int .i64 0) 32
  generalize hW3:W2.alloc (.cells #[.int .i64 0] 32)=W3 at *
  have z3:W3.heap.size=w.heap.size+1+1+1:=by rw[← hW3,World.size_alloc,z2]
  have b4:=(Below.refl W3.heap.size W3).alloc (Nat.le_refl _) (.cells #[.int .i64 0] 32)
  have o4:=one_new W3 (.int .i64 0) 32
  rw[hW] at b4 o4
  rw[z1] at o2
  rw[z2] at o3
  rw[z3] at o4
  have c1:=b1.trans ((b2.mono b1.size).trans (((b3.mono b2.size).trans (b4.mono (Nat.le_trans b2.size b3.size))).mono b1.size))
  exact⟨⟨by omega,by omega,by omega,by omega,by omega⟩,((o1.below b2).below b3).below b4,(o2.below b3).below b4,o3.below b4,o4,h.below c1,c1⟩
 unfold planV at hW ⊢
 generalize hP:pressN L b k t=P
 have HP:=Lib.hid hP
 have HS:=Lib.hid hS
 have H0:=Lib.hid h
 clear hq hS h hP
 go_enter_defers Tryz.func10,Tryz.ntmps10
 go_upto_region 3 with fail
 generalize w.heap.size+1+1+1=g3 at *
 generalize w.heap.size+1+1=g2 at *
 generalize w.heap.size+1=g1 at *
 obtain⟨q0,p0,p1,p2,b0,bf,lp⟩:=HS.out.facts
 unfold planV at lp HCK
 obtain⟨cz,hcz⟩:∃ z,ckP b k t=z:=⟨_,rfl⟩
 rw[hcz] at HCK
 have HCZ:=Lib.hid hcz
 clear hcz hW
 go_wp2_with fail
 refine(HCK.out _ (HQ.out _ HS.out.bel)).mono ?_
 rintro e w1 ⟨rfl,hb1⟩
 have HS1:=Lib.hid (HS.out.below hb1)
 obtain⟨_,_,_,_,b1,bf1,_⟩:=HS1.out.facts
 clear HS hb1 q0 p0 p1 p2 b0 bf lp HCK
 by_cases h1:cz=0
 ·subst h1
  have HS2:=Lib.hid (HS1.out.tell 0)
  go_upto_region 5 with fail
  generalize w1.setCell { block:=g3,off:=0 } (Value.int IntKind.i64 0)=w2 at *
  obtain⟨q0,_⟩:=HS2.out.facts
  clear HS1 b1 bf1
  go_wp2_with fail
  refine(rows13_any _ L _ HS2.out.its).mono ?_
  rintro e w3 ⟨v3,rfl,hr3,hb3⟩
  have HS3:=Lib.hid (HS2.out.below hb3)
  obtain⟨_,p0,_⟩:=HS3.out.facts
  have HR3:=Lib.hid hr3
  obtain⟨ar,cr,rfl,hcr,hmr,_⟩:=hr3
  have HSP:=Lib.hid (split14_any _ (rowsS L).1 b _ HR3.out (rows_may hg) (by omega) hb)
  clear HS2 hb3 q0
  unfold SplEnd at HSP
  go_wp2_with fail
  refine HSP.out.mono ?_
  rintro e w4 ⟨v4,rfl,hr4,hb4⟩
  have HS4:=Lib.hid (HS3.out.below hb4)
  have HR4:=Lib.hid (And.intro (HR3.out.below hb4) hr4)
  obtain⟨_,_,_,_,b4,bf4,_⟩:=HS4.out.facts
  clear HS3 hb4 p0 HSP hr4 HR3
  obtain⟨ez,hez⟩:∃ z,(splitN (rowsS L).1 b).err=z:=⟨_,rfl⟩
  have HEZ:=Lib.hid hez
  rw[hez]
  clear hez
  by_cases h2:ez=0
  ·subst h2
   have he:=HEZ.out
   have hbb:b≤16257:=(split_ok he).2.1
   have SP:=spl_of (rows_may hg) (by omega) he
   have HFW:=Lib.hid (few_pt (s:=t) hg hl ht he hbb)
   have HS5:=Lib.hid (HS4.out.tell 0)
   have HR5:=Lib.hid (And.intro (HR4.out.1.set18 HS4.out.bad (.int .i64 0)) (HR4.out.2.set18 HS4.out.bad (.int .i64 0)))
   have HEN:=Lib.hid (fun X hX=>pencD_any v4 (splitN (rowsS L).1 b).root X hX SP.may (by have:=SP.len;omega))
   have HHD:=Lib.hid (fun X (h1:ChS X (.slice a5 n5 c5) L) h2=>head18_any (.slice a5 n5 c5) (.slice ar (rowsS L).1.length cr) L k X h1 h2)
   have HGL:=Lib.hid (fun X=>glue15_any (hdP L k) (ptP L b t) X (may_hd hg hk) HFW.out)
   have HPE0:Hid (P=glueN (hdP L k) (ptP L b t)):=Lib.hid (by rw[← HP.out];unfold pressN;rw[HCZ.out,if_neg (by simp),he,if_neg (by simp)])
   generalize glueN (hdP L k) (ptP L b t)=G at *
   obtain⟨y,z⟩:=G
   have HPE:Hid (P=(y,z)):=HPE0
   unfold pArr ptP at HGL
   dsimp only at HGL
   generalize cH (hdP L k)=Hc at *
   clear SP he HPE0
   go_upto_region 8 with fail
   generalize w4.setCell { block:=g3,off:=0 } (Value.int IntKind.i64 0)=w5 at *
   clear HS4 HR4 b4 bf4
   go_wp2_with fail
   refine(HEN.out _ HR5.out.2).mono ?_
   rintro e w6 ⟨rfl,hb6⟩
   have HS6:=Lib.hid (HS5.out.below hb6)
   have HR6:=Lib.hid (HR5.out.1.below hb6)
   obtain⟨q0,p0,p1,p2,b0,bf,_⟩:=HS6.out.facts
   clear HS5 HR5 hb6 HEN
   go_upto_region 9 with fail
   go_cut [4] from 40 to 54 (fun x wx=>x=.string y∧StP w wx w.heap.size g1 g2 g3 (.slice a5 n5 c5) L b k t z)
   case first =>
    refine wp_mono (Q:=normOnly _) ?_ normOnly_to
    go_region_with (first|(go_at_call 36;refine(HHD.out _ (HS6.out.its.below (by go_grown)) (HR6.out.below (by go_grown))).mono ?_;rintro e wa ⟨rfl,hba⟩;have hbA:Below w6.heap.size w6 wa:=Below.trans (by go_grown) (hba.mono (by simp));obtain⟨_,_,r1,r2,rb,rf,_⟩:=(HS6.out.below hbA).facts)|(go_at_call 35;refine(HGL.out _).mono ?_;rintro e wb ⟨rfl,hbb⟩;have hbB:Below w6.heap.size w6 wb:=hbA.trans (hbb.mono hbA.size);obtain⟨_,_,_,_,sb,sf,_⟩:=(HS6.out.below hbB).facts))
    all_goals
     dsimp only[normOnly]
     go_wp2_with fail
     go_meet
     case rel=>exact⟨rfl,(HS6.out.below hbB).tell z⟩
   case rest =>
    obtain⟨rfl,hS9⟩:=hcut
    generalize wc=w9 at *
    have HS9:=Lib.hid hS9
    clear hS9
    go_wp2_with fail
    refine leaves_cons (f:=31) (args:=#[.pointer (some ⟨g3,0,none⟩),.pointer (some ⟨g2,0,none⟩)]) (by simp) (by simp[go_sem]) ?_
    refine(close18 g3 g2 z 0 .returning _ HS9.out.bad HS9.out.e).mono ?_
    rintro e u' w'' ⟨rfl,rfl,rfl⟩
    obtain⟨k1,k2⟩:=HS9.out.shut
    refine⟨.tuple #[.string y,.int .i64 z],?_,by rw[HPE.out],k2⟩
    clear k2
    generalize w9.setCell { block:=g2,off:=0 } (Value.int IntKind.i64 z)=W9 at *
    simp[results,Tryz.results10,go_sem,k1]
  ·have e2:(ez == 0)=false:=by simp[h2]
   have HS5:=Lib.hid (HS4.out.tell ez)
   have HPE:Hid (P=(noB,ez)):=Lib.hid (by rw[← HP.out];unfold pressN;rw[HCZ.out,if_neg (by simp),HEZ.out,if_pos h2])
   go_wp2_with fail
   refine leaves_cons (f:=31) (args:=#[.pointer (some ⟨g3,0,none⟩),.pointer (some ⟨g2,0,none⟩)]) (by simp) (by simp[go_sem]) ?_
   refine(close18 g3 g2 ez 0 .returning _ HS5.out.bad HS5.out.e).mono ?_
   rintro e u' w'' ⟨rfl,rfl,rfl⟩
   obtain⟨k1,k2⟩:=HS5.out.shut
   refine⟨.tuple #[.string noB,.int .i64 ez],?_,by rw[HPE.out],k2⟩
   clear k2
   generalize (w4.setCell { block:=g3,off:=0 } (Value.int IntKind.i64 ez)).setCell { block:=g2,off:=0 } (Value.int IntKind.i64 ez)=W9 at *
   simp[results,Tryz.results10,go_sem,k1,noB]
 ·have e1:(cz == 0)=false:=by simp[h1]
  have HS2:=Lib.hid (HS1.out.tell cz)
  have HPE:Hid (P=(noB,cz)):=Lib.hid (by rw[← HP.out];unfold pressN;rw[HCZ.out,if_pos h1])
  go_wp2_with fail
  refine leaves_cons (f:=31) (args:=#[.pointer (some ⟨g3,0,none⟩),.pointer (some ⟨g2,0,none⟩)]) (by simp) (by simp[go_sem]) ?_
  refine(close18 g3 g2 cz 0 .returning _ HS2.out.bad HS2.out.e).mono ?_
  rintro e u' w'' ⟨rfl,rfl,rfl⟩
  obtain⟨k1,k2⟩:=HS2.out.shut
  refine⟨.tuple #[.string noB,.int .i64 cz],?_,by rw[HPE.out],k2⟩
  clear k2
  generalize (w1.setCell { block:=g3,off:=0 } (Value.int IntKind.i64 cz)).setCell { block:=g2,off:=0 } (Value.int IntKind.i64 cz)=W9 at *
  simp[results,Tryz.results10,go_sem,k1,noB]
def PlanIn (x:Int × Int × ByteArray):Prop:=(-9223372036854775808≤x.1∧x.1≤9223372036854775807)∧U8 x.2.1∧x.2.2.size≤maxLen
theorem plan24_size:(Tryz.prog.info? 24).map (·.size)=some 3:=by kernel_rfl
theorem plan24_load {W:World} {g:Nat} {b k:Int} {s:ByteArray} (h:Box W g (planV b k s)):(loadVar 24 ⟨g,0,none⟩).run Tryz.prog W=.ok (.agg (planV b k s)) W:=by
 obtain⟨T,hT⟩:=h
 exact run_loadVar_row W g T _ _ (0,0) _ hT Tryz.underlying24 rfl plan24_size
structure StW (w W:World) (g5:Nat) (b k:Int) (t:ByteArray) (s:Value) (L:List It):Prop where
 pl:Box W w.heap.size (planV b k t)
 o5:One W g5 s
 c5:ChS W s L
 bel:Below w.heap.size w W
theorem StW.below {w W X:World} {g5:Nat} {b k:Int} {t:ByteArray} {s:Value} {L:List It} (h:StW w W g5 b k t s L) (hb:Below W.heap.size W X):StW w X g5 b k t s L :=
 ⟨h.pl.below hb,h.o5.below hb,h.c5.below hb,h.bel.trans (hb.mono h.bel.size)⟩
theorem StW.facts {w W:World} {g5:Nat} {b k:Int} {t:ByteArray} {s:Value} {L:List It} (h:StW w W g5 b k t s L) :
  W.cell? ⟨w.heap.size,0,none⟩=some (.int .i64 b)∧W.cell? ⟨w.heap.size,1,none⟩=some (.int .u8 k)∧W.cell? ⟨w.heap.size,2,none⟩=some (.string t)∧W.cell? ⟨g5,0,none⟩=some s∧(loadVar 24 ⟨w.heap.size,0,none⟩).run Tryz.prog W=.ok (.agg (planV b k t)) W :=
 ⟨by rw[h.pl.cell];rfl,by rw[h.pl.cell];rfl,by rw[h.pl.cell];rfl,h.o5.cell,plan24_load h.pl⟩
structure StR (w W:World) (b k:Int) (t:ByteArray) (v:Value) (L:List It):Prop where
 pl:Box W w.heap.size (planV b k t)
 its:ItsAt W v L
 bel:Below w.heap.size w W
theorem StR.below {w W X:World} {b k:Int} {t:ByteArray} {v:Value} {L:List It} (h:StR w W b k t v L) (hb:Below W.heap.size W X):StR w X b k t v L :=
 ⟨h.pl.below hb,h.its.below hb,h.bel.trans (hb.mono h.bel.size)⟩
theorem StR.facts {w W:World} {b k:Int} {t:ByteArray} {v:Value} {L:List It} (h:StR w W b k t v L) :
  W.cell? ⟨w.heap.size,0,none⟩=some (.int .i64 b)∧W.cell? ⟨w.heap.size,1,none⟩=some (.int .u8 k)∧W.cell? ⟨w.heap.size,2,none⟩=some (.string t)∧(loadVar 24 ⟨w.heap.size,0,none⟩).run Tryz.prog W=.ok (.agg (planV b k t)) W :=
 ⟨by rw[h.pl.cell];rfl,by rw[h.pl.cell];rfl,by rw[h.pl.cell];rfl,plan24_load h.pl⟩
set_option maxHeartbeats 4000000 in
theorem rpress18_any (v:Value) (L:List It) (b k:Int) (t:ByteArray) (w:World) (hv:ItsAt w v L) (hg:GoodC L) (hl:L.length≤150) (hk:U8 k) (hb:-9223372036854775808≤b∧b≤9223372036854775807) (ht:t.size≤1000000) :
  Calls Tryz.prog 11 #[v,.agg (planV b k t)] w fun e w'=>e=.returned (.tuple #[.string (pressN L b k t).1,.int .i64 (pressN L b k t).2])∧Below w.heap.size w w':=by
 have hrl:=rows_len hg
 have HCK:=Lib.hid (fun W=>rcheck18_any b k t W ht)
 obtain⟨W0,hW⟩:∃ W,w.alloc (.cells (planV b k t) 24)=W:=⟨_,rfl⟩
 have hS:StR w W0 b k t v L:=by
  have hba:=below_oneC w (.cells (planV b k t) 24)
  have hbx:=box_new w (planV b k t) 24
  rw[hW] at hba hbx
  exact⟨hbx,hv.below hba,hba⟩
 have HS:=Lib.hid hS
 obtain⟨al,cap,hvf,_⟩:=hv
 unfold planV at hW ⊢
 generalize hP:pressN L b k t=P
 have HP:=Lib.hid hP
 clear hS hP
 subst hvf
 go_enter Tryz.func11,Tryz.ntmps11
 go_upto_region 1 with fail
 obtain⟨p0,p1,p2,lp⟩:=HS.out.facts
 unfold planV at lp HCK
 obtain⟨cz,hcz⟩:∃ z,ckP b k t=z:=⟨_,rfl⟩
 rw[hcz] at HCK
 have HCZ:=Lib.hid hcz
 clear hcz hW
 go_wp2_with fail
 refine(HCK.out _).mono ?_
 rintro e w1 ⟨rfl,hb1⟩
 have HS1:=Lib.hid (HS.out.below hb1)
 clear HS hb1 p0 p1 p2 lp HCK
 by_cases h1:cz=0
 ·subst h1
  have HRW:=Lib.hid (rrows_any _ L _ HS1.out.its hg)
  unfold RRowsEnd at HRW
  go_wp2_with fail
  refine HRW.out.mono ?_
  rintro e w3 ⟨v3,rfl,hr3,hb3⟩
  have HS3:=Lib.hid (HS1.out.below hb3)
  obtain⟨p0,_⟩:=HS3.out.facts
  have HR3:=Lib.hid hr3
  obtain⟨ar,cr,rfl,hcr,hmr,_⟩:=hr3
  have HSP:=Lib.hid (rsplit_any _ (rowsS L).1 b _ HR3.out (rows_may hg) (by omega) hb)
  clear HS1 hb3 HRW
  unfold SplEnd at HSP
  go_wp2_with fail
  refine HSP.out.mono ?_
  rintro e w4 ⟨v4,rfl,hr4,hb4⟩
  have HS4:=Lib.hid (HS3.out.below hb4)
  have HR4:=Lib.hid hr4
  clear HS3 hb4 p0 HSP hr4 HR3
  obtain⟨ez,hez⟩:∃ z,(splitN (rowsS L).1 b).err=z:=⟨_,rfl⟩
  have HEZ:=Lib.hid hez
  rw[hez]
  clear hez
  by_cases h2:ez=0
  ·subst h2
   have he:=HEZ.out
   have hbb:b≤16257:=(split_ok he).2.1
   have SP:=spl_of (rows_may hg) (by omega) he
   have HFW:=Lib.hid (few_pt (s:=t) hg hl ht he hbb)
   have HEN:=Lib.hid (fun X hX=>rencD_any v4 (splitN (rowsS L).1 b).root X hX SP.may (by have:=SP.len;omega))
   have HHD:=Lib.hid (fun X (h1:ItsAt X (.slice al L.length cap) L)=>rhead18_any (.slice al L.length cap) L k X h1 hg)
   have HGL:=Lib.hid (fun X=>rglue_any (hdP L k) (ptP L b t) X (may_hd hg hk) HFW.out)
   have HPE0:Hid (P=glueN (hdP L k) (ptP L b t)):=Lib.hid (by rw[← HP.out];unfold pressN;rw[HCZ.out,if_neg (by simp),he,if_neg (by simp)])
   generalize glueN (hdP L k) (ptP L b t)=G at *
   obtain⟨y,z⟩:=G
   have HPE:Hid (P=(y,z)):=HPE0
   unfold pArr ptP at HGL
   dsimp only at HGL
   generalize cH (hdP L k)=Hc at *
   clear SP he HPE0
   go_wp2_with fail
   refine(HEN.out _ HR4.out).mono ?_
   rintro e w6 ⟨rfl,hb6⟩
   have HS6:=Lib.hid (HS4.out.below hb6)
   obtain⟨p0,p1,p2,_⟩:=HS6.out.facts
   clear HS4 hb6 HEN HR4
   go_upto_region 9 with fail
   go_region_with (first|(go_at_call 16;refine(HHD.out _ (HS6.out.its.below (by go_grown))).mono ?_;rintro e wa ⟨rfl,hba⟩;have hbA:Below w6.heap.size w6 wa:=Below.trans (by go_grown) (hba.mono (by simp));obtain⟨_,r1,r2,_⟩:=(HS6.out.below hbA).facts)|(go_at_call 40;refine(HGL.out _).mono ?_;rintro e wb ⟨rfl,hbb⟩;have hbB:Below w6.heap.size w6 wb:=hbA.trans (hbb.mono hbA.size)))
   all_goals
    go_wp2_with fail
    refine bodyPost_ret (v:=.tuple #[.string y,.int .i64 z]) (by simp[results,Tryz.results11,go_sem]) rfl ⟨by rw[HPE.out],(HS6.out.below hbB).bel⟩
  ·have e2:(ez != 0)=true:=bne_iff_ne.2 h2
   have HPE:Hid (P=(noB,ez)):=Lib.hid (by rw[← HP.out];unfold pressN;rw[HCZ.out,if_neg (by simp),HEZ.out,if_pos h2])
   go_wp2_with fail
   refine bodyPost_ret (v:=.tuple #[.string { data:=#[] },.int .i64 ez]) (by simp[results,Tryz.results11,go_sem]) rfl ⟨by rw[HPE.out];rfl,HS4.out.bel⟩
 ·have e1:(cz != 0)=true:=bne_iff_ne.2 h1
  have HPE:Hid (P=(noB,cz)):=Lib.hid (by rw[← HP.out];unfold pressN;rw[HCZ.out,if_pos h1])
  go_wp2_with fail
  refine bodyPost_ret (v:=.tuple #[.string { data:=#[] },.int .i64 cz]) (by simp[results,Tryz.results11,go_sem]) rfl ⟨by rw[HPE.out];rfl,HS1.out.bel⟩
def xT:ByteArray:={ data:=#[120] }
def xL:List It:=[(0,xT)]
def obT:ByteArray:={ data:=#[123,125] }
def lsT:ByteArray:={ data:=#[91,93] }
def arT:ByteArray:={ data:=#[80,77,84,105,108,101,115,3,127,0,0,0,0,0,0,0,5,0,0,0,0,0,0,0,132,0,0,0,0,0,0,0,2,0,0,0,0,0,0,0,134,0,0,0,0,0,0,0,0,0,0,0,0,0,0,0,134,0,0,0,0,0,0,0,1,0,0,0,0,0,0,0,1,0,0,0,0,0,0,0,1,0,0,0,0,0,0,0,1,0,0,0,0,0,0,0,1,1,1,0,0,0,0,46,182,148,73,58,78,205,0,210,73,107,183,197,177,50,0,0,0,0,0,0,0,0,0,1,0,1,1,1,123,125,120] }
theorem x_of:ofI xL=(xL,0):=by rfl
theorem x_ck3:ckP 512 0 lsT=4:=by kernel_rfl
theorem x_press:pressN xL 512 0 obT=(arT,0):=by kernel_rfl
theorem x_press2:pressN xL 511 0 obT=(noB,15):=by kernel_rfl
set_option maxHeartbeats 4000000 in
theorem headO_any (s:Value) (L:List It) (k:Int) (w:World) (h:ChS w s L) :
  Calls Tryz.prog 14 #[.agg #[s],.int .u8 k] w fun e w'=>e=.returned (.agg (cH (hdP L k)))∧Below w.heap.size w w':=by
 obtain⟨a5,n5,c5,rfl⟩:=h.form
 obtain⟨W,hW⟩:∃ W,(w.alloc (.cells #[.slice a5 n5 c5] 29)).alloc (.cells (cH zeroH) 44)=W:=⟨_,rfl⟩
 have h0:One W w.heap.size (.slice a5 n5 c5):=by
  rw[← hW]
  exact(one_new w _ _).alloc _
 have h2:HAt W (w.heap.size+1) 44 zeroH:=by
  have:=HAt.made (w.alloc (.cells #[.slice a5 n5 c5] 29)) zeroH 44
  simp only[World.size_alloc] at this
  rw[← hW]
  exact this
 have hbw:Below w.heap.size w W:=by rw[← hW];exact((Below.refl _ w).alloc (Nat.le_refl _) _).alloc (by simp) _
 have HRW:=Lib.hid (rows13_any (.slice a5 n5 c5) L W (h.below hbw))
 have HHD:=Lib.hid (fun X (hX:Below W.heap.size W X) v hv=>head18_any (.slice a5 n5 c5) v L k X ((h.below hbw).below hX) hv)
 have H0:=Lib.hid h0
 have H2:=Lib.hid h2
 have HB:=Lib.hid hbw
 have q0:=h0.cell
 have hz:cH zeroH=#[.int .u64 0,.int .u64 0,.int .u64 0,.int .u64 0,.int .u64 0,.int .u64 0,.int .u64 0,.int .u64 0,.int .u64 0,.int .u64 0,.int .u64 0,.bool false,.int .u8 0,.int .u8 0,.int .u8 0,.int .i64 0,.int .i64 0,.int .i64 0,.int .i64 0,.int .i64 0,.int .i64 0,.int .i64 0,.int .i64 0,.int .i64 0]:=rfl
 rw[hz] at hW
 generalize hdP L k=X at *
 clear h h0 h2 hbw hz
 go_enter Tryz.func14,Tryz.ntmps14
 go_wp2_with fail
 try rw[hW]
 clear hW
 refine HRW.out.mono ?_
 rintro e w1 ⟨v,rfl,hv,hb1⟩
 have HB1:=Lib.hid hb1
 have HV:=Lib.hid hv
 have q1:=(H0.out.below hb1).cell
 clear hb1 hv q0 HRW
 go_wp2_with fail
 refine(HHD.out _ HB1.out _ HV.out).mono ?_
 rintro e w2 ⟨rfl,hb2⟩
 have HB2:=Lib.hid (HB1.out.trans (hb2.mono HB1.out.size))
 have HH:=Lib.hid (H2.out.later HB2.out)
 have HBX:=Lib.hid (HB.out.trans (HB2.out.mono HB.out.size))
 clear hb2 q1 HB1 HHD
 go_wp2_with (first|(refine wpList_store_row rfl 44 _ _ rfl (w.heap.size+1) (cH X) rfl rfl 44 (cH zeroH) HH.out head_size rfl (cH_one X) ?_)|fail)
 have hp:=put24 w2 (w.heap.size+1) _ zeroH X HH.out
 refine bodyPost_ret (results_cell_row rfl _ _ (w.heap.size+1) 44 (cH X) (0,0) _ rfl hp.1 Tryz.underlying44 rfl head_size) rfl ⟨rfl,hp.2.2.1 _ _ (by omega) HBX.out⟩
theorem its_one (w:World) (x:Nat) (s:ByteArray) (T:TypeId):ItsAt (w.alloc (.cells #[.int .u64 x,.string s] T)) (.slice (some ⟨w.heap.size,0,none⟩) 1 1) [(x,s)]:=by
 refine⟨_,1,rfl,Nat.le_refl _,by unfold maxLen;omega,fun k u hu=>⟨w.heap.size,0,rfl,by simp,?_⟩⟩
 match k,hu with
 | 0,hu=>simp only[List.getElem?_cons_zero,Option.some.injEq] at hu;subst hu;exact⟨by simp[go_sem],by simp[go_sem]⟩
 | k+1,hu=>simp at hu
theorem x_head:cH (hdP xL 2)=#[.int .u64 0,.int .u64 0,.int .u64 0,.int .u64 0,.int .u64 0,.int .u64 0,.int .u64 0,.int .u64 0,.int .u64 1,.int .u64 1,.int .u64 1,.bool true,.int .u8 1,.int .u8 1,.int .u8 2,.int .i64 0,.int .i64 0,.int .i64 (-1800000000),.int .i64 (-850511287),.int .i64 1800000000,.int .i64 850511287,.int .i64 0,.int .i64 0,.int .i64 0]:=by kernel_rfl
theorem fld_ad (h:Hd) (W:World):Sem.run Tryz.prog (Instr.field 44 (.agg (cH h)) 4) W=.ok (.int .u64 h.ad) W:=by
 obtain⟨i,hi⟩:∃ i,Tryz.prog.info? 40=some i:=⟨_,rfl⟩
 have hsz:∀ w,(sizeOf 40).run Tryz.prog w=.ok 1 w:=fun w=>by rw[run_sizeOf w hi];congr 1
 unfold cH
 simp[Instr.field,run_underlying Tryz.underlying44,run_underlying Tryz.underlying40,asIntOf,asAgg,part,hsz,isAgg,go_sem]
theorem aw_of (v:Value) (w:World) (hv:ItsAt w v xL):Calls Tryz.prog 28 #[v] w fun e w'=>∃ s',e=.returned (.tuple #[.agg #[s'],.int .i64 0])∧ChS w' s' xL∧Below w.heap.size w w':=by
 refine(of_anyC v _ w hv (by decide) (fun t ht=>?_) (fun t ht=>?_)).mono ?_
 ·simp[xL] at ht;subst ht;decide
 ·simp[xL] at ht;unfold maxLen;subst ht;decide
 rintro e w' ⟨s',rfl,h,hb⟩
 rw[x_of] at h
 exact⟨s',by rw[x_of];rfl,h,hb⟩
theorem aw_press (s:Value) (w:World) (hq:QTab w) (h:ChS w s xL):Calls Tryz.prog 10 #[.agg #[s],.agg #[.int .i64 512,.int .u8 0,.string { data:=#[123,125] }]] w fun e w'=>e=.returned (.tuple #[.string arT,.int .i64 0])∧Below w.heap.size w w':=by
 have:=press18_any s xL 512 0 obT w hq h (by decide) (by unfold U8;omega) (by omega) (by decide)
 rw[x_press] at this
 exact this
theorem aw_press2 (s:Value) (w:World) (hq:QTab w) (h:ChS w s xL):Calls Tryz.prog 10 #[.agg #[s],.agg #[.int .i64 511,.int .u8 0,.string { data:=#[123,125] }]] w fun e w'=>e=.returned (.tuple #[.string noB,.int .i64 15])∧Below w.heap.size w w':=by
 have:=press18_any s xL 511 0 obT w hq h (by decide) (by unfold U8;omega) (by omega) (by decide)
 rw[x_press2] at this
 exact this
theorem aw_check (w:World) (hq:QTab w):Calls Tryz.prog 12 #[.agg #[.int .i64 512,.int .u8 0,.string { data:=#[91,93] }]] w fun e w'=>e=.returned (.int .i64 4)∧Below w.heap.size w w':=by
 have:=check18_any 512 0 lsT w hq (by decide)
 rw[x_ck3] at this
 exact this
theorem aw_slice:arT.extract 127 135={ data:=#[1,0,1,1,1,123,125,120] }:=by kernel_rfl
theorem aw_size:arT.size=135:=by kernel_rfl
set_option maxHeartbeats 4000000 in
theorem awake18_any (w:World) (hq:QTab w):Calls Tryz.prog 8 #[] w fun e w'=>e=.returned (.bool true)∧Below w.heap.size w w':=by
 have HQ:=Lib.hid hq
 have HI:=Lib.hid (its_one w 0 xT 69)
 have HB0:=Lib.hid (below_oneC w (.cells #[.int .u64 0,.string xT] 69))
 unfold xT at HI HB0
 clear hq
 go_enter Tryz.func8,Tryz.ntmps8
 go_wp2_with fail
 refine(aw_of _ _ HI.out).mono ?_
 rintro e w1 ⟨s1,rfl,hc1,hb1⟩
 obtain⟨a1,n1,p1,rfl⟩:=hc1.form
 have HB1:=Lib.hid (HB0.out.trans (hb1.mono HB0.out.size))
 have HC1:=Lib.hid hc1
 clear hb1 hc1 HI HB0
 have h1:=below_oneC w1 (.cells #[.slice a1 n1 p1] 29)
 have HC2:=Lib.hid (And.intro (one_new w1 (.slice a1 n1 p1) 29) (And.intro (HC1.out.below h1) (HB1.out.trans (h1.mono HB1.out.size))))
 clear h1 HB1 HC1
 go_wp2_with fail
 generalize w1.alloc (.cells #[.slice a1 n1 p1] 29)=W1 at *
 generalize w1.heap.size=gc at *
 refine(aw_press _ _ (HQ.out.below HC2.out.2.2) HC2.out.2.1).mono ?_
 rintro e w2 ⟨rfl,hb2⟩
 have HC3:=Lib.hid (And.intro (HC2.out.1.below hb2) (And.intro (HC2.out.2.1.below hb2) (HC2.out.2.2.trans (hb2.mono HC2.out.2.2.size))))
 have q3:=HC3.out.1.cell
 clear hb2 HC2
 go_wp2_with fail
 refine(aw_press2 _ _ (HQ.out.below HC3.out.2.2) HC3.out.2.1).mono ?_
 rintro e w3 ⟨rfl,hb3⟩
 have HC4:=Lib.hid (And.intro (HC3.out.1.below hb3) (And.intro (HC3.out.2.1.below hb3) (HC3.out.2.2.trans (hb3.mono HC3.out.2.2.size))))
 have q4:=HC4.out.1.cell
 have hsz:=aw_size
 have hsl:=aw_slice
 clear hb3 HC3 q3
 generalize arT=B at *
 go_wp2_with fail
 refine(aw_check _ (HQ.out.below HC4.out.2.2)).mono ?_
 rintro e w4 ⟨rfl,hb4⟩
 have HC5:=Lib.hid (And.intro (HC4.out.1.below hb4) (And.intro (HC4.out.2.1.below hb4) (HC4.out.2.2.trans (hb4.mono HC4.out.2.2.size))))
 have q5:=HC5.out.1.cell
 clear hb4 HC4 q4
 have HHD:=Lib.hid (headO_any _ xL 2 w4 HC5.out.2.1)
 rw[x_head] at HHD
 have hfd:=fld_ad (hdP xL 2)
 rw[x_head,show (hdP xL 2).ad=1 by kernel_rfl] at hfd
 go_wp2_with fail
 refine HHD.out.mono ?_
 rintro e w5 ⟨rfl,hb5⟩
 have HB5:=Lib.hid (HC5.out.2.2.trans (hb5.mono HC5.out.2.2.size))
 clear hb5 HHD HC5 q5
 go_wp2_with fail
 go_ret
 exact⟨rfl,HB5.out⟩
theorem own_len:∀ (l acc:List It),(ownR acc l).length≤acc.length+l.length
 | [],acc=>by rw[ownR];simp
 | t :: l,acc=>by
  rw[ownR]
  have h1:=own_len l (putL acc t.1 t.2)
  have h2:(putL acc t.1 t.2).length≤acc.length+1:=by
   unfold putL
   split
   ·rw[put_len];have:=delI_len t.1 acc;omega
   ·omega
  rw[List.length_cons]
  omega
theorem over_few {l:List It} {m M:Int} (h:overI l m M=false):bytesI l≤M∧(l.length:Int)≤m:=by
 unfold overI at h
 rw[Bool.or_eq_false_iff,decide_eq_false_iff_not,decide_eq_false_iff_not] at h
 omega
end Go.Proofs.YtdnmgpcfgcidbaaGreatDoor
namespace Go.Proofs.YtdnmgpcfgcidbaaGreatDoor
set_option linter.unusedVariables false
set_option linter.unusedSimpArgs false
open Go.RowKit
set_option maxRecDepth 20000
theorem own_bytes:∀ (l acc:List It),bytesI (ownR acc l)≤bytesI acc+bytesI l
 | [],acc=>by rw[ownR];simp[bytesI]
 | t :: l,acc=>by
  rw[ownR]
  have h1:=own_bytes l (putL acc t.1 t.2)
  have h2:bytesI (putL acc t.1 t.2)≤bytesI acc+t.2.size:=by
   unfold putL
   split
   ·rw[put_bytes];have:=delI_bytes t.1 acc;omega
   ·omega
  rw[bytesI]
  omega
end Go.Proofs.YtdnmgpcfgcidbaaGreatDoor
namespace Go.Proofs.YtdnmgpcfgcidbaaGreatDoor
set_option linter.unusedVariables false
set_option linter.unusedSimpArgs false
open Go.RowKit
set_option maxRecDepth 100000
theorem eq_sec18 (a b:Int) (w:World) (n:Nat):(Op.equalIn (n+2) 42 (.agg #[.int .u64 a,.int .u64 b]) (.agg #[.int .u64 a,.int .u64 b])).run Tryz.prog w=.ok true w:=by
 have hS:Tryz.prog.underlying 42=some (.struct (Tryz.prog.fieldsOf 42)):=by kernel_rfl
 rw[run_equalIn_agg w (n+1) 42 _ _ hS (by kernel_rfl)]
 simp only[Program.fieldsOf,Tryz.underlying42]
 go_simp
 try simp
theorem eq_self18 (a:Hd) (w:World):(Op.equalIn 10000 44 (.agg (cH a)) (.agg (cH a))).run Tryz.prog w=.ok true w:=by
 have hS:Tryz.prog.underlying 44=some (.struct (Tryz.prog.fieldsOf 44)):=by kernel_rfl
 rw[show (10000:Nat)=9999+1 from rfl,run_equalIn_agg w 9999 44 _ _ hS (by kernel_rfl)]
 simp only[Program.fieldsOf,Tryz.underlying44]
 unfold cH
 have hs:=fun a b w=>eq_sec18 a b w 9997
 go_simp
 try simp
set_option maxHeartbeats 8000000 in
theorem presstells_law (v:Value) (l:List It) (x:Int × Int × ByteArray) (w:World) (hq:QTab w) (hv:ItsAt w v l) (hm:∀ e ∈ l,e.1<18446744073709551616∧e.2.size≤maxLen) (hx:PlanIn x) :
  Calls Tryz.prog 3 #[v,.agg #[.int .i64 x.1,.int .u8 x.2.1,.string x.2.2]] w fun e w'=>e=.returned (.bool true)∧Below w.heap.size w w':=by
 obtain⟨b,k,t⟩:=x
 obtain⟨xb,xk,xt⟩:=hx
 simp only at xb xk xt ⊢
 have HQ:=Lib.hid (fun W (hb:Below w.heap.size w W)=>hq.below hb)
 have HAW:=Lib.hid (fun W (hb:Below w.heap.size w W)=>awake18_any W (hq.below hb))
 have hba:=below_oneC w (.cells (planV b k t) 24)
 have hbx:=box_new w (planV b k t) 24
 have HOV:=Lib.hid (over_any v l 80 4000 _ (hv.below hba) (fun e he=>(hm e he).2) (by omega) (by omega))
 have HOW:=Lib.hid (fun(hl:l.length≤10000)=>own_any v l _ (hv.below hba) hl (fun e he=>(hm e he).1) (fun e he=>(hm e he).2))
 have HB0:=Lib.hid (And.intro hbx hba)
 obtain⟨ov,hov⟩:∃ ov,overI l 80 4000=ov:=⟨_,rfl⟩
 rw[hov] at HOV
 have c2:(w.alloc (.cells (planV b k t) 24)).cell? ⟨w.heap.size,2,none⟩=some (.string t):=by rw[hbx.cell];rfl
 unfold planV at c2 HOV HOW HB0
 clear hq hv hba hbx hm
 cases ov with
 | true =>
  clear hov
  go_enter Tryz.func3,Tryz.ntmps3
  go_wp2_with fail
  refine HOV.out.mono ?_
  rintro e w1 ⟨rfl,rfl⟩
  go_wp2_with fail
  refine(awake18_any _ (HQ.out _ HB0.out.2)).mono ?_
  rintro e wz ⟨rfl,hbz⟩
  have HBZ:=Lib.hid (Below.trans HB0.out.2 (hbz.mono (Below.size HB0.out.2)))
  clear hbz
  go_wp2_with fail
  go_ret
  exact⟨rfl,HBZ.out⟩
 | false =>
  obtain⟨bl,ll⟩:=over_few hov
  by_cases h3:1000<t.size
  ·have e3:decide (1000<(t.size:Int))=true:=decide_eq_true (by omega)
   clear hov h3 bl ll
   go_enter Tryz.func3,Tryz.ntmps3
   go_wp2_with fail
   refine HOV.out.mono ?_
   rintro e w1 ⟨rfl,rfl⟩
   go_wp2_with fail
   refine(awake18_any _ (HQ.out _ HB0.out.2)).mono ?_
   rintro e wz ⟨rfl,hbz⟩
   have HBZ:=Lib.hid (Below.trans HB0.out.2 (hbz.mono (Below.size HB0.out.2)))
   clear hbz
   go_wp2_with fail
   go_ret
   exact⟨rfl,HBZ.out⟩
  have e3:decide (1000<(t.size:Int))=false:=decide_eq_false (by omega)
  clear hov
  go_enter Tryz.func3,Tryz.ntmps3
  go_wp2_with fail
  refine HOV.out.mono ?_
  rintro e w1 ⟨rfl,hw1⟩
  subst hw1
  generalize w.alloc (.cells #[.int .i64 b,.int .u8 k,.string t] 24)=w1 at *
  go_wp2_with fail
  refine(HOW.out (by omega)).mono ?_
  rintro e w2 ⟨s,d,rfl,hch,hd,hb2⟩
  obtain⟨a5,n5,p5,rfl⟩:=hch.form
  have hal:(ownI l).length≤80:=by have:=own_len l [];unfold ownI;simp at this;omega
  have hab:bytesI (ownI l)≤4000:=by have:=own_bytes l [];unfold ownI;simp[bytesI] at this;omega
  generalize hac:ownI l=L at *
  have b5:=below_oneC w2 (.cells #[.slice a5 n5 p5] 29)
  have hx2:=hb2.trans (b5.mono hb2.size)
  have HS:=Lib.hid (show StW w _ w2.heap.size b k t (.slice a5 n5 p5) L from ⟨HB0.out.1.below hx2,one_new w2 (.slice a5 n5 p5) 29,hch.below b5,HB0.out.2.trans (hx2.mono HB0.out.2.size)⟩)
  have HG:=Lib.hid hch.good
  have HDI:=Lib.hid ((hd.below b5))
  clear hch hd hb2 b5 hx2 HOV HOW hac bl ll HB0 c2
  go_upto_region 4 with fail
  generalize w2.alloc (.cells #[.slice a5 n5 p5] 29)=w3 at *
  generalize w2.heap.size=g5 at *
  obtain⟨r0,r1,r2,q5,lp⟩:=HS.out.facts
  have HPR:=Lib.hid (press18_any (.slice a5 n5 p5) L b k t w3 (HQ.out _ HS.out.bel) HS.out.c5 (by omega) xk xb (by omega))
  unfold planV at lp HPR
  obtain⟨P,hP⟩:∃ P,pressN L b k t=P:=⟨_,rfl⟩
  have HPP:=Lib.hid hP
  rw[hP] at HPR
  obtain⟨y,z⟩:=P
  obtain⟨ad,cd,rfl,_⟩:=HDI.out
  go_wp2_with fail
  refine HPR.out.mono ?_
  rintro e w4 ⟨rfl,hb4⟩
  have HS4:=Lib.hid (HS.out.below hb4)
  have HD4:=Lib.hid (HDI.out.below hb4)
  clear hb4 HS HPR r0 r1 r2 q5 lp HDI hP
  obtain⟨r0,r1,r2,q5,lp⟩:=HS4.out.facts
  have HRP:=Lib.hid (rpress18_any _ L b k t w4 HD4.out HG.out (by omega) xk xb (by omega))
  rw[HPP.out] at HRP
  unfold planV at lp HRP
  go_wp2_with fail
  refine HRP.out.mono ?_
  rintro e W5 ⟨rfl,hb5⟩
  have HS5:=Lib.hid (HS4.out.below hb5)
  have HD5:=Lib.hid (HD4.out.below hb5)
  clear hb5 HS4 HRP r0 r1 r2 q5 lp HD4
  go_upto_region 6 with fail
  obtain⟨r0,r1,r2,q5,lp⟩:=HS5.out.facts
  have HCC:=Lib.hid (fun X' (hX:Below W5.heap.size W5 X')=>(show X'.cell? ⟨w.heap.size,0,none⟩=some (.int .i64 b)∧X'.cell? ⟨w.heap.size,1,none⟩=some (.int .u8 k)∧X'.cell? ⟨w.heap.size,2,none⟩=some (.string t)∧X'.cell? ⟨g5,0,none⟩=some (.slice a5 n5 p5) from ⟨(hX.cell (p:=⟨_,_,none⟩) (World.block_lt_of_cell? _ _ r0)).trans r0,(hX.cell (p:=⟨_,_,none⟩) (World.block_lt_of_cell? _ _ r1)).trans r1,(hX.cell (p:=⟨_,_,none⟩) (World.block_lt_of_cell? _ _ r2)).trans r2,(hX.cell (p:=⟨_,_,none⟩) (World.block_lt_of_cell? _ _ q5)).trans q5⟩))
  have HC1:=Lib.hid (fun X' (hX:Below W5.heap.size W5 X')=>check18_any b k t X' (HQ.out _ (HS5.out.bel.trans (hX.mono HS5.out.bel.size))) (by omega))
  have HC2:=Lib.hid (fun X'=>rcheck18_any b k t X' (by omega))
  have HH1:=Lib.hid (fun X' (hX:Below W5.heap.size W5 X')=>headO_any (.slice a5 n5 p5) L k X' (HS5.out.c5.below hX))
  have HH2:=Lib.hid (fun X' (hX:Below W5.heap.size W5 X')=>rhead18_any (.slice ad L.length cd) L k X' (HD5.out.below hX) HG.out)
  have HOH:=Lib.hid (fun X'=>own_anyCc (hdP L k) X')
  have hee:=fun w=>eq_self18 (hdP L k) w
  have HAW2:=Lib.hid (fun X' (hX:Below W5.heap.size W5 X')=>HAW.out X' (HS5.out.bel.trans (hX.mono HS5.out.bel.size)))
  have HB5:=Lib.hid HS5.out.bel
  have hst:=str_yes (a:=y) (b:=y) rfl
  unfold planV at HC1 HC2
  generalize cH (hdP L k)=Hc at *
  generalize ckP b k t=cz at *
  clear r0 r1 r2 q5 lp
  refine wp_region_held_drew (S:=fun w'=>(w'.cell? ⟨w.heap.size,0,none⟩=some (.int .i64 b)∧w'.cell? ⟨w.heap.size,1,none⟩=some (.int .u8 k)∧w'.cell? ⟨w.heap.size,2,none⟩=some (.string t)∧w'.cell? ⟨g5,0,none⟩=some (.slice a5 n5 p5))∧Below W5.heap.size W5 w') (by kernel_rfl) ⟨HCC.out _ (Below.drew (Below.refl _ _)),Below.drew (Below.refl _ _)⟩ (fun hH0=>?_)
  refine tK 0 37 hH0 ?_
  try simp only[Act.put,zsA,zsB,zsC]
  refine tK 1 38 hH0 ?_
  try simp only[Act.put,zsA,zsB,zsC]
  refine tK 2 39 hH0 ?_
  try simp only[Act.put,zsA,zsB,zsC]
  refine tK 3 40 hH0 ?_
  try simp only[Act.put,zsA,zsB,zsC]
  refine tK 4 41 hH0 ?_
  try simp only[Act.put,zsA,zsB,zsC]
  refine tK 5 42 hH0 ?_
  try simp only[Act.put,zsA,zsB,zsC]
  refine tK 6 43 hH0 ?_
  try simp only[Act.put,zsA,zsB,zsC]
  refine tK 7 44 hH0 ?_
  try simp only[Act.put,zsA,zsB,zsC]
  refine tK 8 45 hH0 ?_
  try simp only[Act.put,zsA,zsB,zsC]
  refine tK 9 46 hH0 ?_
  try simp only[Act.put,zsA,zsB,zsC]
  refine tK 11 48 hH0 ?_
  try simp only[Act.put,zsA,zsB,zsC]
  refine wpAnyH_ready (rs:=[10]) (by kernel_rfl) (by simp) ?_
  refine AllReadyH.cons rfl (fun K hK=>?_) AllReadyH.nil
  go_simp
  refine(HC1.out _ hH0.2).mono ?_
  rintro e w' ⟨rfl,hb⟩
  go_wp2_with fail
  refine hK.out _ _ (⟨HCC.out _ (hH0.2.trans (hb.mono hH0.2.size)),hH0.2.trans (hb.mono hH0.2.size)⟩) (fun hH1=>?_)
  clear hK K hb hH0
  try simp only[Act.put,zsA,zsB,zsC]
  refine wpAnyH_ready (rs:=[12]) (by kernel_rfl) (by simp) ?_
  refine AllReadyH.cons rfl (fun K hK=>?_) AllReadyH.nil
  go_simp
  refine(HC2.out _).mono ?_
  rintro e w' ⟨rfl,hb⟩
  go_wp2_with fail
  refine hK.out _ _ (⟨HCC.out _ (hH1.2.trans (hb.mono hH1.2.size)),hH1.2.trans (hb.mono hH1.2.size)⟩) (fun hH2=>?_)
  clear hK K hb hH1
  try simp only[Act.put,zsA,zsB,zsC]
  refine tK 13 50 hH2 ?_
  try simp only[Act.put,zsA,zsB,zsC]
  refine tK 14 51 hH2 ?_
  try simp only[Act.put,zsA,zsB,zsC]
  refine tK 15 52 hH2 ?_
  try simp only[Act.put,zsA,zsB,zsC]
  refine tK 16 53 hH2 ?_
  try simp only[Act.put,zsA,zsB,zsC]
  refine tK 17 54 hH2 ?_
  try simp only[Act.put,zsA,zsB,zsC]
  refine tK 18 55 hH2 ?_
  try simp only[Act.put,zsA,zsB,zsC]
  refine tK 20 57 hH2 ?_
  try simp only[Act.put,zsA,zsB,zsC]
  refine tK 21 58 hH2 ?_
  try simp only[Act.put,zsA,zsB,zsC]
  refine tK 22 59 hH2 ?_
  try simp only[Act.put,zsA,zsB,zsC]
  refine wpAnyH_ready (rs:=[19]) (by kernel_rfl) (by simp) ?_
  refine AllReadyH.cons rfl (fun K hK=>?_) AllReadyH.nil
  go_simp
  refine(HH1.out _ hH2.2).mono ?_
  rintro e w' ⟨rfl,hb⟩
  go_wp2_with fail
  refine hK.out _ _ (⟨HCC.out _ (hH2.2.trans (hb.mono hH2.2.size)),hH2.2.trans (hb.mono hH2.2.size)⟩) (fun hH3=>?_)
  clear hK K hb hH2
  try simp only[Act.put,zsA,zsB,zsC]
  refine wpAnyH_ready (rs:=[23]) (by kernel_rfl) (by simp) ?_
  refine AllReadyH.cons rfl (fun K hK=>?_) AllReadyH.nil
  go_simp
  refine(HH2.out _ hH3.2).mono ?_
  rintro e w' ⟨rfl,hb⟩
  go_wp2_with fail
  refine hK.out _ _ (⟨HCC.out _ (hH3.2.trans (hb.mono hH3.2.size)),hH3.2.trans (hb.mono hH3.2.size)⟩) (fun hH4=>?_)
  clear hK K hb hH3
  try simp only[Act.put,zsA,zsB,zsC]
  refine wpAnyH_ready (rs:=[24]) (by kernel_rfl) (by simp) ?_
  refine AllReadyH.cons rfl (fun K hK=>?_) AllReadyH.nil
  go_simp
  refine(HOH.out _).mono ?_
  rintro e w' ⟨rfl,hb⟩
  go_wp2_with fail
  refine hK.out _ _ (⟨HCC.out _ (hH4.2.trans (hb.mono hH4.2.size)),hH4.2.trans (hb.mono hH4.2.size)⟩) (fun hH5=>?_)
  clear hK K hb hH4
  try simp only[Act.put,zsA,zsB,zsC]
  refine tK 25 62 hH5 ?_
  try simp only[Act.put,zsA,zsB,zsC]
  refine tK 26 63 hH5 ?_
  try simp only[Act.put,zsA,zsB,zsC]
  refine tK 27 64 hH5 ?_
  try simp only[Act.put,zsA,zsB,zsC]
  refine wpAnyH_ready (rs:=[28]) (by kernel_rfl) (by simp) ?_
  refine AllReadyH.cons rfl (fun K hK=>?_) AllReadyH.nil
  go_simp
  refine(HAW2.out _ hH5.2).mono ?_
  rintro e w' ⟨rfl,hb⟩
  go_wp2_with fail
  refine hK.out _ _ (⟨HCC.out _ (hH5.2.trans (hb.mono hH5.2.size)),hH5.2.trans (hb.mono hH5.2.size)⟩) (fun hH6=>?_)
  clear hK K hb hH5
  try simp only[Act.put,zsA,zsB,zsC]
  refine tK 29 66 hH6 ?_
  try simp only[Act.put,zsA,zsB,zsC]
  refine tK 30 4 hH6 ?_
  try simp only[Act.put,zsA,zsB,zsC]
  refine wpAnyH_done (by kernel_rfl) ?_ _
  go_wp2_with fail
  go_ret
  exact⟨rfl,HB5.out.trans (hH6.2.mono HB5.out.size)⟩
end Go.Proofs.YtdnmgpcfgcidbaaGreatDoor
