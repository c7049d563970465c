/- Zk Zl. -/
import Derived.Test.YtdnmgpcfgcidbaaGreatDoorWZ1
import Derived.Test.YtdnmgpcfgcidbaaGreatDoorWb8
import Derived.Test.YtdnmgpcfgcidbaaGreatDoorWc5
import Derived.Test.YtdnmgpcfgcidbaaGreatDoorWs
namespace Go.Proofs.YtdnmgpcfgcidbaaGreatDoor
set_option linter.unusedVariables false
set_option linter.unusedSimpArgs false
open Go.RowKit
set_option maxRecDepth 100000
def PlanIn (x:Int × Int × ByteArray):Prop:=(-9223372036854775808≤x.1∧x.1≤9223372036854775807)∧U8 x.2.1∧x.2.2.size≤maxLen
theorem plan24_size:(Tryz.prog.info? 24).map (·.size)=some 3:=by kernel_rfl
theorem plan24_load {W:World} {g:Nat} {b k:Int} {s:ByteArray} (h:Box W g (planV b k s)):(loadVar 24 ⟨g,0,none⟩).run Tryz.prog W=.ok (.agg (planV b k s)) W:=by
 obtain ⟨T,hT⟩:=h
 exact run_loadVar_row W g T _ _ (0,0) _ hT Tryz.underlying24 rfl plan24_size
structure StW (w W:World) (g5:Nat) (b k:Int) (t:ByteArray) (s:Value) (L:List It):Prop where
 pl:Box W w.heap.size (planV b k t)
 o5:One W g5 s
 c5:ChS W s L
 bel:Below w.heap.size w W
theorem StW.below {w W X:World} {g5:Nat} {b k:Int} {t:ByteArray} {s:Value} {L:List It} (h:StW w W g5 b k t s L) (hb:Below W.heap.size W X):StW w X g5 b k t s L :=
 ⟨h.pl.below hb,h.o5.below hb,h.c5.below hb,h.bel.trans (hb.mono h.bel.size)⟩
theorem StW.facts {w W:World} {g5:Nat} {b k:Int} {t:ByteArray} {s:Value} {L:List It} (h:StW w W g5 b k t s L) :
  W.cell? ⟨w.heap.size,0,none⟩=some (.int .i64 b)∧W.cell? ⟨w.heap.size,1,none⟩=some (.int .u8 k)∧W.cell? ⟨w.heap.size,2,none⟩=some (.string t)∧W.cell? ⟨g5,0,none⟩=some s∧(loadVar 24 ⟨w.heap.size,0,none⟩).run Tryz.prog W=.ok (.agg (planV b k t)) W :=
 ⟨by rw [h.pl.cell];rfl,by rw [h.pl.cell];rfl,by rw [h.pl.cell];rfl,h.o5.cell,plan24_load h.pl⟩
theorem wpList_load_rowG {P:Program} {ops:Array Oper} {rest:List Oper} {o:Oper} {a:Act} {w:World} {Q:Exit→Act→World→Prop} (hw:Region.wanted o (yielded ops a.tmps)=true) (ty:TypeId) (x:Operand) (ho:o.op=.load ty x)
  (g:Nat) (hx:a.eval x=.pointer (some ⟨g,0,none⟩)) (t:TypeId) (cs:Array Value) (fr:Nat × Nat) (d:TypeDesc) (hg:w.heap[g]?=some (.cells cs t fr))
  (hu:P.underlying ty=some d) (hd:(match d with|.struct _|.array _ _=>true|_=>false)=true) (hi:(P.info? ty).map (·.size)=some cs.size)
  (h:wpList P ops Q rest (a.put o.dst (.agg cs)) w):wpList P ops Q (o :: rest) a w:=by
 rw [wpList,if_pos hw]
 exact .inl (wp_load_row ty x ho g hx t cs fr d hg hu hd hi h)
set_option maxHeartbeats 8000000 in
theorem presswhole_law (v:Value) (l:List It) (x:Int × Int × ByteArray) (w:World) (hq:QTab w) (hv:ItsAt w v l) (hm:∀ e ∈ l,e.1<18446744073709551616∧e.2.size≤maxLen) (hx:PlanIn x) :
  Calls Tryz.prog 4 #[v,.agg #[.int .i64 x.1,.int .u8 x.2.1,.string x.2.2]] w fun e w'=>e=.returned (.bool true)∧Below w.heap.size w w':=by
 obtain ⟨b,k,t⟩:=x
 obtain ⟨xb,xk,xt⟩:=hx
 simp only at xb xk xt ⊢
 have HQ:=Lib.hid (fun W (hb:Below w.heap.size w W)=>hq.below hb)
 have HAW:=Lib.hid (fun W (hb:Below w.heap.size w W)=>awake18_any W (hq.below hb))
 have hba:=below_oneC w (.cells (planV b k t) 24)
 have hbx:=box_new w (planV b k t) 24
 have HOV:=Lib.hid (over_any v l 80 4000 _ (hv.below hba) (fun e he=>(hm e he).2) (by omega) (by omega))
 have HOW:=Lib.hid (fun (hl:l.length≤10000)=>own_any v l _ (hv.below hba) hl (fun e he=>(hm e he).1) (fun e he=>(hm e he).2))
 have HB0:=Lib.hid (And.intro hbx hba)
 obtain ⟨ov,hov⟩:∃ ov,overI l 80 4000=ov:=⟨_,rfl⟩
 rw [hov] at HOV
 have c2:(w.alloc (.cells (planV b k t) 24)).cell? ⟨w.heap.size,2,none⟩=some (.string t):=by rw [hbx.cell];rfl
 unfold planV at c2 HOV HOW HB0
 clear hq hv hba hbx hm
 cases ov with
 | true =>
  clear hov
  go_enter Tryz.func4,Tryz.ntmps4
  go_wp2_with fail
  refine HOV.out.mono ?_
  rintro e w1 ⟨rfl,rfl⟩
  go_wp2_with fail
  refine (awake18_any _ (HQ.out _ HB0.out.2)).mono ?_
  rintro e wz ⟨rfl,hbz⟩
  have HBZ:=Lib.hid (Below.trans HB0.out.2 (hbz.mono (Below.size HB0.out.2)))
  clear hbz
  go_wp2_with fail
  go_ret
  exact ⟨rfl,HBZ.out⟩
 | false =>
  obtain ⟨bl,ll⟩:=over_few hov
  by_cases h3:1000<t.size
  ·have e3:decide (1000<(t.size:Int))=true:=decide_eq_true (by omega)
   clear hov h3 bl ll
   go_enter Tryz.func4,Tryz.ntmps4
   go_wp2_with fail
   refine HOV.out.mono ?_
   rintro e w1 ⟨rfl,rfl⟩
   go_wp2_with fail
   refine (awake18_any _ (HQ.out _ HB0.out.2)).mono ?_
   rintro e wz ⟨rfl,hbz⟩
   have HBZ:=Lib.hid (Below.trans HB0.out.2 (hbz.mono (Below.size HB0.out.2)))
   clear hbz
   go_wp2_with fail
   go_ret
   exact ⟨rfl,HBZ.out⟩
  have e3:decide (1000<(t.size:Int))=false:=decide_eq_false (by omega)
  clear hov
  go_enter Tryz.func4,Tryz.ntmps4
  go_wp2_with fail
  refine HOV.out.mono ?_
  rintro e w1 ⟨rfl,hw1⟩
  subst hw1
  generalize w.alloc (.cells #[.int .i64 b,.int .u8 k,.string t] 24)=w1 at *
  go_wp2_with fail
  refine (HOW.out (by omega)).mono ?_
  rintro e w2 ⟨s,d,rfl,hch,hd,hb2⟩
  obtain ⟨a5,n5,p5,rfl⟩:=hch.form
  have hal:(ownI l).length≤80:=by have:=own_len l [];unfold ownI;simp at this;omega
  have hab:bytesI (ownI l)≤4000:=by have:=own_bytes l [];unfold ownI;simp [bytesI] at this;omega
  generalize hac:ownI l=L at *
  have b5:=below_oneC w2 (.cells #[.slice a5 n5 p5] 29)
  have hx2:=hb2.trans (b5.mono hb2.size)
  have HS:=Lib.hid (show StW w _ w2.heap.size b k t (.slice a5 n5 p5) L from ⟨HB0.out.1.below hx2,one_new w2 (.slice a5 n5 p5) 29,hch.below b5,HB0.out.2.trans (hx2.mono HB0.out.2.size)⟩)
  have HG:=Lib.hid hch.good
  clear hch hd hb2 b5 hx2 HOV HOW hac bl ll HB0 c2
  go_upto_region 4 with fail
  generalize w2.alloc (.cells #[.slice a5 n5 p5] 29)=w3 at *
  generalize w2.heap.size=g5 at *
  obtain ⟨r0,r1,r2,q5,lp⟩:=HS.out.facts
  have HPR:=Lib.hid (press18_any (.slice a5 n5 p5) L b k t w3 (HQ.out _ HS.out.bel) HS.out.c5 (by omega) xk xb (by omega))
  unfold planV at lp HPR
  obtain ⟨P,hP⟩:∃ P,pressN L b k t=P:=⟨_,rfl⟩
  rw [hP] at HPR
  obtain ⟨y,z⟩:=P
  have htT:totF (rowsS L).2≤4000:=by have:=few_bytes L;omega
  go_wp2_with fail
  refine HPR.out.mono ?_
  rintro e w4 ⟨rfl,hb4⟩
  have HS4:=Lib.hid (HS.out.below hb4)
  clear hb4 HS HPR r0 r1 r2 q5 lp
  by_cases hz:z=0
  ·subst hz
   have hck:=press_good (L:=L) (b:=b) (k:=k) (s:=t) (by rw [hP])
   obtain ⟨y',X,p,h1,WP⟩:=whole_of HG.out (show L.length≤150 by omega) xk (show t.size≤1000 by omega) (by omega) hck
   rw [hP] at h1
   obtain rfl:y=y':=congrArg Prod.fst h1
   clear h1 hck hP
   have HWP:=Lib.hid WP
   have HCU:=Lib.hid (fun W=>cut15_any y W WP.sz)
   rw [WP.cut] at HCU
   unfold CutEnd at HCU
   clear WP
   go_wp2_with fail
   refine (HCU.out _).mono ?_
   rintro e w6 ⟨rfl,hb6⟩
   have HS6:=Lib.hid (HS4.out.below hb6)
   clear hb6 HS4 HCU
   have TW:=two_of w6 X p
   have HSX:Hid ((Tryz.prog.info? 44).map (·.size)=some (cH X).size∧24=(cH X).size∧(cH X).all (·.oneCell')=true):=Lib.hid ⟨head_size,rfl,cH_one X⟩
   have HSP:Hid ((Tryz.prog.info? 52).map (·.size)=some (pArr p).size∧4=(pArr p).size∧(pArr p).all (·.oneCell')=true):=Lib.hid ⟨str4_size,rfl,by simp [pArr,Value.oneCell']⟩
   obtain ⟨Hc,hHc⟩:∃ Hc,cH X=Hc:=⟨_,rfl⟩
   obtain ⟨P,hPc⟩:∃ P,pArr p=P:=⟨_,rfl⟩
   rw [hHc,hPc] at TW ⊢
   rw [hHc] at HSX
   rw [hPc] at HSP
   have HHc:=Lib.hid hHc
   have HPc:=Lib.hid hPc
   clear hHc hPc
   unfold Z24 P4 at TW
   have HTW:=Lib.hid TW
   clear TW
   go_upto_region 8 with (first|(refine wpList_store_row rfl 44 _ _ rfl w6.heap.size Hc rfl rfl 44 _ HTW.out.s1 HSX.out.1 HSX.out.2.1 HSX.out.2.2 ?_)|(refine wpList_store_row rfl 52 _ _ rfl (w6.heap.size+1) P rfl rfl 52 _ HTW.out.s2 HSP.out.1 HSP.out.2.1 HSP.out.2.2 ?_)|fail)
   have HH:=HTW.out.e1
   have HP:=HTW.out.e2
   have HBW:=Lib.hid HTW.out.e3
   clear HTW
   generalize (((w6.alloc (.cells #[.int .u64 0,.int .u64 0,.int .u64 0,.int .u64 0,.int .u64 0,.int .u64 0,.int .u64 0,.int .u64 0,.int .u64 0,.int .u64 0,.int .u64 0,.bool false,.int .u8 0,.int .u8 0,.int .u8 0,.int .i64 0,.int .i64 0,.int .i64 0,.int .i64 0,.int .i64 0,.int .i64 0,.int .i64 0,.int .i64 0,.int .i64 0] 44)).alloc (.cells #[.string { data:=#[] },.string { data:=#[] },.string { data:=#[] },.string { data:=#[] }] 52)).setRow w6.heap.size Hc).setRow (w6.heap.size+1) P=w7 at *
   rw [← HPc.out] at HP
   have HS7:=Lib.hid (HS6.out.below HBW.out)
   have HX7:Hid (w7.heap[w6.heap.size]?=some (.cells Hc 44 (0,0))):=Lib.hid HH
   have HP7:Hid (Box w7 (w6.heap.size+1) (pArr p)):=Lib.hid ⟨_,HP⟩
   clear HS6 HBW HH HP
   generalize w6.heap.size=g9 at *
   have q0:w7.cell? ⟨g9+1,0,none⟩=some (.string p.p0):=by rw [HP7.out.cell];rfl
   obtain ⟨nd,hdc⟩:=HWP.out.dec
   have HDC:=Lib.hid (pdecD_any p.p0 w7 (by have:=HWP.out.p0m;unfold maxLen;omega))
   rw [hdc] at HDC
   unfold DecEnd at HDC
   clear hdc
   go_wp2_with fail
   refine HDC.out.mono ?_
   rintro e w8 ⟨v8,rfl,ho8,hb8⟩
   have HS8:=Lib.hid (HS7.out.below hb8)
   have HX8:=Lib.hid ((hb8.block _ (Array.getElem?_eq_some_iff.1 HX7.out).1).trans HX7.out)
   have HP8:=Lib.hid (HP7.out.below hb8)
   have HE8:=Lib.hid ho8.ensAt
   clear hb8 ho8 HS7 HX7 HP7 q0 HDC
   have q2:w8.cell? ⟨g9+1,2,none⟩=some (.string p.p2):=by rw [HP8.out.cell];rfl
   have HJN:=Lib.hid (join14_any v8 _ p.p2 w8 HE8.out HWP.out.may (by have:=HWP.out.few;omega) HWP.out.p2)
   rw [HWP.out.join] at HJN
   unfold PieEnd at HJN
   go_wp2_with fail
   refine HJN.out.mono ?_
   rintro e w9 ⟨v9,rfl,he9,hb9⟩
   have HS9:=Lib.hid (HS8.out.below hb9)
   have HX9:=Lib.hid ((hb9.block _ (Array.getElem?_eq_some_iff.1 HX8.out).1).trans HX8.out)
   have HP9:=Lib.hid (HP8.out.below hb9)
   have HE9:=Lib.hid he9
   clear hb9 he9 HS8 HX8 HP8 HE8 q2 HJN
   have q3:w9.cell? ⟨g9+1,3,none⟩=some (.string p.p3):=by rw [HP9.out.cell];rfl
   have HBK:=Lib.hid (back13_any v9 _ p.p3 w9 HE9.out (rows_may HG.out) HWP.out.p3)
   rw [HWP.out.back] at HBK
   obtain ⟨ar,cr,rfl,_⟩:=HE9.out
   go_wp2_with fail
   refine HBK.out.mono ?_
   rintro e w10 ⟨s10,rfl,hc10,hb10⟩
   obtain ⟨a10,n10,p10,rfl⟩:=hc10.form
   have b11:=below_oneC w10 (.cells #[.slice a10 n10 p10] 29)
   have hx11:=hb10.trans (b11.mono hb10.size)
   have HS11:=Lib.hid (HS9.out.below hx11)
   have HX11:=Lib.hid ((hx11.block _ (Array.getElem?_eq_some_iff.1 HX9.out).1).trans HX9.out)
   have HP11:=Lib.hid (HP9.out.below hx11)
   have HC11:=Lib.hid (And.intro (one_new w10 (.slice a10 n10 p10) 29) (hc10.below b11))
   clear hc10 hb10 b11 hx11 HS9 HX9 HP9 HE9 q3 HBK
   go_upto_region 11 with fail
   generalize w10.alloc (.cells #[.slice a10 n10 p10] 29)=w11 at *
   generalize w10.heap.size=g17 at *
   obtain ⟨r0,r1,r2,q5,lp⟩:=HS11.out.facts
   have q17:=HC11.out.1.cell
   have HSM:=Lib.hid (same_any _ _ L L w11 HS11.out.c5 HC11.out.2)
   rw [decide_eq_true (rfl:L=L)] at HSM
   go_wp2_with fail
   refine HSM.out.mono ?_
   rintro e w12 ⟨rfl,hb12⟩
   have HS12:=Lib.hid (HS11.out.below hb12)
   have HX12:=Lib.hid ((hb12.block _ (Array.getElem?_eq_some_iff.1 HX11.out).1).trans HX11.out)
   have HP12:=Lib.hid (HP11.out.below hb12)
   clear hb12 HS11 HX11 HP11 HC11 q17 r0 r1 r2 q5 lp HSM
   obtain ⟨r0,r1,r2,q5,lp⟩:=HS12.out.facts
   have q1:w12.cell? ⟨g9+1,1,none⟩=some (.string t):=by rw [HP12.out.cell,← HWP.out.p1];rfl
   have hsz:IntKind.u64.wrap (y.size:Int)=(y.size:Int):=by have:=HWP.out.sz;rw [IntKind.wrap_u64] <;> omega
   have HLD:=Lib.hid (laid_any X (y.size:Nat) w12 HWP.out.hm)
   rw [HWP.out.laid,HHc.out] at HLD
   have hst:=str_yes (a:=t) (b:=t) rfl
   go_wp2_with (first|(refine wpList_load_rowG (by rfl) 44 _ rfl g9 rfl 44 Hc (0,0) _ HX12.out Tryz.underlying44 rfl HSX.out.1 ?_)|fail)
   refine HLD.out.mono ?_
   rintro e W13 ⟨rfl,hb13⟩
   have HS13:=Lib.hid (HS12.out.below hb13)
   have HX13:=Lib.hid ((hb13.block _ (Array.getElem?_eq_some_iff.1 HX12.out).1).trans HX12.out)
   have HP13:=Lib.hid (HP12.out.below hb13)
   clear hb13 HS12 HX12 HP12 q1 r0 r1 r2 q5 lp HLD
   go_upto_region 13 with fail
   obtain ⟨r0,r1,r2,q5,lp⟩:=HS13.out.facts
   have HH13:HAt W13 g9 44 X:=by unfold HAt;rw [HHc.out];exact HX13.out
   have c0:=cell_blk HH13 0
   have c1:=cell_blk HH13 1
   have c6:=cell_blk HH13 6
   have c7:=cell_blk HH13 7
   have c8:=cell_blk HH13 8
   have c9:=cell_blk HH13 9
   have c11:=cell_blk HH13 11
   have c12:=cell_blk HH13 12
   have c13:=cell_blk HH13 13
   simp [cH] at c0 c1 c6 c7 c8 c9 c11 c12 c13
   rw [HWP.out.rf] at c0
   rw [HWP.out.rl] at c1
   rw [HWP.out.ad] at c8
   rw [HWP.out.en] at c9
   rw [HWP.out.cl] at c11
   rw [HWP.out.inn] at c12
   rw [HWP.out.out] at c13
   have p0:W13.cell? ⟨g9+1,0,none⟩=some (.string p.p0):=by rw [HP13.out.cell];rfl
   have HCC:=Lib.hid (fun X' (hX:Below W13.heap.size W13 X')=>(show X'.cell? ⟨g9,0,none⟩=some (.int .u64 127)∧X'.cell? ⟨g9,1,none⟩=some (.int .u64 (p.p0.size:Nat))∧X'.cell? ⟨g9,6,none⟩=some (.int .u64 X.df)∧X'.cell? ⟨g9,7,none⟩=some (.int .u64 X.dl)∧X'.cell? ⟨g9,8,none⟩=some (.int .u64 L.length)∧X'.cell? ⟨g9,9,none⟩=some (.int .u64 (rowsS L).1.length)∧X'.cell? ⟨g9,11,none⟩=some (.bool true)∧X'.cell? ⟨g9,12,none⟩=some (.int .u8 1)∧X'.cell? ⟨g9,13,none⟩=some (.int .u8 1)∧X'.cell? ⟨g5,0,none⟩=some (.slice a5 n5 p5)∧X'.cell? ⟨w.heap.size,0,none⟩=some (.int .i64 b)∧X'.cell? ⟨g9+1,0,none⟩=some (.string p.p0) from ⟨(hX.cell (p:=⟨_,_,none⟩) (World.block_lt_of_cell? _ _ c0)).trans c0,(hX.cell (p:=⟨_,_,none⟩) (World.block_lt_of_cell? _ _ c1)).trans c1,(hX.cell (p:=⟨_,_,none⟩) (World.block_lt_of_cell? _ _ c6)).trans c6,(hX.cell (p:=⟨_,_,none⟩) (World.block_lt_of_cell? _ _ c7)).trans c7,(hX.cell (p:=⟨_,_,none⟩) (World.block_lt_of_cell? _ _ c8)).trans c8,(hX.cell (p:=⟨_,_,none⟩) (World.block_lt_of_cell? _ _ c9)).trans c9,(hX.cell (p:=⟨_,_,none⟩) (World.block_lt_of_cell? _ _ c11)).trans c11,(hX.cell (p:=⟨_,_,none⟩) (World.block_lt_of_cell? _ _ c12)).trans c12,(hX.cell (p:=⟨_,_,none⟩) (World.block_lt_of_cell? _ _ c13)).trans c13,(hX.cell (p:=⟨_,_,none⟩) (World.block_lt_of_cell? _ _ q5)).trans q5,(hX.cell (p:=⟨_,_,none⟩) (World.block_lt_of_cell? _ _ r0)).trans r0,(hX.cell (p:=⟨_,_,none⟩) (World.block_lt_of_cell? _ _ p0)).trans p0⟩))
   have HLN:=Lib.hid (fun X' (hX:Below W13.heap.size W13 X')=>len_anyC (.slice a5 n5 p5) L X' (HS13.out.c5.below hX))
   have hfin:IntKind.u64.wrap (X.df+X.dl)=(y.size:Int):=by rw [HWP.out.fin];exact hsz
   have hrl:=rows_len HG.out
   have hroot:IntKind.u64.wrap (127+(p.p0.size:Int))=127+(p.p0.size:Int):=by have:=HWP.out.p0m;rw [IntKind.wrap_u64] <;> omega
   have HE1:=Lib.hid (fun X'=>end_sec X.df X.dl X')
   rw [hfin] at HE1
   have HE2:=Lib.hid (fun X'=>end_sec 127 (p.p0.size:Nat) X')
   rw [hroot] at HE2
   have hw1:IntKind.u64.wrap (L.length:Int)=(L.length:Int):=by rw [IntKind.wrap_u64] <;> omega
   have hw2:IntKind.u64.wrap ((rowsS L).1.length:Int)=((rowsS L).1.length:Int):=by rw [IntKind.wrap_u64] <;> omega
   have hl1:decide ((127:Int)+(p.p0.size:Int)≤16384)=true:=decide_eq_true (by have:=HWP.out.p0m;omega)
   have hl2:decide ((p.p0.size:Int)≤b)=true:=decide_eq_true HWP.out.p0
   have HAW2:=Lib.hid (fun X' (hX:Below W13.heap.size W13 X')=>HAW.out X' (HS13.out.bel.trans (hX.mono HS13.out.bel.size)))
   have HB13:=Lib.hid HS13.out.bel
   clear c0 c1 c6 c7 c8 c9 c11 c12 c13 p0 r0 r1 r2 q5 lp HH13 hfin hroot
   refine wp_region_held_drew (S:=fun w'=>(w'.cell? ⟨g9,0,none⟩=some (.int .u64 127)∧w'.cell? ⟨g9,1,none⟩=some (.int .u64 (p.p0.size:Nat))∧w'.cell? ⟨g9,6,none⟩=some (.int .u64 X.df)∧w'.cell? ⟨g9,7,none⟩=some (.int .u64 X.dl)∧w'.cell? ⟨g9,8,none⟩=some (.int .u64 L.length)∧w'.cell? ⟨g9,9,none⟩=some (.int .u64 (rowsS L).1.length)∧w'.cell? ⟨g9,11,none⟩=some (.bool true)∧w'.cell? ⟨g9,12,none⟩=some (.int .u8 1)∧w'.cell? ⟨g9,13,none⟩=some (.int .u8 1)∧w'.cell? ⟨g5,0,none⟩=some (.slice a5 n5 p5)∧w'.cell? ⟨w.heap.size,0,none⟩=some (.int .i64 b)∧w'.cell? ⟨g9+1,0,none⟩=some (.string p.p0))∧Below W13.heap.size W13 w') (by kernel_rfl) ⟨HCC.out _ (Below.drew (Below.refl _ _)),Below.drew (Below.refl _ _)⟩ (fun hH0=>?_)
   refine takeH (i:=0) (d:=114) (v:=?_) rfl rfl (Or.inl ⟨by rfl,?y0⟩) hH0 ?_
   case y0=>intro w hSw;go_simp;try with_reducible rfl
   try simp only [Act.put,zsA,zsB,zsC]
   refine takeH (i:=1) (d:=115) (v:=?_) rfl rfl (Or.inl ⟨by rfl,?y1⟩) hH0 ?_
   case y1=>intro w hSw;go_simp;try with_reducible rfl
   try simp only [Act.put,zsA,zsB,zsC]
   refine takeH (i:=2) (d:=116) (v:=?_) rfl rfl (Or.inl ⟨by rfl,?y2⟩) hH0 ?_
   case y2=>intro w hSw;go_simp;try with_reducible rfl
   try simp only [Act.put,zsA,zsB,zsC]
   refine wpAnyH_ready (rs:=[3]) (by kernel_rfl) (by simp) ?_
   refine AllReadyH.cons rfl (fun K hK=>?_) AllReadyH.nil
   go_simp
   refine (HLN.out _ hH0.2).mono ?_
   rintro e w' ⟨rfl,hb⟩
   go_wp2_with fail
   refine hK.out _ _ (⟨HCC.out _ (hH0.2.trans (hb.mono hH0.2.size)),hH0.2.trans (hb.mono hH0.2.size)⟩) (fun hH1=>?_)
   clear hK K hb hH0
   try simp only [Act.put,zsA,zsB,zsC]
   refine takeH (i:=4) (d:=118) (v:=?_) rfl rfl (Or.inl ⟨by rfl,?y4⟩) hH1 ?_
   case y4=>intro w hSw;go_simp;try with_reducible rfl
   try simp only [Act.put,zsA,zsB,zsC]
   refine takeH (i:=5) (d:=119) (v:=?_) rfl rfl (Or.inl ⟨by rfl,?y5⟩) hH1 ?_
   case y5=>intro w hSw;go_simp;try with_reducible rfl
   try simp only [Act.put,zsA,zsB,zsC]
   refine takeH (i:=6) (d:=120) (v:=?_) rfl rfl (Or.inl ⟨by rfl,?y6⟩) hH1 ?_
   case y6=>intro w hSw;go_simp;try with_reducible rfl
   try simp only [Act.put,zsA,zsB,zsC]
   refine takeH (i:=7) (d:=121) (v:=?_) rfl rfl (Or.inl ⟨by rfl,?y7⟩) hH1 ?_
   case y7=>intro w hSw;go_simp;try with_reducible rfl
   try simp only [Act.put,zsA,zsB,zsC]
   refine takeH (i:=8) (d:=122) (v:=?_) rfl rfl (Or.inl ⟨by rfl,?y8⟩) hH1 ?_
   case y8=>intro w hSw;go_simp;try with_reducible rfl
   try simp only [Act.put,zsA,zsB,zsC]
   refine takeH (i:=9) (d:=123) (v:=?_) rfl rfl (Or.inl ⟨by rfl,?y9⟩) hH1 ?_
   case y9=>intro w hSw;go_simp;try with_reducible rfl
   try simp only [Act.put,zsA,zsB,zsC]
   refine takeH (i:=10) (d:=124) (v:=?_) rfl rfl (Or.inl ⟨by rfl,?y10⟩) hH1 ?_
   case y10=>intro w hSw;go_simp;try with_reducible rfl
   try simp only [Act.put,zsA,zsB,zsC]
   refine takeH (i:=11) (d:=125) (v:=?_) rfl rfl (Or.inl ⟨by rfl,?y11⟩) hH1 ?_
   case y11=>intro w hSw;go_simp;try with_reducible rfl
   try simp only [Act.put,zsA,zsB,zsC]
   refine takeH (i:=12) (d:=126) (v:=?_) rfl rfl (Or.inl ⟨by rfl,?y12⟩) hH1 ?_
   case y12=>intro w hSw;go_simp;try with_reducible rfl
   try simp only [Act.put,zsA,zsB,zsC]
   refine takeH (i:=13) (d:=127) (v:=?_) rfl rfl (Or.inl ⟨by rfl,?y13⟩) hH1 ?_
   case y13=>intro w hSw;go_simp;try with_reducible rfl
   try simp only [Act.put,zsA,zsB,zsC]
   refine takeH (i:=14) (d:=128) (v:=?_) rfl rfl (Or.inl ⟨by rfl,?y14⟩) hH1 ?_
   case y14=>intro w hSw;go_simp;try with_reducible rfl
   try simp only [Act.put,zsA,zsB,zsC]
   refine takeH (i:=15) (d:=129) (v:=?_) rfl rfl (Or.inl ⟨by rfl,?y15⟩) hH1 ?_
   case y15=>intro w hSw;go_simp;try with_reducible rfl
   try simp only [Act.put,zsA,zsB,zsC]
   refine takeH (i:=16) (d:=130) (v:=?_) rfl rfl (Or.inl ⟨by rfl,?y16⟩) hH1 ?_
   case y16=>intro w hSw;go_simp;try with_reducible rfl
   try simp only [Act.put,zsA,zsB,zsC]
   refine takeH (i:=18) (d:=132) (v:=?_) rfl rfl (Or.inl ⟨by rfl,?y18⟩) hH1 ?_
   case y18=>intro w hSw;go_simp;try with_reducible rfl
   try simp only [Act.put,zsA,zsB,zsC]
   refine takeH (i:=19) (d:=133) (v:=?_) rfl rfl (Or.inl ⟨by rfl,?y19⟩) hH1 ?_
   case y19=>intro w hSw;go_simp;try with_reducible rfl
   try simp only [Act.put,zsA,zsB,zsC]
   refine takeH (i:=20) (d:=134) (v:=?_) rfl rfl (Or.inl ⟨by rfl,?y20⟩) hH1 ?_
   case y20=>intro w hSw;go_simp;try with_reducible rfl
   try simp only [Act.put,zsA,zsB,zsC]
   refine wpAnyH_ready (rs:=[17]) (by kernel_rfl) (by simp) ?_
   refine AllReadyH.cons rfl (fun K hK=>?_) AllReadyH.nil
   go_simp
   refine (HE1.out _).mono ?_
   rintro e w' ⟨rfl,hb⟩
   go_wp2_with fail
   refine hK.out _ _ (⟨HCC.out _ (hH1.2.trans (hb.mono hH1.2.size)),hH1.2.trans (hb.mono hH1.2.size)⟩) (fun hH2=>?_)
   clear hK K hb hH1
   try simp only [Act.put,zsA,zsB,zsC]
   refine takeH (i:=21) (d:=135) (v:=?_) rfl rfl (Or.inl ⟨by rfl,?y21⟩) hH2 ?_
   case y21=>intro w hSw;go_simp;try with_reducible rfl
   try simp only [Act.put,zsA,zsB,zsC]
   refine takeH (i:=22) (d:=136) (v:=?_) rfl rfl (Or.inl ⟨by rfl,?y22⟩) hH2 ?_
   case y22=>intro w hSw;go_simp;try with_reducible rfl
   try simp only [Act.put,zsA,zsB,zsC]
   refine takeH (i:=23) (d:=137) (v:=?_) rfl rfl (Or.inl ⟨by rfl,?y23⟩) hH2 ?_
   case y23=>intro w hSw;go_simp;try with_reducible rfl
   try simp only [Act.put,zsA,zsB,zsC]
   refine takeH (i:=24) (d:=138) (v:=?_) rfl rfl (Or.inl ⟨by rfl,?y24⟩) hH2 ?_
   case y24=>intro w hSw;go_simp;try with_reducible rfl
   try simp only [Act.put,zsA,zsB,zsC]
   refine takeH (i:=25) (d:=139) (v:=?_) rfl rfl (Or.inl ⟨by rfl,?y25⟩) hH2 ?_
   case y25=>intro w hSw;go_simp;try with_reducible rfl
   try simp only [Act.put,zsA,zsB,zsC]
   refine takeH (i:=26) (d:=140) (v:=?_) rfl rfl (Or.inl ⟨by rfl,?y26⟩) hH2 ?_
   case y26=>intro w hSw;go_simp;try with_reducible rfl
   try simp only [Act.put,zsA,zsB,zsC]
   refine takeH (i:=27) (d:=141) (v:=?_) rfl rfl (Or.inl ⟨by rfl,?y27⟩) hH2 ?_
   case y27=>intro w hSw;go_simp;try with_reducible rfl
   try simp only [Act.put,zsA,zsB,zsC]
   refine takeH (i:=28) (d:=142) (v:=?_) rfl rfl (Or.inl ⟨by rfl,?y28⟩) hH2 ?_
   case y28=>intro w hSw;go_simp;try with_reducible rfl
   try simp only [Act.put,zsA,zsB,zsC]
   refine takeH (i:=29) (d:=143) (v:=?_) rfl rfl (Or.inl ⟨by rfl,?y29⟩) hH2 ?_
   case y29=>intro w hSw;go_simp;try with_reducible rfl
   try simp only [Act.put,zsA,zsB,zsC]
   refine takeH (i:=30) (d:=144) (v:=?_) rfl rfl (Or.inl ⟨by rfl,?y30⟩) hH2 ?_
   case y30=>intro w hSw;go_simp;try with_reducible rfl
   try simp only [Act.put,zsA,zsB,zsC]
   refine takeH (i:=31) (d:=145) (v:=?_) rfl rfl (Or.inl ⟨by rfl,?y31⟩) hH2 ?_
   case y31=>intro w hSw;go_simp;try with_reducible rfl
   try simp only [Act.put,zsA,zsB,zsC]
   refine wpAnyH_ready (rs:=[32]) (by kernel_rfl) (by simp) ?_
   refine AllReadyH.cons rfl (fun K hK=>?_) AllReadyH.nil
   go_simp
   refine (HE2.out _).mono ?_
   rintro e w' ⟨rfl,hb⟩
   go_wp2_with fail
   refine hK.out _ _ (⟨HCC.out _ (hH2.2.trans (hb.mono hH2.2.size)),hH2.2.trans (hb.mono hH2.2.size)⟩) (fun hH3=>?_)
   clear hK K hb hH2
   try simp only [Act.put,zsA,zsB,zsC]
   refine takeH (i:=33) (d:=147) (v:=?_) rfl rfl (Or.inl ⟨by rfl,?y33⟩) hH3 ?_
   case y33=>intro w hSw;go_simp;try with_reducible rfl
   try simp only [Act.put,zsA,zsB,zsC]
   refine takeH (i:=34) (d:=148) (v:=?_) rfl rfl (Or.inl ⟨by rfl,?y34⟩) hH3 ?_
   case y34=>intro w hSw;go_simp;try with_reducible rfl
   try simp only [Act.put,zsA,zsB,zsC]
   refine takeH (i:=35) (d:=149) (v:=?_) rfl rfl (Or.inl ⟨by rfl,?y35⟩) hH3 ?_
   case y35=>intro w hSw;go_simp;try with_reducible rfl
   try simp only [Act.put,zsA,zsB,zsC]
   refine takeH (i:=36) (d:=150) (v:=?_) rfl rfl (Or.inl ⟨by rfl,?y36⟩) hH3 ?_
   case y36=>intro w hSw;go_simp;try with_reducible rfl
   try simp only [Act.put,zsA,zsB,zsC]
   refine takeH (i:=37) (d:=151) (v:=?_) rfl rfl (Or.inl ⟨by rfl,?y37⟩) hH3 ?_
   case y37=>intro w hSw;go_simp;try with_reducible rfl
   try simp only [Act.put,zsA,zsB,zsC]
   refine takeH (i:=38) (d:=152) (v:=?_) rfl rfl (Or.inl ⟨by rfl,?y38⟩) hH3 ?_
   case y38=>intro w hSw;go_simp;try with_reducible rfl
   try simp only [Act.put,zsA,zsB,zsC]
   refine takeH (i:=39) (d:=153) (v:=?_) rfl rfl (Or.inl ⟨by rfl,?y39⟩) hH3 ?_
   case y39=>intro w hSw;go_simp;try with_reducible rfl
   try simp only [Act.put,zsA,zsB,zsC]
   refine takeH (i:=40) (d:=154) (v:=?_) rfl rfl (Or.inl ⟨by rfl,?y40⟩) hH3 ?_
   case y40=>intro w hSw;go_simp;try with_reducible rfl
   try simp only [Act.put,zsA,zsB,zsC]
   refine takeH (i:=41) (d:=155) (v:=?_) rfl rfl (Or.inl ⟨by rfl,?y41⟩) hH3 ?_
   case y41=>intro w hSw;go_simp;try with_reducible rfl
   try simp only [Act.put,zsA,zsB,zsC]
   refine takeH (i:=42) (d:=156) (v:=?_) rfl rfl (Or.inl ⟨by rfl,?y42⟩) hH3 ?_
   case y42=>intro w hSw;go_simp;try with_reducible rfl
   try simp only [Act.put,zsA,zsB,zsC]
   refine takeH (i:=43) (d:=157) (v:=?_) rfl rfl (Or.inl ⟨by rfl,?y43⟩) hH3 ?_
   case y43=>intro w hSw;go_simp;try with_reducible rfl
   try simp only [Act.put,zsA,zsB,zsC]
   refine takeH (i:=44) (d:=158) (v:=?_) rfl rfl (Or.inl ⟨by rfl,?y44⟩) hH3 ?_
   case y44=>intro w hSw;go_simp;try with_reducible rfl
   try simp only [Act.put,zsA,zsB,zsC]
   refine takeH (i:=45) (d:=159) (v:=?_) rfl rfl (Or.inl ⟨by rfl,?y45⟩) hH3 ?_
   case y45=>intro w hSw;go_simp;try with_reducible rfl
   try simp only [Act.put,zsA,zsB,zsC]
   refine takeH (i:=46) (d:=160) (v:=?_) rfl rfl (Or.inl ⟨by rfl,?y46⟩) hH3 ?_
   case y46=>intro w hSw;go_simp;try with_reducible rfl
   try simp only [Act.put,zsA,zsB,zsC]
   refine takeH (i:=47) (d:=161) (v:=?_) rfl rfl (Or.inl ⟨by rfl,?y47⟩) hH3 ?_
   case y47=>intro w hSw;go_simp;try with_reducible rfl
   try simp only [Act.put,zsA,zsB,zsC]
   refine takeH (i:=48) (d:=162) (v:=?_) rfl rfl (Or.inl ⟨by rfl,?y48⟩) hH3 ?_
   case y48=>intro w hSw;go_simp;try with_reducible rfl
   try simp only [Act.put,zsA,zsB,zsC]
   refine takeH (i:=49) (d:=163) (v:=?_) rfl rfl (Or.inl ⟨by rfl,?y49⟩) hH3 ?_
   case y49=>intro w hSw;go_simp;try with_reducible rfl
   try simp only [Act.put,zsA,zsB,zsC]
   refine takeH (i:=50) (d:=164) (v:=?_) rfl rfl (Or.inl ⟨by rfl,?y50⟩) hH3 ?_
   case y50=>intro w hSw;go_simp;try with_reducible rfl
   try simp only [Act.put,zsA,zsB,zsC]
   refine takeH (i:=51) (d:=165) (v:=?_) rfl rfl (Or.inl ⟨by rfl,?y51⟩) hH3 ?_
   case y51=>intro w hSw;go_simp;try with_reducible rfl
   try simp only [Act.put,zsA,zsB,zsC]
   refine takeH (i:=52) (d:=166) (v:=?_) rfl rfl (Or.inl ⟨by rfl,?y52⟩) hH3 ?_
   case y52=>intro w hSw;go_simp;try with_reducible rfl
   try simp only [Act.put,zsA,zsB,zsC]
   refine takeH (i:=53) (d:=167) (v:=?_) rfl rfl (Or.inl ⟨by rfl,?y53⟩) hH3 ?_
   case y53=>intro w hSw;go_simp;try with_reducible rfl
   try simp only [Act.put,zsA,zsB,zsC]
   refine takeH (i:=54) (d:=168) (v:=?_) rfl rfl (Or.inl ⟨by rfl,?y54⟩) hH3 ?_
   case y54=>intro w hSw;go_simp;try with_reducible rfl
   try simp only [Act.put,zsA,zsB,zsC]
   refine takeH (i:=55) (d:=169) (v:=?_) rfl rfl (Or.inl ⟨by rfl,?y55⟩) hH3 ?_
   case y55=>intro w hSw;go_simp;try with_reducible rfl
   try simp only [Act.put,zsA,zsB,zsC]
   refine takeH (i:=56) (d:=170) (v:=?_) rfl rfl (Or.inl ⟨by rfl,?y56⟩) hH3 ?_
   case y56=>intro w hSw;go_simp;try with_reducible rfl
   try simp only [Act.put,zsA,zsB,zsC]
   refine takeH (i:=57) (d:=171) (v:=?_) rfl rfl (Or.inl ⟨by rfl,?y57⟩) hH3 ?_
   case y57=>intro w hSw;go_simp;try with_reducible rfl
   try simp only [Act.put,zsA,zsB,zsC]
   refine wpAnyH_ready (rs:=[58]) (by kernel_rfl) (by simp) ?_
   refine AllReadyH.cons rfl (fun K hK=>?_) AllReadyH.nil
   go_simp
   refine (HAW2.out _ hH3.2).mono ?_
   rintro e w' ⟨rfl,hb⟩
   go_wp2_with fail
   refine hK.out _ _ (⟨HCC.out _ (hH3.2.trans (hb.mono hH3.2.size)),hH3.2.trans (hb.mono hH3.2.size)⟩) (fun hH4=>?_)
   clear hK K hb hH3
   try simp only [Act.put,zsA,zsB,zsC]
   refine takeH (i:=59) (d:=173) (v:=?_) rfl rfl (Or.inl ⟨by rfl,?y59⟩) hH4 ?_
   case y59=>intro w hSw;go_simp;try with_reducible rfl
   try simp only [Act.put,zsA,zsB,zsC]
   refine takeH (i:=60) (d:=4) (v:=?_) rfl rfl (Or.inl ⟨by rfl,?y60⟩) hH4 ?_
   case y60=>intro w hSw;go_simp;try with_reducible rfl
   try simp only [Act.put,zsA,zsB,zsC]
   refine wpAnyH_done (by kernel_rfl) ?_ _
   go_wp2_with fail
   go_ret
   exact ⟨rfl,HB13.out.trans (hH4.2.mono HB13.out.size)⟩
  ·have hz1:(z == 0)=false:=by simp [hz]
   obtain ⟨hk1,hk2⟩:=press_bad (L:=L) (b:=b) (k:=k) (s:=t) HG.out (by omega) xk (by omega) (by rw [hP];exact hz)
   rw [hP] at hk2
   obtain ⟨rfl,rfl⟩:y=noB∧z=ckP b k t:=by injection hk2 with h1 h2;exact ⟨h1,h2⟩
   have HCK:=Lib.hid (check18_any b k t w4 (HQ.out _ HS4.out.bel) (by omega))
   obtain ⟨r0,r1,r2,q5,lp⟩:=HS4.out.facts
   unfold planV at lp HCK
   unfold noB
   clear hk1 hk2 hP
   generalize ckP b k t=z at *
   go_wp2_with fail
   refine HCK.out.mono ?_
   rintro e w5 ⟨rfl,hb5⟩
   have HS5:=Lib.hid (HS4.out.below hb5)
   clear hb5 r0 r1 r2 q5 lp HCK HS4
   go_wp2_with fail
   refine (awake18_any _ (HQ.out _ HS5.out.bel)).mono ?_
   rintro e wz ⟨rfl,hbz⟩
   have HBZ:=Lib.hid (Below.trans HS5.out.bel (hbz.mono (Below.size HS5.out.bel)))
   clear hbz
   go_wp2_with fail
   go_ret
   exact ⟨rfl,HBZ.out⟩
end Go.Proofs.YtdnmgpcfgcidbaaGreatDoor
namespace Go.Proofs.YtdnmgpcfgcidbaaGreatDoor
set_option linter.unusedVariables false
set_option linter.unusedSimpArgs false
open Go.ChangeShapes Go.WideShapes Go.ChangeAt Go.RowKit Go.Joins Go.Deep
set_option maxRecDepth 100000
theorem cells_plan:Tryz.prog.cellsOf 24=3:=by kernel_rfl
theorem plan_trod {H:Type} {enc:TypeId × Value→H} {W:World} {base n:Nat} {spare:Nat→Bool} {held:Bool} {cs:List Value} {z:DataW H × List MemPlace}
  (h:DataW.trod enc Tryz.prog W base spare held n 24 cs=some z):∃ e:Int × Int × ByteArray,cs=[.int .i64 e.1,.int .u8 e.2.1,.string e.2.2]∧PlanIn e:=by
 have cu:Tryz.prog.cellsOf 3=1:=by kernel_rfl
 have cb:Tryz.prog.cellsOf 5=1:=by kernel_rfl
 have cw:Tryz.prog.cellsOf 9=1:=by kernel_rfl
 obtain ⟨xs,k,_,_,hl,hxl,hfs⟩:=DataW.trod_struct Tryz.underlying24 h
 rw [cells_plan] at hl
 match cs,hl,xs,hxl,hfs with
 | [x0,x1,x2],_,[y0,y1,y2],_,hfs =>
  have g0:=hfs 0 _ rfl
  have g1:=hfs 1 _ rfl
  have g2:=hfs 2 _ rfl
  simp [cu,cb,cw] at g0 g1 g2
  obtain ⟨a0,e0,_,w0⟩:=DataW.trod_int Tryz.underlying3 g0
  obtain ⟨a1,e1,_,w1⟩:=DataW.trod_int Tryz.underlying5 g1
  obtain ⟨a2,e2,_,w2⟩:=DataW.trod_string Tryz.underlying9 g2
  simp at e0 e1 e2
  subst e0 e1 e2
  have h0:=bounds_i64 w0
  have h1:=bounds_u8 w1
  exact ⟨⟨a0,a1,a2⟩,rfl,⟨by simp only;omega,by unfold U8;simp only;omega,w2⟩⟩
theorem plan_opened {H:Type} {enc:TypeId × Value→H} {W:World} {base b0:Nat} {r:Reach} {spare:Nat→Bool} {held:Bool} {v:Value} {d:DataW H} {p:List MemPlace}
  (hv:Value.okWide Tryz.prog W r b0 24 v) (h:DataW.Trod enc Tryz.prog W base spare held 24 v d p) :
  ∃ e:Int × Int × ByteArray,v=.agg #[.int .i64 e.1,.int .u8 e.2.1,.string e.2.2]∧PlanIn e:=by
 obtain ⟨cs,rfl,hsz⟩:=okWide_struct Tryz.underlying24 hv
 obtain ⟨fuel,hf⟩:=h
 obtain ⟨e,he,hm⟩:=plan_trod hf
 refine ⟨e,?_,hm⟩
 obtain ⟨l⟩:=cs
 have he':l=[.int .i64 e.1,.int .u8 e.2.1,.string e.2.2]:=he
 rw [he']
end Go.Proofs.YtdnmgpcfgcidbaaGreatDoor
