/- Zi. -/
import Derived.Test.YtdnmgpcfgcidbaaGreatDoorQZ1
import Derived.Test.YtdnmgpcfgcidbaaGreatDoorQc5
namespace Go.Proofs.YtdnmgpcfgcidbaaGreatDoor
set_option linter.unusedVariables false
set_option linter.unusedSimpArgs false
open Go.RowKit Go.Maps
set_option maxRecDepth 100000
structure StN (w W:World) (g7 g13 bm n:Nat) (s vi:Value) (L:List It) (D:DataW Unit):Prop where
 o7:One W g7 s
 c7:ChS W s L
 pl:Box W g13 (planV 512 0 obT)
 mp:W.ownsMap Tryz.prog 9 (plainElem (H:=Unit) Tryz.prog 3) bm n D
 its:ItsAt W vi L
 bel:Below w.heap.size w W
theorem StN.below {w W X:World} {g7 g13 bm n:Nat} {s vi:Value} {L:List It} {D:DataW Unit} (h:StN w W g7 g13 bm n s vi L D) (hb:Below W.heap.size W X):StN w X g7 g13 bm n s vi L D :=
 ⟨h.o7.below hb,h.c7.below hb,h.pl.below hb,ownsMap_below h.mp hb h.mp.lt,h.its.below hb,h.bel.trans (hb.mono h.bel.size)⟩
theorem StN.load {w W:World} {g7 g13 bm n:Nat} {s vi:Value} {L:List It} {D:DataW Unit} (h:StN w W g7 g13 bm n s vi L D):(loadVar 35 ⟨g13,0,none⟩).run Tryz.prog W=.ok (.agg (planV 512 0 obT)) W:=by
 obtain ⟨T,hT⟩:=h.pl
 exact run_loadVar_row W g13 T _ _ (0,0) _ hT Tryz.underlying35 rfl plan_size
theorem StN.cells {w W:World} {g7 g13 bm n:Nat} {s vi:Value} {L:List It} {D:DataW Unit} (h:StN w W g7 g13 bm n s vi L D):W.cell? ⟨g13,0,none⟩=some (.int .i64 512)∧W.cell? ⟨g13,1,none⟩=some (.int .u8 0)∧W.cell? ⟨g13,2,none⟩=some (.string { data:=#[123,125] }) :=
 ⟨by rw [h.pl.cell];rfl,by rw [h.pl.cell];rfl,by rw [h.pl.cell];rfl⟩
set_option maxHeartbeats 8000000 in
theorem pressonce_law (v:Value) (l:List It) (tn id:Nat) (w:World) (hq:QTab w) (hv:ItsAt w v l) (hm:∀ e ∈ l,e.1<18446744073709551616∧e.2.size≤maxLen) (htn:tn<256) (hid:id<18446744073709551616) :
  Calls Tryz.prog 5 #[v,.int .u8 tn,.int .u64 id] w fun e w'=>e=.returned (.bool true)∧Below w.heap.size w w':=by
 have HQ:=Lib.hid (fun W (hb:Below w.heap.size w W)=>hq.below hb)
 have HOV:=Lib.hid (over_any v l 80 4000 w hv (fun e he=>(hm e he).2) (by omega) (by omega))
 have HOW:=Lib.hid (fun (hl:l.length≤10000)=>own_any v l w hv hl (fun e he=>(hm e he).1) (fun e he=>(hm e he).2))
 obtain ⟨ov,hov⟩:∃ ov,overI l 80 4000=ov:=⟨_,rfl⟩
 rw [hov] at HOV
 clear hq hv hm
 cases ov with
 | true =>
  clear hov
  go_enter Tryz.func5,Tryz.ntmps5
  go_wp2_with fail
  refine HOV.out.mono ?_
  rintro e w1 ⟨rfl,hw1⟩
  have hw2:=hw1.symm
  subst hw2
  go_wp2_with fail
  refine (awake18_any _ (HQ.out _ (Below.refl _ _))).mono ?_
  rintro e w2 ⟨rfl,hb⟩
  have HB:=Lib.hid hb
  clear hb
  go_wp2_with fail
  go_ret
  exact ⟨rfl,HB.out⟩
 | false =>
  obtain ⟨bl,ll⟩:=over_few hov
  clear hov
  go_enter Tryz.func5,Tryz.ntmps5
  go_wp2_with fail
  refine HOV.out.mono ?_
  rintro e w1 ⟨rfl,hw1⟩
  have hw2:=hw1.symm
  subst hw2
  go_wp2_with fail
  refine (HOW.out (by omega)).mono ?_
  rintro e w2 ⟨s,d,rfl,hch,hd,hb2⟩
  obtain ⟨a5,n5,p5,rfl⟩:=hch.form
  have hal:(ownI l).length≤80:=by have:=own_len l [];unfold ownI;simp at this;omega
  have hab:bytesI (ownI l)≤4000:=by have:=own_bytes l [];unfold ownI;simp [bytesI] at this;omega
  generalize hac:ownI l=L at *
  have b5:=below_oneC w2 (.cells #[.slice a5 n5 p5] 29)
  have h5:=one_new w2 (.slice a5 n5 p5) 29
  have HX:=Lib.hid (And.intro h5 (And.intro (hch.below b5) (hb2.trans (b5.mono hb2.size))))
  have HG:=Lib.hid hch.good
  have HIT:=Lib.hid (items_any _ _ _ (hch.below b5))
  clear hch hd hb2 b5 h5 HOV HOW hac bl ll
  go_wp2_with fail
  generalize w2.alloc (.cells #[.slice a5 n5 p5] 29)=W5 at *
  generalize w2.heap.size=g7 at *
  refine HIT.out.mono ?_
  rintro e w' ⟨v7,rfl,hi7,hb7⟩
  have HI7:=Lib.hid hi7
  have H6:=Lib.hid (And.intro (HX.out.1.below hb7) (And.intro (HX.out.2.1.below hb7) (HX.out.2.2.trans (hb7.mono HX.out.2.2.size))))
  obtain ⟨ai,ci,rfl,hic,him,hcc⟩:=hi7
  clear hb7 hcc HX HIT
  have hmm:=@run_makeMap Tryz.prog
  have hm0:=World.ownsMap_made w' Tryz.prog 9 (plainElem (H:=Unit) Tryz.prog 3)
  have hba:Below w'.heap.size w' (w'.alloc (.map #[] 0)):=(Below.refl _ _).alloc (Nat.le_refl _) _
  have HM0:=Lib.hid hm0
  have HBA:=Lib.hid hba
  have HTS:=Lib.hid (fun k t h=>tot_step HG.out k t h)
  have HTL:=Lib.hid (fun k h=>tot_le HG.out k h)
  have HCI:Hid (∀ k t,L[k]?=some t→∃ g off,ai=some ⟨g,off,none⟩∧(w'.alloc (.map #[] 0)).cell? ⟨g,off+k*2+1,none⟩=some (.string t.2)):=Lib.hid (fun k t ht=>by
   obtain ⟨a',c',e',_,_,hcc⟩:=HI7.out.below hba
   cases e'
   obtain ⟨g,off,e,hg,c0,c1⟩:=hcc k t ht
   exact ⟨g,off,e,c1⟩)
  clear hm0 hba
  go_wp2_with fail
  clear hmm
  generalize hw11:w'.alloc (.map #[] 0)=w11 at *
  clear hw11
  generalize hbm:w'.heap.size=bm at HM0
  have HSZ:=Lib.hid hbm
  try rw [hbm]
  clear hbm
  go_loopw [11,12] (fun n i wr=>∃ (k:Nat) (D:DataW Unit),k≤L.length∧i=.int .i64 k∧n=.int .i64 (totF (rowsS (L.take k)).2:Nat)∧Hid (wr.ownsMap Tryz.prog 9 (plainElem (H:=Unit) Tryz.prog 3) bm k D)∧Hid (Tal D ((L.take k).map (·.2)))∧Hid (∀ p u,w11.cell? p=some u→wr.cell? p=some u)∧Hid (Below bm w11 wr)) (fun _ i _=>L.length-(intOf i).toNat)
  case atStart=>exact ⟨0,.map [],Nat.zero_le _,rfl,rfl,HM0,Lib.hid tal_nil,Lib.hid (fun _ _ h=>h),Lib.hid (Below.refl _ _)⟩
  case round =>
   obtain ⟨k,D,hk,rfl,rfl,HOM,HTA,HKC,HBW⟩:=hrel
   by_cases hlt:k<L.length
   ·obtain ⟨⟨x,t⟩,htk⟩:∃ t,L[k]?=some t:=⟨_,List.getElem?_eq_getElem hlt⟩
    obtain ⟨g,off,rfl,c1⟩:=HCI.out k _ htk
    have e1:=HKC.out _ _ c1
    have hsh:=HG.out.short _ (List.mem_of_getElem? htk)
    have hst:=HTS.out k _ htk
    have htl:=HTL.out (k+1) hlt
    have hmt:(L.take (k+1)).map (·.2)=(L.take k).map (·.2)++[t]:=by rw [itake_at L k _ htk,List.map_append];rfl
    simp only at e1 hsh hst
    have hkey:keyOf Tryz.prog 9 (.string t)=some (klS t):=WideMaps.keyOf_string_mk Tryz.underlying9 (by unfold maxLen;omega)
    obtain ⟨c,hlk,hat,hwc⟩:=HOM.out.lookup_int (Maps.string_keyed Tryz.underlying9) Tryz.underlying67 Tryz.underlying3 rfl hkey
    rw [HTA.out.num t] at hat
    have hc:c=(numS t ((L.take k).map (·.2)):Nat):=by simpa using hat.symm
    have hnl:numS t ((L.take k).map (·.2))≤k:=by
     have:=numS_len t ((L.take k).map (·.2))
     rw [List.length_map,List.length_take] at this
     omega
    have HTP:=Lib.hid (HTA.out.put t)
    rw [← hmt] at HTP
    clear hat hwc c1 htk hmt
    subst hc
    have HST:=Lib.hid hst
    generalize hT1:totF (rowsS (L.take (k+1))).2=T1 at *
    have HT1:=Lib.hid hT1
    clear hT1
    generalize totF (rowsS (L.take k)).2=T0 at *
    generalize numS t ((L.take k).map (·.2))=c at *
    clear hst
    have hc1:IntKind.i64.wrap ((c:Int)+1)=(c:Int)+1:=by rw [IntKind.wrap_i64] <;> omega
    have hk1:(k:Int)<(L.length:Int):=by omega
    have hkl:k<maxLen:=by unfold maxLen;omega
    have hwf:(Lit.int .i64 ((c:Int)+1)).wf=true:=WalkArith.wf_i64 (by omega)
    have hpl:=plainElem_int (H:=Unit) Tryz.underlying3 hwf
    by_cases hc0:c=0
    ·have hT:T1=T0+t.size:=by have:=HST.out;rw [if_pos hc0] at this;exact this
     have hw1:IntKind.i64.wrap ((T0:Int)+(t.size:Int))=((T1:Nat):Int):=by rw [IntKind.wrap_i64] <;> omega
     subst hc0
     go_wp2_with (first|(at_mapUpdate;refine wpList_mapUpdate_own _ rfl _ _ _ 67 rfl 9 3 (Maps.string_keyed Tryz.underlying9) Tryz.underlying67 _ bm k _ rfl HOM.out hkl _ _ _ rfl rfl hkey _ [] hpl ?_;intro w2' hm2 hg2)|fail)
     go_roundw
     case rel=>exact ⟨k+1,_,by omega,by go_num,by first|(rw [HT1.out];done)|(rw [HT1.out];go_num),Lib.hid hm2,HTP,Lib.hid (fun p u h=>hg2.cell (HKC.out p u h) (fun f=>cell_no_map (HKC.out p u h) HOM.out (by injection f))),Lib.hid (HBW.out.grown hg2 (by have:=HOM.out.lt;omega) (fun j hj=>by cases hj;exact Nat.le_refl _))⟩
     case measure=>simp [intOf];omega
    ·have hT:T1=T0:=by have:=HST.out;rw [if_neg hc0] at this;omega
     subst hT
     have hc2:((c:Int) == 0)=false:=by simp;omega
     go_wp2_with (first|(at_mapUpdate;refine wpList_mapUpdate_own _ rfl _ _ _ 67 rfl 9 3 (Maps.string_keyed Tryz.underlying9) Tryz.underlying67 _ bm k _ rfl HOM.out hkl _ _ _ rfl rfl hkey _ [] hpl ?_;intro w2' hm2 hg2)|fail)
     go_roundw
     case rel=>exact ⟨k+1,_,by omega,by go_num,by first|(rw [HT1.out];done)|(rw [HT1.out];go_num),Lib.hid hm2,HTP,Lib.hid (fun p u h=>hg2.cell (HKC.out p u h) (fun f=>cell_no_map (HKC.out p u h) HOM.out (by injection f))),Lib.hid (HBW.out.grown hg2 (by have:=HOM.out.lt;omega) (fun j hj=>by cases hj;exact Nat.le_refl _))⟩
     case measure=>simp [intOf];omega
   ·obtain rfl:k=L.length:=by omega
    have HTA2:=Lib.hid HTA.out.size
    rw [List.take_length] at HTA2 ⊢
    have hb12:Below w'.heap.size w' wr:=HBA.out.trans (by rw [HSZ.out];exact HBW.out)
    have HPN:=Lib.hid (And.intro (H6.out.1.below hb12) (And.intro (H6.out.2.1.below hb12) (And.intro (H6.out.2.2.trans (hb12.mono H6.out.2.2.size)) (And.intro (HI7.out.below hb12) HOM.out))))
    have htT:totF (rowsS L).2≤4000:=by have:=few_bytes L;omega
    obtain ⟨y,X,p,hy,hys,hcut,hdl,hco,had⟩:=once_cut HG.out (show L.length≤150 by omega) (by omega)
    have hnt:unl (L.map (·.2))=(rowsS L).2.length:=texts_whole HG.out
    have hnl:(rowsS L).2.length≤L.length:=(rinv_all HG.out).len
    rw [hnt] at HTA2
    have HPR:=Lib.hid (fun s W hq hc=>press18_any s L 512 0 obT W hq hc (by omega) (by unfold U8;omega) (by omega) (by decide))
    rw [hy] at HPR
    have HCU:=Lib.hid (fun W=>cut15_any y W hys)
    rw [hcut] at HCU
    unfold CutEnd at HCU
    have HTT:Hid (totF (rowsS L).2=totF (rowsS L).2∧(rowsS L).2.length=(rowsS L).2.length):=Lib.hid ⟨rfl,rfl⟩
    clear hb12 H6 HI7 HM0 HBA HTS HTL HCI HOM HTA HKC HBW hk hlt HSZ hy hys hcut hnt
    go_upto_region 14 with fail
    have bp:=below_oneC wr (.cells #[.int .i64 512,.int .u8 0,.string { data:=#[123,125] }] 35)
    have op:=box_new wr (planV 512 0 obT) 35
    have HSN:=Lib.hid (show StN w _ g7 wr.heap.size bm L.length (.slice a5 n5 p5) (.slice ai L.length ci) L D from ⟨HPN.out.1.below bp,HPN.out.2.1.below bp,op,ownsMap_below HPN.out.2.2.2.2 bp HPN.out.2.2.2.2.lt,HPN.out.2.2.2.1.below bp,HPN.out.2.2.1.trans (bp.mono HPN.out.2.2.1.size)⟩)
    clear bp op HPN
    generalize wr.alloc (.cells #[.int .i64 512,.int .u8 0,.string { data:=#[123,125] }] 35)=w13 at *
    generalize wr.heap.size=g13 at *
    have q7:=HSN.out.o7.cell
    obtain ⟨l0,l1,l2⟩:=HSN.out.cells
    unfold planV obT at HPR
    go_wp2_with fail
    refine (HPR.out _ _ (HQ.out _ HSN.out.bel) HSN.out.c7).mono ?_
    rintro e w14 ⟨rfl,hb14⟩
    have HSN2:=Lib.hid (HSN.out.below hb14)
    clear hb14 HSN q7 l0 l1 l2
    go_wp2_with fail
    refine (HCU.out _).mono ?_
    rintro e w15 ⟨rfl,hb15⟩
    have HSN3:=Lib.hid (HSN2.out.below hb15)
    clear hb15 HSN2
    have TW:=two_of w15 X p
    have HSX:Hid ((Tryz.prog.info? 44).map (·.size)=some (cH X).size∧24=(cH X).size∧(cH X).all (·.oneCell')=true):=Lib.hid ⟨head_size,rfl,cH_one X⟩
    have HSP:Hid ((Tryz.prog.info? 52).map (·.size)=some (pArr p).size∧4=(pArr p).size∧(pArr p).all (·.oneCell')=true):=Lib.hid ⟨str4_size,rfl,by simp [pArr,Value.oneCell']⟩
    have HXX:Hid (cH X=cH X):=Lib.hid rfl
    obtain ⟨Hc,hHc⟩:∃ Hc,cH X=Hc:=⟨_,rfl⟩
    obtain ⟨P,hP⟩:∃ P,pArr p=P:=⟨_,rfl⟩
    rw [hHc,hP] at TW ⊢
    rw [hHc] at HSX
    rw [hP] at HSP
    have HHc:=Lib.hid hHc
    clear hHc hP HXX
    unfold Z24 P4 at TW
    have HTW:=Lib.hid TW
    clear TW
    go_upto_region 16 with (first|(refine wpList_store_row rfl 44 _ _ rfl w15.heap.size Hc rfl rfl 44 _ HTW.out.s1 HSX.out.1 HSX.out.2.1 HSX.out.2.2 ?_)|(refine wpList_store_row rfl 52 _ _ rfl (w15.heap.size+1) P rfl rfl 52 _ HTW.out.s2 HSP.out.1 HSP.out.2.1 HSP.out.2.2 ?_)|fail)
    have HH:=HTW.out.e1
    have HBW:=Lib.hid HTW.out.e3
    have HSW:=Lib.hid HTW.out.e4
    clear HTW
    generalize (((w15.alloc (.cells #[.int .u64 0,.int .u64 0,.int .u64 0,.int .u64 0,.int .u64 0,.int .u64 0,.int .u64 0,.int .u64 0,.int .u64 0,.int .u64 0,.int .u64 0,.bool false,.int .u8 0,.int .u8 0,.int .u8 0,.int .i64 0,.int .i64 0,.int .i64 0,.int .i64 0,.int .i64 0,.int .i64 0,.int .i64 0,.int .i64 0,.int .i64 0] 44)).alloc (.cells #[.string { data:=#[] },.string { data:=#[] },.string { data:=#[] },.string { data:=#[] }] 52)).setRow w15.heap.size Hc).setRow (w15.heap.size+1) P=w16 at *
    rw [← HHc.out] at HH
    have HSN4:=Lib.hid (HSN3.out.below HBW.out)
    have HH16:Hid (HAt w16 w15.heap.size 44 X):=Lib.hid HH
    clear HSN3 HBW HSW HH
    generalize w15.heap.size=g16 at *
    generalize hN2:(rowsS L).2.length=N2 at *
    generalize hT2:totF (rowsS L).2=T2 at *
    have HN2:=Lib.hid hN2
    have HT2:=Lib.hid hT2
    clear hN2 hT2
    have c7:=cell_blk HH16.out 7
    have c10:=cell_blk HH16.out 10
    simp [cH] at c7 c10
    rw [hdl] at c7
    rw [hco] at c10
    have hw1:IntKind.u64.wrap (T2:Int)=(T2:Int):=by rw [IntKind.wrap_u64] <;> omega
    have hw2:IntKind.u64.wrap (N2:Int)=(N2:Int):=by rw [IntKind.wrap_u64] <;> omega
    have hlen:=HSN4.out.mp.len Tryz.underlying67 3
    rw [HTA2.out] at hlen
    by_cases hz:L.length=0
    ·have e1:((L.length:Int) == 0)=true:=by simp [hz]
     clear hz
     go_wp2_with fail
     refine (awake18_any _ (HQ.out _ HSN4.out.bel)).mono ?_
     rintro e wz ⟨rfl,hbz⟩
     have HBZ:=Lib.hid (HSN4.out.bel.trans (hbz.mono HSN4.out.bel.size))
     clear hbz
     go_wp2_with fail
     go_ret
     exact ⟨rfl,HBZ.out⟩
    have e1:((L.length:Int) == 0)=false:=beq_eq_false_iff_ne.2 (by omega)
    have q7:=HSN4.out.o7.cell
    have HGT:=Lib.hid (get_anyC (.slice a5 n5 p5) L id w16 HSN4.out.c7 hid)
    go_wp2_with fail
    refine HGT.out.mono ?_
    rintro e w17 ⟨rfl,hb17⟩
    have HSN5:=Lib.hid (HSN4.out.below hb17)
    have HH17:Hid (HAt w17 g16 44 X):=Lib.hid (HH16.out.later hb17)
    clear hb17 HSN4 HH16 c7 c10 hlen q7 HGT
    cases hgi:(getI id L).isSome with
    | true =>
     clear hgi
     go_wp2_with fail
     refine (awake18_any _ (HQ.out _ HSN5.out.bel)).mono ?_
     rintro e wz ⟨rfl,hbz⟩
     have HBZ:=Lib.hid (HSN5.out.bel.trans (hbz.mono HSN5.out.bel.size))
     clear hbz
     go_wp2_with fail
     go_ret
     exact ⟨rfl,HBZ.out⟩
    | false =>
     go_upto_region 23 with fail
     obtain ⟨c,hc⟩:∃ c:Nat,c=tn % L.length:=⟨_,rfl⟩
     have hcl:c<L.length:=by rw [hc];exact Nat.mod_lt _ (by omega)
     have hcm:(tn:Int).tmod (L.length:Int)=(c:Int):=by rw [Int.tmod_eq_emod_of_nonneg (by omega),hc];rfl
     have hw3:IntKind.i64.wrap (tn:Int)=(tn:Int):=by rw [IntKind.wrap_i64] <;> omega
     have hw4:IntKind.i64.wrap (c:Int)=(c:Int):=by rw [IntKind.wrap_i64] <;> omega
     have hzn:¬ (L.length:Int)=0:=by omega
     have hci1:(c:Int)<(L.length:Int):=by omega
     have hc0:(0:Int)≤(c:Int):=by omega
     obtain ⟨⟨xc,tx⟩,htx⟩:∃ t,L[c]?=some t:=⟨_,List.getElem?_eq_getElem hcl⟩
     have hmem:=List.mem_of_getElem? htx
     have htsz:tx.size≤maxLen:=by have h6:tx.size≤65536:=HG.out.short _ hmem;unfold maxLen;omega
     obtain ⟨ai',ci',e',_,_,hcell⟩:=HSN5.out.its
     cases e'
     obtain ⟨gi,oi,rfl,hgi2,d0,d1⟩:=hcell c _ htx
     simp only at d1
     have HTX:=Lib.hid (show ∃ t ∈ L,t.2=tx from ⟨_,hmem,rfl⟩)
     have HGN:=Lib.hid hgi
     have q7:=HSN5.out.o7.cell
     have h7l:=HSN5.out.o7.lt
     have HPT:=Lib.hid (fun X (hX:Below w17.heap.size w17 X)=>put_any (.slice a5 n5 p5) L id tx X (HSN5.out.c7.below hX) hid htsz)
     clear hgi d0 hcell htx hmem hc
     go_cut [21,22] from 116 to 130 (fun p e wx=>∃ g21 s21,p=.pointer (some ⟨g21,0,none⟩)∧e=.int .i64 (putE L id tx:Nat)∧One wx g21 s21∧ChS wx s21 (putL L id tx)∧Below w17.heap.size w17 wx)
     case first =>
      go_region_with (first|(go_at_call 27;refine (HPT.out _ (by go_grown)).mono ?_;rintro e wq ⟨s',rfl,hc3,hb3⟩;obtain ⟨a7,n7,p7,rfl⟩:=hc3.form;have hb4:Below w17.heap.size w17 wq:=Below.trans (by go_grown) (hb3.mono (by simp));first|(have o4:One wq w17.heap.size (.slice none 0 0):=(one_new w17.drew (.slice none 0 0) 29).below hb3;have f0:=o4.cell;have f1:=o4.frz)|(have o0:wq=wq:=rfl)))
      all_goals
       go_wp2_with fail
       go_meet
       case rel=>first|exact ⟨_,_,rfl,rfl,one_new _ _ _,hc3.below (below_oneC _ _),hb4.trans ((below_oneC _ _).mono hb4.size)⟩|exact ⟨_,_,rfl,rfl,o4.set _,hc3.set o4 _,hb4.setCell (p:=⟨w17.heap.size,0,none⟩) (Nat.le_refl _) _⟩
     case rest =>
      obtain ⟨g21,s21,rfl,rfl,h21,hc21,hb21⟩:=hcut
      generalize wc=w21 at *
      have HSN6:=Lib.hid (HSN5.out.below hb21)
      have HH21:Hid (HAt w21 g16 44 X):=Lib.hid (HH17.out.later hb21)
      have H21:=Lib.hid (And.intro h21 hc21)
      clear hb21 HSN5 HH17 h21 hc21 d1 q7 HPT hcl hci1 hcm
      obtain ⟨pz,hpz⟩:∃ pz,putE L id tx=pz:=⟨_,rfl⟩
      try rw [hpz]
      by_cases hp0:pz=0
      ·subst hp0
       have hpl:putL L id tx=putI id tx L:=by unfold putL;rw [if_pos hpz]
       rw [hpl] at H21
       obtain ⟨m1,m2,m3⟩:=put_same HG.out H21.out.2.good HGN.out HTX.out
       rw [HT2.out] at m1
       rw [HN2.out] at m2
       obtain ⟨y',X',p',hy',hys',hcut',hdl',hco',had'⟩:=once_cut H21.out.2.good (show (putI id tx L).length≤150 by omega) (by omega)
       have HPR2:=Lib.hid (fun s W hq hc=>press18_any s (putI id tx L) 512 0 obT W hq hc (by omega) (by unfold U8;omega) (by omega) (by decide))
       rw [hy'] at HPR2
       unfold planV obT at HPR2
       have HCU2:=Lib.hid (fun W=>cut15_any y' W hys')
       rw [hcut'] at HCU2
       unfold CutEnd at HCU2
       rw [m1] at hdl'
       rw [m2] at hco'
       rw [m3] at had'
       clear hpz hpl hy' hys' hcut' m1 m2 m3
       generalize putI id tx L=L2 at *
       obtain ⟨a21,n21,p21,rfl⟩:=H21.out.2.form
       have q21:=H21.out.1.cell
       obtain ⟨l0,l1,l2⟩:=HSN6.out.cells
       go_wp2_with fail
       refine (HPR2.out _ _ (HQ.out _ HSN6.out.bel) H21.out.2).mono ?_
       rintro e w26 ⟨rfl,hb26⟩
       have HSN7:=Lib.hid (HSN6.out.below hb26)
       have HH26:Hid (HAt w26 g16 44 X):=Lib.hid (HH21.out.later hb26)
       clear hb26 HSN6 HH21 q21 l0 l1 l2 H21
       go_wp2_with fail
       refine (HCU2.out _).mono ?_
       rintro e w27 ⟨rfl,hb27⟩
       have HSN8:=Lib.hid (HSN7.out.below hb27)
       have HH27:Hid (HAt w27 g16 44 X):=Lib.hid (HH26.out.later hb27)
       clear hb27 HSN7 HH26
       have TW:=two_of w27 X' p'
       have HSX2:Hid ((Tryz.prog.info? 44).map (·.size)=some (cH X').size∧24=(cH X').size∧(cH X').all (·.oneCell')=true):=Lib.hid ⟨head_size,rfl,cH_one X'⟩
       have HSP2:Hid ((Tryz.prog.info? 52).map (·.size)=some (pArr p').size∧4=(pArr p').size∧(pArr p').all (·.oneCell')=true):=Lib.hid ⟨str4_size,rfl,by simp [pArr,Value.oneCell']⟩
       obtain ⟨Hc2,hHc2⟩:∃ Hc,cH X'=Hc:=⟨_,rfl⟩
       obtain ⟨P2,hP2⟩:∃ P,pArr p'=P:=⟨_,rfl⟩
       rw [hHc2,hP2] at TW ⊢
       rw [hHc2] at HSX2
       rw [hP2] at HSP2
       have HHc2:=Lib.hid hHc2
       clear hHc2 hP2
       unfold Z24 P4 at TW
       have HTW:=Lib.hid TW
       clear TW
       go_upto_region 28 with (first|(refine wpList_store_row rfl 44 _ _ rfl w27.heap.size Hc2 rfl rfl 44 _ HTW.out.s1 HSX2.out.1 HSX2.out.2.1 HSX2.out.2.2 ?_)|(refine wpList_store_row rfl 52 _ _ rfl (w27.heap.size+1) P2 rfl rfl 52 _ HTW.out.s2 HSP2.out.1 HSP2.out.2.1 HSP2.out.2.2 ?_)|fail)
       have HH:=HTW.out.e1
       have HBW:=Lib.hid HTW.out.e3
       clear HTW
       generalize (((w27.alloc (.cells #[.int .u64 0,.int .u64 0,.int .u64 0,.int .u64 0,.int .u64 0,.int .u64 0,.int .u64 0,.int .u64 0,.int .u64 0,.int .u64 0,.int .u64 0,.bool false,.int .u8 0,.int .u8 0,.int .u8 0,.int .i64 0,.int .i64 0,.int .i64 0,.int .i64 0,.int .i64 0,.int .i64 0,.int .i64 0,.int .i64 0,.int .i64 0] 44)).alloc (.cells #[.string { data:=#[] },.string { data:=#[] },.string { data:=#[] },.string { data:=#[] }] 52)).setRow w27.heap.size Hc2).setRow (w27.heap.size+1) P2=w28 at *
       rw [← HHc2.out] at HH
       have HSN9:=Lib.hid (HSN8.out.below HBW.out)
       have HH28:Hid (HAt w28 g16 44 X):=Lib.hid (HH27.out.later HBW.out)
       clear HSN8 HBW HH27
       generalize w27.heap.size=g25 at *
       have k7:=cell_blk HH 7
       have k8:=cell_blk HH 8
       have k10:=cell_blk HH 10
       have c7:=cell_blk HH28.out 7
       have c8:=cell_blk HH28.out 8
       have c10:=cell_blk HH28.out 10
       simp [cH] at k7 k8 k10 c7 c8 c10
       rw [hdl'] at k7
       rw [had'] at k8
       rw [hco'] at k10
       rw [hdl] at c7
       rw [had] at c8
       rw [hco] at c10
       have hw5:IntKind.u64.wrap ((L.length:Int)+1)=((L.length+1:Nat):Int):=by rw [IntKind.wrap_u64] <;> omega
       clear HH hdl hdl' had had' hco hco'
       go_wp2_with fail
       refine (awake18_any _ (HQ.out _ HSN9.out.bel)).mono ?_
       rintro e wz ⟨rfl,hbz⟩
       have HBZ:=Lib.hid (HSN9.out.bel.trans (hbz.mono HSN9.out.bel.size))
       clear hbz
       go_wp2_with fail
       go_ret
       exact ⟨rfl,HBZ.out⟩
      ·have e0:((pz:Int) == 0)=false:=by simp [hp0]
       clear hpz hp0 H21
       go_wp2_with fail
       refine (awake18_any _ (HQ.out _ HSN6.out.bel)).mono ?_
       rintro e wz ⟨rfl,hbz⟩
       have HBZ:=Lib.hid (HSN6.out.bel.trans (hbz.mono HSN6.out.bel.size))
       clear hbz
       go_wp2_with fail
       go_ret
       exact ⟨rfl,HBZ.out⟩
end Go.Proofs.YtdnmgpcfgcidbaaGreatDoor
