/- cMR cMS cMV cPa cPb cYc cPc. -/
import Derived.Test.YtjkgkmmkehnggaaGreatDoorVc3
import Derived.Test.YtjkgkmmkehnggaaGreatDoorVs
namespace Go.Proofs.YtjkgkmmkehnggaaGreatDoor
set_option linter.unusedVariables false
set_option linter.unusedSimpArgs false
open Go.RowKit
set_option maxRecDepth 20000
theorem row1 (g a:Nat):∀ i,i<1→(#[.pointer (some ⟨g,a,none⟩)]:Array Value)[i]?=some (.pointer (some ⟨g,a+i,none⟩)):=by
 intro i hi
 obtain rfl:i=0:=by omega
 rfl
theorem row2 (g a:Nat):∀ i,i<2→(#[.pointer (some ⟨g,a,none⟩),.pointer (some ⟨g,a+1,none⟩)]:Array Value)[i]?=some (.pointer (some ⟨g,a+i,none⟩)):=by
 intro i hi
 obtain rfl|rfl:i=0∨i=1:=by omega
 all_goals rfl
theorem row3 (g a:Nat):∀ i,i<3→(#[.pointer (some ⟨g,a,none⟩),.pointer (some ⟨g,a+1,none⟩),.pointer (some ⟨g,a+2,none⟩)]:Array Value)[i]?=some (.pointer (some ⟨g,a+i,none⟩)):=by
 intro i hi
 obtain rfl|rfl|rfl:i=0∨i=1∨i=2:=by omega
 all_goals rfl
theorem row4 (g a:Nat):∀ i,i<4→(#[.pointer (some ⟨g,a,none⟩),.pointer (some ⟨g,a+1,none⟩),.pointer (some ⟨g,a+2,none⟩),.pointer (some ⟨g,a+3,none⟩)]:Array Value)[i]?=some (.pointer (some ⟨g,a+i,none⟩)):=by
 intro i hi
 obtain rfl|rfl|rfl|rfl:i=0∨i=1∨i=2∨i=3:=by omega
 all_goals rfl
theorem cell_eq {w w':World} {b o:Nat} (h:w'.heap[b]?=w.heap[b]?):w'.cell? ⟨b,o,none⟩=w.cell? ⟨b,o,none⟩:=by simp[World.cell?,h]
theorem FAt.cl {w wx:World} {t:ByteArray} {q c:Int} {T:Hd} {b:Bool} (h:FAt w wx t q (fF T) c) (hb:b=T.cl):FAt w (wx.setCell ⟨w.heap.size+2,11,none⟩ (.bool b)) t q T c:=by
 subst hb
 refine⟨(heap_other (by omega)).trans h.1,(heap_other (by omega)).trans h.2.1,?_,(heap_other (by omega)).trans h.2.2.2.1,h.2.2.2.2.setCell (by show w.heap.size≤w.heap.size+2;omega) _⟩
 unfold HAt
 rw[← fG_set T]
 exact setCell_blk h.2.2.1 _
theorem FAt.drew {w wx:World} {t:ByteArray} {q c:Int} {a:Hd} (h:FAt w wx t q a c):FAt w wx.drew t q a c:=⟨h.1,h.2.1,h.2.2.1,h.2.2.2.1,h.2.2.2.2.drew⟩
set_option maxRecDepth 20000 in
set_option maxHeartbeats 4000000 in
theorem fields_any (t:ByteArray) (w:World) (hm:t.size≤maxLen) (h:127≤t.size):Calls Tryz.prog 98 #[.agg #[.string t,.int .i64 8,.int .i64 0]] w fun e w'=>e=.returned (.tuple #[.agg (cH (telB t)),.int .u8 (nmB t 96 1)])∧Below w.heap.size w w':=by
 have HL:=Lib.hid h;clear h
 have HM:=Lib.hid hm;clear hm
 have H0:=Lib.hid (start_f w t)
 go_enter Tryz.func98,Tryz.ntmps98
 go_wp2_with fail
 go_loopw [14] (fun i wr=>∃ k:Nat,k≤4∧i=.int .i64 k∧FAt w wr t ((8+16*k:Nat):Int) (uK (telB t) k) 0∧(∀ j,j<4→wr.cell? ⟨w.heap.size+4,j,none⟩=some (.pointer (some ⟨w.heap.size+2,2*j,none⟩)))) (fun i _=>4 - (intOf i).toNat)
 case atStart =>
  obtain⟨hf,hr⟩:=H0.out (.cells #[.pointer (some ⟨w.heap.size+2,0,none⟩),.pointer (some ⟨w.heap.size+2,2,none⟩),.pointer (some ⟨w.heap.size+2,4,none⟩),.pointer (some ⟨w.heap.size+2,6,none⟩)] 278)
  refine⟨0,by omega,rfl,hf,fun j hj=>(cell_blk (hr.trans (heap_alloc_new w _)) j).trans ?_⟩
  obtain rfl|rfl|rfl|rfl:j=0∨j=1∨j=2∨j=3:=by omega
  all_goals rfl
 case round =>
  obtain⟨k,hk,rfl,hF,hP⟩:=hrel
  by_cases hlt:k<4
  ·have hp:=hP k hlt
   obtain⟨s0,s1,s2,sf⟩:=hF.scan
   have hbig:w.heap.size<wr.heap.size:=by have:=hF.big;omega
   have HFd:=Lib.hid hF.drew
   have HP:=Lib.hid hP
   have hk1:((8+16*(k+1):Nat):Int)=((8+16*k+8*2:Nat):Int):=by omega
   have K6:=Lib.hid (fun(wx:World) (T:TypeId) (hh:FAt w wx t ((8+16*k:Nat):Int) (uK (telB t) k) 0)=>takeW_f (2*k) 2 #[.pointer (some ⟨w.heap.size+2,2*k,none⟩),.pointer (some ⟨w.heap.size+2,2*k+1,none⟩)] T hh HM.out (by omega) (by omega) (by have:=HL.out;omega) (row2 _ _) (uK_set t k hlt))
   rw[← hk1] at K6
   clear hF hP hk1
   obtain⟨q,hq⟩:∃ q,8+16*k=q:=⟨_,rfl⟩
   obtain⟨r,hr⟩:∃ r,8+16*(k+1)=r:=⟨_,rfl⟩
   rw[hq,hr] at K6
   rw[hq] at HFd s1
   have HR:=Lib.hid hr
   clear hq hr
   go_upto_region 6 with fail
   go_region_with (first|(go_at_call 173;refine(K6.out _ _ HFd.out).mono ?_;rintro e w' ⟨rfl,hF2,hO2⟩;obtain⟨r0,r1,r2,rf⟩:=hF2.scan))
   all_goals
    go_wp2_with fail
    go_roundw
    case rel =>
     have h4:w.heap.size+4<wr.heap.size:=cellb_lt hp
     refine⟨k+1,by omega,by go_num,by rw[HR.out];exact hF2.on,fun j hj=>?_⟩
     rw[cell_setother _ (by simp),cell_setother _ (by simp),cell_setother _ (by simp)]
     exact(cell_eq (hO2 _ h4 (by omega))).trans (HP.out j hj)
    case measure=>simp[intOf];omega
  ·obtain rfl:k=4:=by omega
   have hF:FAt w wr t 72 (uK (telB t) 4) 0:=hF
   clear hP hlt hk H0
   have HCl:=Lib.hid (telB_cl t)
   have HFG:=Lib.hid (fun(wx:World) (q c:Int) (h:FAt w wx t q (fF (telB t)) c) (b:Bool) (hb:b=(telB t).cl)=>h.cl hb)
   have K8:Hid (∀ (wx:World) (T:TypeId),FAt w wx t 72 (uK (telB t) 4) 0→Calls Tryz.prog 173 #[.agg #[.string t,.int .i64 72,.int .i64 0],.int .i64 8,.slice (some ⟨wx.heap.size,0,none⟩) 3 3] (wx.alloc (.cells #[.pointer (some ⟨w.heap.size+2,8,none⟩),.pointer (some ⟨w.heap.size+2,9,none⟩),.pointer (some ⟨w.heap.size+2,10,none⟩)] T)) fun e w'=>e=.returned (.agg #[.string t,.int .i64 96,.int .i64 0])∧FAt w w' t 72 (fA (telB t)) 0):=Lib.hid (fun wx T hh=>(takeW_f (q:=72) 8 3 _ T hh HM.out (by omega) (by omega) (by have:=HL.out;omega) (row3 _ 8) (fA_set t)).mono fun e w' h=>⟨h.1,h.2.1⟩)
   obtain⟨s0,s1,s2,sf⟩:=hF.scan
   have HF:=Lib.hid hF
   clear hF
   go_upto_region 8 with fail
   go_cut [] (fun wx=>FAt w wx t 96 (fA (telB t)) 0)
   case first =>
    go_wp2_with fail
    refine(K8.out _ _ HF.out).mono ?_
    rintro e w' ⟨rfl,hF2⟩
    obtain⟨r0,r1,r2,rf⟩:=hF2.scan
    have HF2:=Lib.hid hF2
    clear hF2
    go_wp2_with fail
    go_meet
    case rel=>exact HF2.out.on
   case rest =>
   have hF:=hcut
   clear hcut HF K8 s0 s1 s2 sf
   generalize wc=w8 at *
   have K9:Hid (∀ (wx:World) (T:TypeId),FAt w wx t 96 (fA (telB t)) 0→Calls Tryz.prog 174 #[.agg #[.string t,.int .i64 96,.int .i64 0],.int .i64 1,.slice (some ⟨wx.heap.size,0,none⟩) 4 4] (wx.alloc (.cells #[.pointer (some ⟨w.heap.size+3,0,none⟩),.pointer (some ⟨w.heap.size+2,12,none⟩),.pointer (some ⟨w.heap.size+2,13,none⟩),.pointer (some ⟨w.heap.size+2,14,none⟩)] T)) fun e w'=>e=.returned (.agg #[.string t,.int .i64 100,.int .i64 0])∧FAt w w' t 96 (fB (telB t)) (nmB t 96 1)):=Lib.hid (fun wx T hh=>takeB_f T hh HM.out (by have:=HL.out;omega) (fB_set t))
   obtain⟨s0,s1,s2,sf⟩:=hF.scan
   have HF:=Lib.hid hF
   clear hF
   go_upto_region 9 with fail
   go_cut [] (fun wx=>FAt w wx t 100 (fB (telB t)) (nmB t 96 1))
   case first =>
    go_wp2_with fail
    refine(K9.out _ _ HF.out).mono ?_
    rintro e w' ⟨rfl,hF2⟩
    obtain⟨r0,r1,r2,rf⟩:=hF2.scan
    have HF2:=Lib.hid hF2
    clear hF2
    go_wp2_with fail
    go_meet
    case rel=>exact HF2.out.on
   case rest =>
   have hF:=hcut
   clear hcut HF K9 s0 s1 s2 sf
   generalize wc=w9 at *
   have K10:Hid (∀ (wx:World) (T:TypeId),FAt w wx t 100 (fB (telB t)) (nmB t 96 1)→Calls Tryz.prog 175 #[.agg #[.string t,.int .i64 100,.int .i64 0],.int .i64 1,.slice (some ⟨wx.heap.size,0,none⟩) 2 2] (wx.alloc (.cells #[.pointer (some ⟨w.heap.size+2,15,none⟩),.pointer (some ⟨w.heap.size+2,16,none⟩)] T)) fun e w'=>e=.returned (.agg #[.string t,.int .i64 102,.int .i64 0])∧FAt w w' t 100 (fC (telB t)) (nmB t 96 1)):=Lib.hid (fun wx T hh=>(takeI_f (q:=100) 15 2 _ T hh HM.out (by omega) (by omega) (by have:=HL.out;omega) (row2 _ 15) (fC_set t)))
   obtain⟨s0,s1,s2,sf⟩:=hF.scan
   have HF:=Lib.hid hF
   clear hF
   go_upto_region 10 with fail
   go_cut [] (fun wx=>FAt w wx t 102 (fC (telB t)) (nmB t 96 1))
   case first =>
    go_wp2_with fail
    refine(K10.out _ _ HF.out).mono ?_
    rintro e w' ⟨rfl,hF2⟩
    obtain⟨r0,r1,r2,rf⟩:=hF2.scan
    have HF2:=Lib.hid hF2
    clear hF2
    go_wp2_with fail
    go_meet
    case rel=>exact HF2.out.on
   case rest =>
   have hF:=hcut
   clear hcut HF K10 s0 s1 s2 sf
   generalize wc=w10 at *
   have K11:Hid (∀ (wx:World) (T:TypeId),FAt w wx t 102 (fC (telB t)) (nmB t 96 1)→Calls Tryz.prog 176 #[.agg #[.string t,.int .i64 102,.int .i64 0],.slice (some ⟨wx.heap.size,0,none⟩) 4 4] (wx.alloc (.cells #[.pointer (some ⟨w.heap.size+2,17,none⟩),.pointer (some ⟨w.heap.size+2,18,none⟩),.pointer (some ⟨w.heap.size+2,19,none⟩),.pointer (some ⟨w.heap.size+2,20,none⟩)] T)) fun e w'=>e=.returned (.agg #[.string t,.int .i64 118,.int .i64 0])∧FAt w w' t 102 (fD (telB t)) (nmB t 96 1)):=Lib.hid (fun wx T hh=>(takeDeg_f (q:=102) 17 4 _ T hh HM.out (by omega) (by omega) (by have:=HL.out;omega) (row4 _ 17) (fD_set t)))
   obtain⟨s0,s1,s2,sf⟩:=hF.scan
   have HF:=Lib.hid hF
   clear hF
   go_upto_region 11 with fail
   go_cut [] (fun wx=>FAt w wx t 118 (fD (telB t)) (nmB t 96 1))
   case first =>
    go_wp2_with fail
    refine(K11.out _ _ HF.out).mono ?_
    rintro e w' ⟨rfl,hF2⟩
    obtain⟨r0,r1,r2,rf⟩:=hF2.scan
    have HF2:=Lib.hid hF2
    clear hF2
    go_wp2_with fail
    go_meet
    case rel=>exact HF2.out.on
   case rest =>
   have hF:=hcut
   clear hcut HF K11 s0 s1 s2 sf
   generalize wc=w11 at *
   have K12:Hid (∀ (wx:World) (T:TypeId),FAt w wx t 118 (fD (telB t)) (nmB t 96 1)→Calls Tryz.prog 175 #[.agg #[.string t,.int .i64 118,.int .i64 0],.int .i64 1,.slice (some ⟨wx.heap.size,0,none⟩) 1 1] (wx.alloc (.cells #[.pointer (some ⟨w.heap.size+2,21,none⟩)] T)) fun e w'=>e=.returned (.agg #[.string t,.int .i64 119,.int .i64 0])∧FAt w w' t 118 (fE (telB t)) (nmB t 96 1)):=Lib.hid (fun wx T hh=>(takeI_f (q:=118) 21 1 _ T hh HM.out (by omega) (by omega) (by have:=HL.out;omega) (row1 _ 21) (fE_set t)))
   obtain⟨s0,s1,s2,sf⟩:=hF.scan
   have HF:=Lib.hid hF
   clear hF
   go_upto_region 12 with fail
   go_cut [] (fun wx=>FAt w wx t 119 (fE (telB t)) (nmB t 96 1))
   case first =>
    go_wp2_with fail
    refine(K12.out _ _ HF.out).mono ?_
    rintro e w' ⟨rfl,hF2⟩
    obtain⟨r0,r1,r2,rf⟩:=hF2.scan
    have HF2:=Lib.hid hF2
    clear hF2
    go_wp2_with fail
    go_meet
    case rel=>exact HF2.out.on
   case rest =>
   have hF:=hcut
   clear hcut HF K12 s0 s1 s2 sf
   generalize wc=w12 at *
   have K13:Hid (∀ (wx:World) (T:TypeId),FAt w wx t 119 (fE (telB t)) (nmB t 96 1)→Calls Tryz.prog 176 #[.agg #[.string t,.int .i64 119,.int .i64 0],.slice (some ⟨wx.heap.size,0,none⟩) 2 2] (wx.alloc (.cells #[.pointer (some ⟨w.heap.size+2,22,none⟩),.pointer (some ⟨w.heap.size+2,23,none⟩)] T)) fun e w'=>e=.returned (.agg #[.string t,.int .i64 127,.int .i64 0])∧FAt w w' t 119 (fF (telB t)) (nmB t 96 1)):=Lib.hid (fun wx T hh=>(takeDeg_f (q:=119) 22 2 _ T hh HM.out (by omega) (by omega) (by have:=HL.out;omega) (row2 _ 22) (fF_set t)))
   obtain⟨s0,s1,s2,sf⟩:=hF.scan
   have HF:=Lib.hid hF
   clear hF
   go_upto_region 13 with fail
   go_cut [] (fun wx=>FAt w wx t 119 (fF (telB t)) (nmB t 96 1))
   case first =>
    go_wp2_with fail
    refine(K13.out _ _ HF.out).mono ?_
    rintro e w' ⟨rfl,hF2⟩
    obtain⟨r0,r1,r2,rf⟩:=hF2.scan
    have HF2:=Lib.hid hF2
    clear hF2
    go_wp2_with fail
    go_meet
    case rel=>exact HF2.out
   case rest =>
   have hF:=hcut
   clear hcut HF K13 s0 s1 s2 sf
   generalize wc=w13 at *
   obtain⟨x,hx⟩:∃ x,nmB t 96 1=x:=⟨_,rfl⟩
   rw[hx] at hF HCl
   have HX:=Lib.hid hx
   clear hx
   have e11:=at11 hF.2.2.1
   have c0:w13.cell? ⟨w.heap.size+3,0,none⟩=some (.int .u8 x):=cell_blk hF.2.2.2.1 0
   have gf:∀ o,w13.frozen? ⟨w.heap.size+2,o,none⟩=false:=fun o=>by have:=hF.2.2.1;unfold HAt at this;simp[World.frozen?,this]
   have HF:=Lib.hid hF
   clear hF
   go_upto_region 14 with fail
   go_cut [] (fun wx=>FAt w wx t 119 (telB t) x)
   case first =>
    go_wp2_with fail
    go_meet
    case rel=>exact HFG.out _ _ _ HF.out _ HCl.out.symm
   case rest =>
   have hF:=hcut
   clear hcut HF HFG HCl e11 c0 gf
   generalize wc=w14 at *
   obtain⟨T,hT⟩:∃ T,telB t=T:=⟨_,rfl⟩
   rw[hT] at hF
   have HT:=Lib.hid hT
   clear hT
   have c0:w14.cell? ⟨w.heap.size+3,0,none⟩=some (.int .u8 x):=cell_blk hF.2.2.2.1 0
   have HF:=Lib.hid hF
   clear hF
   go_upto_region 15 with fail
   go_cut [3] (fun y wx=>y=.int .u8 x∧HAt wx (w.heap.size+1) 93 T∧Below w.heap.size w wx)
   case first =>
    refine wp_region_any (by kernel_rfl) ?_
    change wpAny _ _ _ _ _ _ _ (World.drew _)
    have hR:HAt w14.drew (w.heap.size+1) 93 zeroH:=HF.out.2.1
    have hA:HAt w14.drew (w.heap.size+2) 93 T:=HF.out.2.2.1
    have hU:Below w.heap.size w w14.drew:=HF.out.2.2.2.2.drew
    have HP:=put24 w14.drew (w.heap.size+1) 93 zeroH T hR
    refine wpAny_ready (rs:=[0,1]) (by kernel_rfl) (by simp) ?_
    refine AllReady.cons rfl (fun K hK=>?_) (AllReady.cons rfl (fun K hK=>?_) AllReady.nil)
    ·rw[if_pos (by rfl)]
     refine wp_load_row 93 _ rfl (w.heap.size+2) rfl 93 (cH T) (0,0) _ hA Tryz.underlying93 rfl head_size (hK _ _ ?_)
     clear hK K
     try simp only[Act.put,zsA,zsB,zsC]
     refine wpAny_ready (rs:=[1,2]) (by kernel_rfl) (by simp) ?_
     refine AllReady.cons rfl (fun K hK=>?_) (AllReady.cons rfl (fun K hK=>?_) AllReady.nil)
     ·go_simp
      refine hK _ _ ?_
      clear hK K
      try simp only[Act.put,zsA,zsB,zsC]
      refine wpAny_ready (rs:=[2]) (by kernel_rfl) (by simp) ?_
      refine AllReady.cons rfl (fun K hK=>?_) AllReady.nil
      rw[if_pos (by rfl)]
      refine wp_store_row 93 _ _ rfl (w.heap.size+1) (cH T) rfl rfl 93 (cH zeroH) hR head_size rfl (cH_one T) (hK _ _ ?_)
      clear hK K
      generalize w14.drew.setRow (w.heap.size+1) (cH T)=w15 at HP ⊢
      have c0:w15.cell? ⟨w.heap.size+3,0,none⟩=some (.int .u8 x):=(cell_eq (HP.2.2.2 _ (by omega))).trans c0
      try simp only[Act.put,zsA,zsB,zsC]
      refine wpAny_ready (rs:=[3]) (by kernel_rfl) (by simp) ?_
      refine AllReady.cons rfl (fun K hK=>?_) AllReady.nil
      go_simp
      refine hK _ _ ?_
      clear hK K
      try simp only[Act.put,zsA,zsB,zsC]
      refine wpAny_done (by kernel_rfl) ?_ _
      go_wp2_with fail
      go_meet
      case rel=>exact⟨rfl,HP.1,HP.2.2.1 _ _ (by omega) hU⟩
     ·rw[if_pos (by rfl)]
      refine wp_store_row 93 _ _ rfl (w.heap.size+1) (cH T) rfl rfl 93 (cH zeroH) hR head_size rfl (cH_one T) (hK _ _ ?_)
      clear hK K
      generalize w14.drew.setRow (w.heap.size+1) (cH T)=w15 at HP ⊢
      have c0:w15.cell? ⟨w.heap.size+3,0,none⟩=some (.int .u8 x):=(cell_eq (HP.2.2.2 _ (by omega))).trans c0
      try simp only[Act.put,zsA,zsB,zsC]
      refine wpAny_ready (rs:=[1]) (by kernel_rfl) (by simp) ?_
      refine AllReady.cons rfl (fun K hK=>?_) AllReady.nil
      go_simp
      refine hK _ _ ?_
      clear hK K
      try simp only[Act.put,zsA,zsB,zsC]
      refine wpAny_ready (rs:=[3]) (by kernel_rfl) (by simp) ?_
      refine AllReady.cons rfl (fun K hK=>?_) AllReady.nil
      go_simp
      refine hK _ _ ?_
      clear hK K
      try simp only[Act.put,zsA,zsB,zsC]
      refine wpAny_done (by kernel_rfl) ?_ _
      go_wp2_with fail
      go_meet
      case rel=>exact⟨rfl,HP.1,HP.2.2.1 _ _ (by omega) hU⟩
    ·go_simp
     refine hK _ _ ?_
     clear hK K
     try simp only[Act.put,zsA,zsB,zsC]
     refine wpAny_ready (rs:=[0]) (by kernel_rfl) (by simp) ?_
     refine AllReady.cons rfl (fun K hK=>?_) AllReady.nil
     rw[if_pos (by rfl)]
     refine wp_load_row 93 _ rfl (w.heap.size+2) rfl 93 (cH T) (0,0) _ hA Tryz.underlying93 rfl head_size (hK _ _ ?_)
     clear hK K
     try simp only[Act.put,zsA,zsB,zsC]
     refine wpAny_ready (rs:=[2]) (by kernel_rfl) (by simp) ?_
     refine AllReady.cons rfl (fun K hK=>?_) AllReady.nil
     rw[if_pos (by rfl)]
     refine wp_store_row 93 _ _ rfl (w.heap.size+1) (cH T) rfl rfl 93 (cH zeroH) hR head_size rfl (cH_one T) (hK _ _ ?_)
     clear hK K
     generalize w14.drew.setRow (w.heap.size+1) (cH T)=w15 at HP ⊢
     have c0:w15.cell? ⟨w.heap.size+3,0,none⟩=some (.int .u8 x):=(cell_eq (HP.2.2.2 _ (by omega))).trans c0
     try simp only[Act.put,zsA,zsB,zsC]
     refine wpAny_ready (rs:=[3]) (by kernel_rfl) (by simp) ?_
     refine AllReady.cons rfl (fun K hK=>?_) AllReady.nil
     go_simp
     refine hK _ _ ?_
     clear hK K
     try simp only[Act.put,zsA,zsB,zsC]
     refine wpAny_done (by kernel_rfl) ?_ _
     go_wp2_with fail
     go_meet
     case rel=>exact⟨rfl,HP.1,HP.2.2.1 _ _ (by omega) hU⟩
   case rest =>
    obtain⟨rfl,hA,hU⟩:=hcut
    have HH:=Lib.hid (And.intro hA hU)
    clear hA hU
    go_wp2_with fail
    refine bodyPost_ret (v:=.tuple #[.agg (cH T),.int .u8 x]) (results_head Tryz.results98 _ _ _ _ _ _ rfl rfl HH.out.1) rfl ⟨by rw[HT.out,HX.out],HH.out.2⟩
set_option maxRecDepth 20000 in
theorem decode_short (t:ByteArray) (w:World) (h127:t.size<127):Calls Tryz.prog 38 #[.string t] w fun e w'=>e=.returned (.tuple #[.agg (cH zeroH),.int .i64 3])∧Below w.heap.size w w':=by
 have HZ:=HAt.zero w 93
 have hd:decide ((t.size:Int)<127)=true:=by simp;omega
 clear h127
 go_enter Tryz.func38,Tryz.ntmps38
 go_wp2_with (first|(refine store_head (by rfl) _ _ rfl _ rfl zeroH rfl _ zeroH (by assumption) rfl ?_;intro w2 HP)|fail)
 refine bodyPost_ret (v:=.tuple #[.agg (cH zeroH),.int .i64 3]) (results_head Tryz.results38 _ _ _ _ _ _ rfl rfl HP.1) rfl ⟨rfl,HP.2.2.1 _ _ (Nat.le_refl _) ((Below.refl _ _).alloc (Nat.le_refl _) _)⟩
theorem bytes7 (t:ByteArray) (hm:t.size≤maxLen) (h:127≤t.size) (W:World):Calls Tryz.prog 96 #[.agg #[.string t,.int .i64 0,.int .i64 0],.int .i64 7] W fun e w'=>e=.returned (.tuple #[.string (t.extract 0 7),.agg #[.string t,.int .i64 7,.int .i64 0]])∧Below W.heap.size W w' :=
 bytes_yes t 0 7 W hm (bytesBad_ok t 0 7 hm (by omega) (by omega) (by omega)) (by omega) (by omega) (by omega)
theorem num7 (t:ByteArray) (hm:t.size≤maxLen) (h:127≤t.size) (W:World):Calls Tryz.prog 97 #[.agg #[.string t,.int .i64 7,.int .i64 0],.int .i64 1] W fun e w'=>e=.returned (.tuple #[.int .u64 (nmB t 7 1),.agg #[.string t,.int .i64 8,.int .i64 0]])∧Below W.heap.size W w' :=
 num_at t 7 1 W hm (by omega) (by omega) (by omega)
set_option maxRecDepth 20000 in
set_option maxHeartbeats 4000000 in
theorem decode_long (t:ByteArray) (w:World) (hm:t.size≤maxLen) (h127:127≤t.size) (E:Hd × Int) (hE:decH (blCc t)=E):Calls Tryz.prog 38 #[.string t] w fun e w'=>e=.returned (.tuple #[.agg (cH E.1),.int .i64 E.2])∧Below w.heap.size w w':=by
 have HZ:=HAt.zero w 93
 have hd:decide ((t.size:Int)<127)=false:=by simp;omega
 have HE:=Lib.hid hE
 have HM:=Lib.hid hm
 have HL:=Lib.hid h127
 have K7:=Lib.hid (bytes7 t hm h127)
 have N7:=Lib.hid (num7 t hm h127)
 have KF:=Lib.hid (fun W=>fields_any t W hm h127)
 have KC:=Lib.hid (fun W=>check_anyCc (telB t) W (may_telB t h127))
 clear hE hm h127
 obtain⟨s7,hs7⟩:∃ s,t.extract 0 7=s:=⟨_,rfl⟩
 rw[hs7] at K7
 have HS7:=Lib.hid hs7
 clear hs7
 go_enter Tryz.func38,Tryz.ntmps38
 go_upto_region 3 with fail
 obtain⟨W0,hW0⟩:∃ W0,w.alloc (.cells #[.int .u64 zeroH.rf,.int .u64 zeroH.rl,.int .u64 zeroH.mf,.int .u64 zeroH.ml,.int .u64 zeroH.lf,.int .u64 zeroH.ll,.int .u64 zeroH.df,.int .u64 zeroH.dl,.int .u64 zeroH.ad,.int .u64 zeroH.en,.int .u64 zeroH.co,.bool zeroH.cl,.int .u8 zeroH.inn,.int .u8 zeroH.out,.int .u8 zeroH.knd,.int .i64 zeroH.z0,.int .i64 zeroH.z1,.int .i64 zeroH.lo0,.int .i64 zeroH.la0,.int .i64 zeroH.lo1,.int .i64 zeroH.la1,.int .i64 zeroH.zm,.int .i64 zeroH.lon,.int .i64 zeroH.lat] 93)=W0:=⟨_,rfl⟩
 have hW2:w.alloc (.cells #[.int .u64 0,.int .u64 0,.int .u64 0,.int .u64 0,.int .u64 0,.int .u64 0,.int .u64 0,.int .u64 0,.int .u64 0,.int .u64 0,.int .u64 0,.bool false,.int .u8 0,.int .u8 0,.int .u8 0,.int .i64 0,.int .i64 0,.int .i64 0,.int .i64 0,.int .i64 0,.int .i64 0,.int .i64 0,.int .i64 0,.int .i64 0] 93)=W0:=hW0
 rw[hW0] at HZ
 have U0:Below w.heap.size w W0:=by rw[← hW0];exact(Below.refl _ _).alloc (Nat.le_refl _) _
 rw[hW2]
 clear hW0 hW2
 have HHZ:=Lib.hid HZ
 have HU0:=Lib.hid U0
 clear HZ U0 hd
 go_cut [4,5] (fun s p wx=>∃ g,s=.string s7∧p=.pointer (some ⟨g,0,none⟩)∧ScanAt wx g t 7∧HAt wx w.heap.size 93 zeroH∧w.heap.size<g∧Below w.heap.size w wx)
 case first =>
  go_wp2_with fail
  refine(K7.out _).mono ?_
  rintro e w1 ⟨rfl,hb1⟩
  have h1:=HHZ.out.later hb1
  have u1:=HU0.out.trans (hb1.mono HU0.out.size)
  have hl:=h1.lt
  have HH1:=Lib.hid (And.intro h1 u1)
  clear h1 u1 hb1
  go_wp2_with fail
  go_meet
  case rel =>
   exact⟨_,rfl,rfl,heap_alloc_new w1 _,(heap_alloc_old hl).trans HH1.out.1,hl,HH1.out.2.alloc (by omega) _⟩
 case rest =>
 obtain⟨g,rfl,rfl,hS,hZ,hlt,hU⟩:=hcut
 generalize wc=w1 at *
 clear K7 HHZ HU0
 by_cases hn:s7=⟨#[80,77,84,105,108,101,115]⟩
 ·have hne:=str_eq hn
  subst hn
  have HN:=HS7.out
  obtain⟨s0,s1,s2,sf⟩:=hS.cells
  have hsl:=hS.lt
  have HS:=Lib.hid hS
  have HH1:=Lib.hid (And.intro hZ hU)
  obtain⟨y,hy⟩:∃ y,nmB t 7 1=y:=⟨_,rfl⟩
  rw[hy] at N7
  have HY:=Lib.hid hy
  have HNN:=Lib.hid HN
  clear hS hU hZ hy HN HS7
  go_upto_region 6 with fail
  go_cut [6] (fun x wx=>x=.int .u64 y∧ScanAt wx g t 8∧HAt wx w.heap.size 93 zeroH∧Below w.heap.size w wx)
  case first =>
   go_wp2_with fail
   refine(N7.out _).mono ?_
   rintro e w2 ⟨rfl,hb2⟩
   have hS2:=HS.out.later hb2
   have hZ2:=HH1.out.1.later hb2
   have hU2:=HH1.out.2.trans (hb2.mono HH1.out.2.size)
   obtain⟨r0,r1,r2,rf⟩:=hS2.cells
   have HH2:=Lib.hid (And.intro hS2 (And.intro hZ2 hU2))
   clear hS2 hZ2 hU2 hb2
   go_wp2_with fail
   go_meet
   case rel =>
    have hk:∀ k,k≠g→(((w2.setCell ⟨g,0,none⟩ (.string t)).setCell ⟨g,1,none⟩ (.int .i64 8)).setCell ⟨g,2,none⟩ (.int .i64 0)).heap[k]?=w2.heap[k]?:=fun k hk=>by rw[heap_other hk,heap_other hk,heap_other hk]
    exact⟨rfl,HH2.out.1.on,(hk _ (by omega)).trans HH2.out.2.1,((HH2.out.2.2.setCell (by show w.heap.size≤g;omega) _).setCell (by show w.heap.size≤g;omega) _).setCell (by show w.heap.size≤g;omega) _⟩
  case rest =>
  obtain⟨rfl,hS,hZ,hU⟩:=hcut
  generalize wc=w2 at *
  clear N7 HS HH1 s0 s1 s2 sf
  by_cases hv:y=3
  ·subst hv
   obtain⟨s0,s1,s2,sf⟩:=hS.cells
   have HH2:=Lib.hid (And.intro hZ hU)
   clear hS hU hZ
   have HTT:=Lib.hid (fun(c:Int) (hc:c=nmB t 96 1)=>hc)
   obtain⟨T,hT⟩:∃ T,telB t=T:=⟨_,rfl⟩
   obtain⟨x,hx⟩:∃ x,nmB t 96 1=x:=⟨_,rfl⟩
   rw[hT,hx] at KF
   rw[hT] at KC
   have HT:=Lib.hid hT
   have HX:=Lib.hid hx
   clear hT hx HTT
   go_upto_region 9 with fail
   go_cut [7,8] (fun p c wx=>∃ k,p=.pointer (some ⟨k,0,none⟩)∧c=.int .u8 x∧HAt wx k 93 T∧HAt wx w.heap.size 93 zeroH∧w.heap.size<k∧Below w.heap.size w wx)
   case first =>
    go_wp2_with fail
    refine(KF.out _).mono ?_
    rintro e w3 ⟨rfl,hb3⟩
    have hZ3:=HH2.out.1.later hb3
    have hU3:=HH2.out.2.trans (hb3.mono HH2.out.2.size)
    have hl:=hZ3.lt
    have HH3:=Lib.hid (And.intro hZ3 hU3)
    have HZ:=HAt.zero w3 93
    clear hZ3 hU3 hb3 s0 s1 s2 sf
    go_wp2_with (first|(refine store_head (by rfl) _ _ rfl _ rfl T rfl _ zeroH (by assumption) rfl ?_;intro w4 HP)|fail)
    go_meet
    case rel=>exact⟨_,rfl,rfl,HP.1,HP.keep ((heap_alloc_old hl).trans HH3.out.1) (by omega),hl,HP.2.2.1 _ _ (by omega) (HH3.out.2.alloc (by omega) _)⟩
   case rest =>
   obtain⟨k,rfl,rfl,hA,hZ,hlk,hU⟩:=hcut
   generalize wc=w3 at *
   clear KF HH2 s0 s1 s2 sf
   by_cases hf:1<x
   ·have hE2:E=(zeroH,4):=HE.out.symm.trans (decB_form t HL.out HNN.out HY.out (by rw[HX.out];exact hf))
    subst hE2
    have hd:decide (1<x)=true:=by simpa using hf
    have HU:=Lib.hid hU
    clear hf hU hA
    go_wp2_with (first|(refine store_head (by rfl) _ _ rfl _ rfl zeroH rfl _ zeroH (by assumption) rfl ?_;intro w5 HP)|fail)
    refine bodyPost_ret (v:=.tuple #[.agg (cH zeroH),.int .i64 4]) (results_head Tryz.results38 _ _ _ _ _ _ rfl rfl HP.1) rfl ⟨rfl,HP.2.2.1 _ _ (Nat.le_refl _) HU.out⟩
   ·have hd:decide (1<x)=false:=by simpa using hf
    have hE1:ckH T≠0→E=(zeroH,ckH T):=fun hc=>HE.out.symm.trans (by rw[← HT.out] at hc ⊢;exact decB_bad t HL.out HNN.out HY.out (by rw[HX.out];exact hf) hc)
    have hE0:ckH T=0→E=(T,0):=fun hc=>HE.out.symm.trans (by rw[← HT.out] at hc ⊢;exact decB_ok t HL.out HNN.out HY.out (by rw[HX.out];exact hf) hc)
    have HHA:=Lib.hid hA
    have HHR:=Lib.hid hZ
    have HU:=Lib.hid hU
    clear hf hU hZ
    obtain⟨r,hr⟩:∃ r,ckH T=r:=⟨_,rfl⟩
    rw[hr] at KC hE1 hE0
    by_cases h0:r=0
    ·subst h0
     have HE2:Hid (E=(T,0)):=Lib.hid (hE0 rfl)
     clear hr hE0 hE1
     go_wp2_with (first|(refine load_head (by rfl) _ rfl _ rfl _ T (by assumption) ?_)|fail)
     refine(KC.out _).mono ?_
     rintro e w6 ⟨rfl,hb⟩
     have hA6:=HHA.out.later hb
     have hR6:=HHR.out.later hb
     have u6:=HU.out.trans (hb.mono HU.out.size)
     have hee:Ending.returned (.tuple #[.agg (cH T),.int .i64 0])=.returned (.tuple #[.agg (cH E.1),.int .i64 E.2]):=by rw[HE2.out]
     have HU6:=Lib.hid u6
     have HEE:=Lib.hid hee
     clear hb HHA HHR HU hA hee u6
     go_wp2_with (first|(refine load_head (by rfl) _ rfl _ rfl _ T (by assumption) ?_)|(refine store_head (by rfl) _ _ rfl _ rfl T rfl _ zeroH (by assumption) rfl ?_;intro w7 HP)|fail)
     refine bodyPost_ret (v:=.tuple #[.agg (cH T),.int .i64 0]) (results_head Tryz.results38 _ _ _ _ _ _ rfl rfl HP.1) rfl ⟨HEE.out,HP.2.2.1 _ _ (Nat.le_refl _) HU6.out⟩
    ·have HE2:Hid (E=(zeroH,r)):=Lib.hid (hE1 h0)
     have hne2:(r != 0)=true:=by simp only[bne_iff_ne,ne_eq];exact h0
     clear h0 hr hE0 hE1
     go_wp2_with (first|(refine load_head (by rfl) _ rfl _ rfl _ T (by assumption) ?_)|fail)
     refine(KC.out _).mono ?_
     rintro e w6 ⟨rfl,hb⟩
     have hR6:=HHR.out.later hb
     have u6:=HU.out.trans (hb.mono HU.out.size)
     have hee:Ending.returned (.tuple #[.agg (cH zeroH),.int .i64 r])=.returned (.tuple #[.agg (cH E.1),.int .i64 E.2]):=by rw[HE2.out]
     have HU6:=Lib.hid u6
     have HEE:=Lib.hid hee
     clear hb HHA HHR HU hA hee u6
     go_wp2_with (first|(refine store_head (by rfl) _ _ rfl _ rfl zeroH rfl _ zeroH (by assumption) rfl ?_;intro w7 HP)|fail)
     refine bodyPost_ret (v:=.tuple #[.agg (cH zeroH),.int .i64 r]) (results_head Tryz.results38 _ _ _ _ _ _ rfl rfl HP.1) rfl ⟨HEE.out,HP.2.2.1 _ _ (Nat.le_refl _) HU6.out⟩
  ·have hE2:E=(zeroH,13):=HE.out.symm.trans (decB_version t HL.out HNN.out (by rw[HY.out];exact hv))
   subst hE2
   have hv2:(y != 3)=true:=by simp only[bne_iff_ne,ne_eq];exact hv
   have HU:=Lib.hid hU
   clear hv hS hU KF KC
   go_wp2_with (first|(refine store_head (by rfl) _ _ rfl _ rfl zeroH rfl _ zeroH (by assumption) rfl ?_;intro w5 HP)|fail)
   refine bodyPost_ret (v:=.tuple #[.agg (cH zeroH),.int .i64 13]) (results_head Tryz.results38 _ _ _ _ _ _ rfl rfl HP.1) rfl ⟨rfl,HP.2.2.1 _ _ (Nat.le_refl _) HU.out⟩
 ·have hE2:E=(zeroH,12):=HE.out.symm.trans (decB_magic t HL.out (by rw[HS7.out];exact hn))
  subst hE2
  have hne:=str_ne hn
  have HU:=Lib.hid hU
  clear hn hS hU KF KC N7
  go_wp2_with (first|(refine store_head (by rfl) _ _ rfl _ rfl zeroH rfl _ zeroH (by assumption) rfl ?_;intro w2 HP)|fail)
  refine bodyPost_ret (v:=.tuple #[.agg (cH zeroH),.int .i64 12]) (results_head Tryz.results38 _ _ _ _ _ _ rfl rfl HP.1) rfl ⟨rfl,HP.2.2.1 _ _ (Nat.le_refl _) HU.out⟩
theorem decode_any (t:ByteArray) (w:World) (hm:t.size≤maxLen):Calls Tryz.prog 38 #[.string t] w fun e w'=>e=.returned (.tuple #[.agg (cH (decH (blCc t)).1),.int .i64 (decH (blCc t)).2])∧Below w.heap.size w w':=by
 by_cases h127:t.size<127
 ·rw[decB_short t h127];exact decode_short t w h127
 ·exact decode_long t w hm (by omega) _ rfl
def frK (h:Hd) (k:Nat):Int:=if k=0 then h.rf else if k=1 then h.mf else if k=2 then h.lf else h.df
def lnK (h:Hd) (k:Nat):Int:=if k=0 then h.rl else if k=1 then h.ml else if k=2 then h.ll else h.dl
def enK (h:Hd) (k:Nat):Int:=if k=0 then 127 else frK h (k - 1)+lnK h (k - 1)
def LaidUp (h:Hd) (k:Nat):Prop:=∀ j,j<k→¬ frK h j<enK h j
theorem LaidUp.on {h:Hd} {k:Nat} (u:LaidUp h k) (e:¬ frK h k<enK h k):LaidUp h (k+1):=fun j hj=>by
 rcases(by omega:j<k∨j=k) with hj|rfl
 ·exact u j hj
 ·exact e
theorem laid_order (h:Hd) (n:Int) (k:Nat) (hc:ckH h=0) (u:LaidUp h k) (hk:k<4) (e:frK h k<enK h k):laidB h n=10:=by
 have a0:0<k→¬ h.rf<127:=fun hk=>u 0 hk
 have a1:1<k→¬ h.mf<h.rf+h.rl:=fun hk=>u 1 hk
 have a2:2<k→¬ h.lf<h.mf+h.ml:=fun hk=>u 2 hk
 unfold laidB
 rw[if_neg (fun f=>f hc)]
 obtain rfl|rfl|rfl|rfl:k=0∨k=1∨k=2∨k=3:=by omega
 ·have e:h.rf<127:=e
  rw[if_pos e]
 ·have e:h.mf<h.rf+h.rl:=e
  rw[if_neg (a0 (by omega)),if_pos e]
 ·have e:h.lf<h.mf+h.ml:=e
  rw[if_neg (a0 (by omega)),if_neg (a1 (by omega)),if_pos e]
 ·have e:h.df<h.lf+h.ll:=e
  rw[if_neg (a0 (by omega)),if_neg (a1 (by omega)),if_neg (a2 (by omega)),if_pos e]
theorem laid_last (h:Hd) (n:Int) (hc:ckH h=0) (u:LaidUp h 4):laidB h n=if n<enK h 4 then 8 else 0:=by
 have a0:¬ h.rf<127:=u 0 (by omega)
 have a1:¬ h.mf<h.rf+h.rl:=u 1 (by omega)
 have a2:¬ h.lf<h.mf+h.ml:=u 2 (by omega)
 have a3:¬ h.df<h.lf+h.ll:=u 3 (by omega)
 unfold laidB
 rw[if_neg (fun f=>f hc),if_neg a0,if_neg a1,if_neg a2,if_neg a3]
 rfl
theorem sec_bd (f l:Int) (hf:U64 f) (hl:U64 l) (h:secB f l=true):0≤f∧0≤l∧f+l≤1099511627776:=by
 simp only[secB,Bool.and_eq_true,decide_eq_true_eq] at h
 unfold U64 at hf hl
 omega
theorem sums_ok (h:Hd) (k:Nat) (hm:MayH h) (hc:ckH h=0):0≤frK h k∧0≤lnK h k∧frK h k+lnK h k≤1099511627776:=by
 obtain⟨m0,m1,m2,m3,m4,m5,m6,m7,-⟩:=hm
 have hs:=(ck_zero h hc).1
 simp only[SecsB,Bool.and_eq_true] at hs
 unfold frK lnK
 split
 ·exact sec_bd _ _ m0 m1 hs.1
 split
 ·exact sec_bd _ _ m2 m3 hs.2.1
 split
 ·exact sec_bd _ _ m4 m5 hs.2.2.1
 ·exact sec_bd _ _ m6 m7 hs.2.2.2
theorem idx_secK (h:Hd) (k:Nat) (hk:k<4) (W:World):Sem.run Tryz.prog (Instr.index 165 (.agg #[.int .u64 h.rf,.int .u64 h.rl,.int .u64 h.mf,.int .u64 h.ml,.int .u64 h.lf,.int .u64 h.ll,.int .u64 h.df,.int .u64 h.dl]) (.int .i64 k)) W=.ok (.agg #[.int .u64 (frK h k),.int .u64 (lnK h k)]) W:=by
 have hI:=idx_sec (.int .u64 h.rf) (.int .u64 h.rl) (.int .u64 h.mf) (.int .u64 h.ml) (.int .u64 h.lf) (.int .u64 h.ll) (.int .u64 h.df) (.int .u64 h.dl) W
 obtain rfl|rfl|rfl|rfl:k=0∨k=1∨k=2∨k=3:=by omega
 ·exact hI.1
 ·exact hI.2.1
 ·exact hI.2.2.1
 ·exact hI.2.2.2
set_option maxRecDepth 20000 in
theorem laid_any (h:Hd) (n:Int) (w:World) (hm:MayH h):Calls Tryz.prog 40 #[.agg (cH h),.int .u64 n] w fun e w'=>e=.returned (.int .i64 (laidB h n))∧Below w.heap.size w w':=by
 have HC:=Lib.hid (fun W=>check_anyCc h W hm)
 have H0:=HAt.made w h 93
 obtain⟨R,hR⟩:∃ R,laidB h n=R:=⟨_,rfl⟩
 rw[hR]
 have HR:=Lib.hid hR
 clear hR
 by_cases hc:ckH h=0
 ·rw[hc] at HC
  have HS:=Lib.hid (fun k=>sums_ok h k hm hc)
  have HK:=Lib.hid hc
  clear hm hc
  go_enter Tryz.func40,Tryz.ntmps40
  go_wp2_with (first|(refine load_head (by rfl) _ rfl _ rfl _ h (by assumption) ?_)|fail)
  refine(HC.out _).mono ?_
  rintro e w1 ⟨rfl,hb⟩
  have H1:=H0.below hb (by rw[World.size_alloc];omega)
  have u1:Below w.heap.size w w1:=Below.trans (by go_grown) (hb.mono (by rw[World.size_alloc];omega))
  have HU:=Lib.hid u1
  clear hb H0 u1 HC
  go_wp2_with (first|(refine load_head (by rfl) _ rfl _ rfl _ h (by assumption) ?_)|fail)
  refine(sections_h h _).mono ?_
  rintro e w2 ⟨rfl,hb⟩
  have u2:=HU.out.trans (hb.mono HU.out.size)
  have HU2:=Lib.hid u2
  clear hb u2 HU H1
  go_wp2_with fail
  go_loopw [6,16] (fun e i wr=>∃ k:Nat,k≤4∧i=.int .i64 k∧e=.int .u64 (enK h k)∧Hid (LaidUp h k)∧Hid (Below w.heap.size w wr)) (fun _ i _=>4 - (intOf i).toNat)
  case atStart=>exact⟨0,by omega,rfl,rfl,Lib.hid (fun j hj=>by omega),HU2⟩
  case round =>
   obtain⟨k,hk,rfl,rfl,HLU,HB⟩:=hrel
   by_cases hlt:k<4
   ·have hI:=fun W=>idx_secK h k hlt W
    have hs:=HS.out k
    have HEn:Hid (enK h (k+1)=frK h k+lnK h k):=Lib.hid rfl
    obtain⟨f,hf⟩:∃ f,frK h k=f:=⟨_,rfl⟩
    obtain⟨l,hl⟩:∃ l,lnK h k=l:=⟨_,rfl⟩
    obtain⟨q,hq⟩:∃ q,enK h k=q:=⟨_,rfl⟩
    rw[hf,hl] at hI hs HEn
    rw[hq]
    have HF:=Lib.hid hf
    have HQ:=Lib.hid hq
    clear hf hl hq
    have hd4:decide ((k:Int)<4)=true:=by simp;omega
    by_cases hb:f<q
    ·have hE:R=10:=HR.out.symm.trans (laid_order h n k HK.out HLU.out hlt (by rw[HF.out,HQ.out];exact hb))
     subst hE
     have hd:decide (f<q)=true:=by simpa using hb
     clear hs hb HEn
     go_wp2_with fail
     go_ret
     exact⟨rfl,HB.out.alloc HB.out.size _⟩
    ·have HL2:=Lib.hid (HLU.out.on (by rw[HF.out,HQ.out];exact hb))
     have hd:decide (f<q)=false:=by simpa using hb
     have hw:IntKind.u64.wrap (f+l)=f+l:=by rw[IntKind.wrap_u64] <;> omega
     have HEnd:=Lib.hid (fun W=>end_sec f l W)
     rw[hw,← HEn.out] at HEnd
     clear hs hb hw
     go_wp2_with fail
     refine(HEnd.out _).mono ?_
     rintro e w3 ⟨rfl,hb3⟩
     have HB3:=Lib.hid ((HB.out.alloc HB.out.size (.cells #[.int .u64 f,.int .u64 l] 91)).trans (hb3.mono (by rw[World.size_alloc];have:=HB.out.size;omega)))
     clear hb3
     go_wp2_with fail
     go_roundw
     case rel=>exact⟨k+1,by omega,by go_num,rfl,HL2,HB3⟩
     case measure=>simp[intOf];omega
   ·obtain rfl:k=4:=by omega
    have hE:=HR.out.symm.trans (laid_last h n HK.out HLU.out)
    obtain⟨q,hq⟩:∃ q,enK h 4=q:=⟨_,rfl⟩
    rw[hq] at hE ⊢
    clear hq
    by_cases hb:n<q
    ·rw[if_pos hb] at hE
     subst hE
     have hd:decide (n<q)=true:=by simpa using hb
     clear hb
     go_wp2_with fail
     go_ret
     exact⟨rfl,HB.out⟩
    ·rw[if_neg hb] at hE
     subst hE
     have hd:decide (n<q)=false:=by simpa using hb
     clear hb
     go_wp2_with fail
     go_ret
     exact⟨rfl,HB.out⟩
 ·have hE:R=ckH h:=HR.out.symm.trans (by unfold laidB;rw[if_pos hc])
  obtain⟨r,hr⟩:∃ r,ckH h=r:=⟨_,rfl⟩
  rw[hr] at hE hc HC
  subst hE
  have hne:(R != 0)=true:=by simp only[bne_iff_ne,ne_eq];exact hc
  clear hr HR hm hc
  go_enter Tryz.func40,Tryz.ntmps40
  go_wp2_with (first|(refine load_head (by rfl) _ rfl _ rfl _ h (by assumption) ?_)|fail)
  refine(HC.out _).mono ?_
  rintro e w1 ⟨rfl,hb⟩
  have u1:Below w.heap.size w w1:=Below.trans (by go_grown) (hb.mono (by rw[World.size_alloc];omega))
  clear hb H0
  go_wp2_with fail
  go_ret
  exact⟨rfl,u1⟩
def hA:Hd:={ zeroH with knd:=2,z1:=3,lo0:=-1 }
end Go.Proofs.YtjkgkmmkehnggaaGreatDoor
namespace Go.Proofs.YtjkgkmmkehnggaaGreatDoor
set_option linter.unusedVariables false
set_option linter.unusedSimpArgs false
open Go.RowKit
set_option maxRecDepth 100000
theorem size_strP:Tryz.t9.size=1:=by kernel_rfl
theorem size_u64P:Tryz.t44.size=1:=by kernel_rfl
theorem idx_p (c0 c1 c2 c3:Value) (W:World) :
  Sem.run Tryz.prog (Instr.index 95 (.agg #[c0,c1,c2,c3]) (.int .i64 0)) W=.ok c0 W ∧
  Sem.run Tryz.prog (Instr.index 95 (.agg #[c0,c1,c2,c3]) (.int .i64 1)) W=.ok c1 W ∧
  Sem.run Tryz.prog (Instr.index 95 (.agg #[c0,c1,c2,c3]) (.int .i64 2)) W=.ok c2 W ∧
  Sem.run Tryz.prog (Instr.index 95 (.agg #[c0,c1,c2,c3]) (.int .i64 3)) W=.ok c3 W:=by
 refine⟨?_,?_,?_,?_⟩ <;> simp[Instr.index,run_underlying Tryz.underlying95,asIntOf,part,sizeOf,size_strP,go_sem]
theorem idx_n (c0 c1 c2 c3:Value) (W:World) :
  Sem.run Tryz.prog (Instr.index 168 (.agg #[c0,c1,c2,c3]) (.int .i64 0)) W=.ok c0 W ∧
  Sem.run Tryz.prog (Instr.index 168 (.agg #[c0,c1,c2,c3]) (.int .i64 1)) W=.ok c1 W ∧
  Sem.run Tryz.prog (Instr.index 168 (.agg #[c0,c1,c2,c3]) (.int .i64 2)) W=.ok c2 W ∧
  Sem.run Tryz.prog (Instr.index 168 (.agg #[c0,c1,c2,c3]) (.int .i64 3)) W=.ok c3 W:=by
 refine⟨?_,?_,?_,?_⟩ <;> simp[Instr.index,run_underlying Tryz.underlying168,asIntOf,part,sizeOf,size_u64P,go_sem]
theorem lens15_any (p:Pt) (w:World) (hp:Few p 200000000):Calls Tryz.prog 82 #[.agg (pArr p)] w fun e w'=>e=.returned (.agg #[.int .u64 p.p0.size,.int .u64 p.p1.size,.int .u64 p.p2.size,.int .u64 p.p3.size])∧Below w.heap.size w w':=by
 obtain⟨p0,p1,p2,p3⟩:=p
 obtain⟨l0,l1,l2,l3⟩:=hp
 dsimp only at l0 l1 l2 l3
 have w0:IntKind.u64.wrap (p0.size:Int)=(p0.size:Int):=by rw[IntKind.wrap_u64];omega
 have w1:IntKind.u64.wrap (p1.size:Int)=(p1.size:Int):=by rw[IntKind.wrap_u64];omega
 have w2:IntKind.u64.wrap (p2.size:Int)=(p2.size:Int):=by rw[IntKind.wrap_u64];omega
 have w3:IntKind.u64.wrap (p3.size:Int)=(p3.size:Int):=by rw[IntKind.wrap_u64];omega
 have i0:=fun W=>(idx_p (.string p0) (.string p1) (.string p2) (.string p3) W).1
 have i1:=fun W=>(idx_p (.string p0) (.string p1) (.string p2) (.string p3) W).2.1
 have i2:=fun W=>(idx_p (.string p0) (.string p1) (.string p2) (.string p3) W).2.2.1
 have i3:=fun W=>(idx_p (.string p0) (.string p1) (.string p2) (.string p3) W).2.2.2
 clear l0 l1 l2 l3
 unfold pArr
 go_enter Tryz.func82,Tryz.ntmps82
 go_wp2_with fail
 refine wp_loop_rounds 5 ?_
 rw[rounds_succ]
 go_wp2_with fail
 rw[rounds_succ]
 go_wp2_with fail
 rw[rounds_succ]
 go_wp2_with fail
 rw[rounds_succ]
 go_wp2_with fail
 rw[rounds_succ]
 go_wp2_with fail
 refine bodyPost_ret (v:=.agg #[.int .u64 p0.size,.int .u64 p1.size,.int .u64 p2.size,.int .u64 p3.size]) (by simp[results,Tryz.results82,go_sem]) rfl ⟨rfl,by go_grown⟩
theorem end15_exact (f l s:Int) (w:World) (hs:IntKind.u64.wrap (f+l)=s):Calls Tryz.prog 101 #[.agg #[.int .u64 f,.int .u64 l]] w fun e w'=>e=.returned (.int .u64 s)∧w'=w.alloc (.cells #[.int .u64 f,.int .u64 l] 91):=by
 subst hs
 go_enter Tryz.func101,Tryz.ntmps101
 go_wp2_with fail
 go_ret
 exact⟨rfl,rfl⟩
set_option maxHeartbeats 4000000 in
theorem sec15_bad0 (a b c d:Int) (w:World)  (hx:1099511627776<127+a) :
  Calls Tryz.prog 81 #[.agg #[.int .u64 a,.int .u64 b,.int .u64 c,.int .u64 d]] w (SecEnd ⟨zeroSc,0,8⟩ w):=by
 unfold SecEnd sArr zeroSc
 have g0:(1099511627649:Int)<a:=by omega
 clear  hx
 have i0:=fun W=>(idx_n (.int .u64 a) (.int .u64 b) (.int .u64 c) (.int .u64 d) W).1
 have i1:=fun W=>(idx_n (.int .u64 a) (.int .u64 b) (.int .u64 c) (.int .u64 d) W).2.1
 have i2:=fun W=>(idx_n (.int .u64 a) (.int .u64 b) (.int .u64 c) (.int .u64 d) W).2.2.1
 have i3:=fun W=>(idx_n (.int .u64 a) (.int .u64 b) (.int .u64 c) (.int .u64 d) W).2.2.2
 go_enter Tryz.func81,Tryz.ntmps81
 go_wp2_with fail
 refine wp_loop_rounds 5 ?_
 rw[rounds_succ]
 go_wp2_with fail
 refine bodyPost_ret (v:=.tuple #[.agg #[.int .u64 0,.int .u64 0,.int .u64 0,.int .u64 0,.int .u64 0,.int .u64 0,.int .u64 0,.int .u64 0],.int .u64 0,.int .i64 8]) (by simp[results,Tryz.results81,go_sem]) rfl ⟨rfl,by go_grown⟩
set_option maxHeartbeats 4000000 in
theorem sec15_bad1 (a b c d:Int) (w:World) (ha:0≤a) (hs:127+a≤1099511627776) (hx:1099511627776<127+a+b) :
  Calls Tryz.prog 81 #[.agg #[.int .u64 a,.int .u64 b,.int .u64 c,.int .u64 d]] w (SecEnd ⟨zeroSc,0,8⟩ w):=by
 unfold SecEnd sArr zeroSc
 have g0:¬ (1099511627649:Int)<a:=by omega
 have v1:IntKind.u64.wrap (1099511627776 - (127+a))=1099511627776 - (127+a):=by rw[IntKind.wrap_u64];omega
 have g1:(1099511627776 - (127+a):Int)<b:=by omega
 have w1:IntKind.u64.wrap (127+a)=127+a:=by rw[IntKind.wrap_u64];omega
 have HE0:=Lib.hid (fun W=>end15_exact (127) a (127+a) W w1)
 clear ha hs hx
 have i0:=fun W=>(idx_n (.int .u64 a) (.int .u64 b) (.int .u64 c) (.int .u64 d) W).1
 have i1:=fun W=>(idx_n (.int .u64 a) (.int .u64 b) (.int .u64 c) (.int .u64 d) W).2.1
 have i2:=fun W=>(idx_n (.int .u64 a) (.int .u64 b) (.int .u64 c) (.int .u64 d) W).2.2.1
 have i3:=fun W=>(idx_n (.int .u64 a) (.int .u64 b) (.int .u64 c) (.int .u64 d) W).2.2.2
 go_enter Tryz.func81,Tryz.ntmps81
 go_wp2_with fail
 refine wp_loop_rounds 5 ?_
 rw[rounds_succ]
 go_wp2_with fail
 refine(HE0.out _).mono ?_
 rintro e w' ⟨rfl,rfl⟩
 go_wp2_with fail
 rw[rounds_succ]
 go_wp2_with fail
 refine bodyPost_ret (v:=.tuple #[.agg #[.int .u64 0,.int .u64 0,.int .u64 0,.int .u64 0,.int .u64 0,.int .u64 0,.int .u64 0,.int .u64 0],.int .u64 0,.int .i64 8]) (by simp[results,Tryz.results81,go_sem]) rfl ⟨rfl,by go_grown⟩
set_option maxHeartbeats 4000000 in
theorem sec15_bad2 (a b c d:Int) (w:World) (ha:0≤a) (hb:0≤b) (hs:127+a+b≤1099511627776) (hx:1099511627776<127+a+b+c) :
  Calls Tryz.prog 81 #[.agg #[.int .u64 a,.int .u64 b,.int .u64 c,.int .u64 d]] w (SecEnd ⟨zeroSc,0,8⟩ w):=by
 unfold SecEnd sArr zeroSc
 have g0:¬ (1099511627649:Int)<a:=by omega
 have v1:IntKind.u64.wrap (1099511627776 - (127+a))=1099511627776 - (127+a):=by rw[IntKind.wrap_u64];omega
 have g1:¬ (1099511627776 - (127+a):Int)<b:=by omega
 have v2:IntKind.u64.wrap (1099511627776 - (127+a+b))=1099511627776 - (127+a+b):=by rw[IntKind.wrap_u64];omega
 have g2:(1099511627776 - (127+a+b):Int)<c:=by omega
 have w1:IntKind.u64.wrap (127+a)=127+a:=by rw[IntKind.wrap_u64];omega
 have w2:IntKind.u64.wrap (127+a+b)=127+a+b:=by rw[IntKind.wrap_u64];omega
 have HE0:=Lib.hid (fun W=>end15_exact (127) a (127+a) W w1)
 have HE1:=Lib.hid (fun W=>end15_exact (127+a) b (127+a+b) W w2)
 clear ha hb hs hx
 have i0:=fun W=>(idx_n (.int .u64 a) (.int .u64 b) (.int .u64 c) (.int .u64 d) W).1
 have i1:=fun W=>(idx_n (.int .u64 a) (.int .u64 b) (.int .u64 c) (.int .u64 d) W).2.1
 have i2:=fun W=>(idx_n (.int .u64 a) (.int .u64 b) (.int .u64 c) (.int .u64 d) W).2.2.1
 have i3:=fun W=>(idx_n (.int .u64 a) (.int .u64 b) (.int .u64 c) (.int .u64 d) W).2.2.2
 go_enter Tryz.func81,Tryz.ntmps81
 go_wp2_with fail
 refine wp_loop_rounds 5 ?_
 rw[rounds_succ]
 go_wp2_with fail
 refine(HE0.out _).mono ?_
 rintro e w' ⟨rfl,rfl⟩
 go_wp2_with fail
 rw[rounds_succ]
 go_wp2_with fail
 refine(HE1.out _).mono ?_
 rintro e w' ⟨rfl,rfl⟩
 go_wp2_with fail
 rw[rounds_succ]
 go_wp2_with fail
 refine bodyPost_ret (v:=.tuple #[.agg #[.int .u64 0,.int .u64 0,.int .u64 0,.int .u64 0,.int .u64 0,.int .u64 0,.int .u64 0,.int .u64 0],.int .u64 0,.int .i64 8]) (by simp[results,Tryz.results81,go_sem]) rfl ⟨rfl,by go_grown⟩
set_option maxHeartbeats 4000000 in
theorem sec15_bad3 (a b c d:Int) (w:World) (ha:0≤a) (hb:0≤b) (hc:0≤c) (hs:127+a+b+c≤1099511627776) (hx:1099511627776<127+a+b+c+d) :
  Calls Tryz.prog 81 #[.agg #[.int .u64 a,.int .u64 b,.int .u64 c,.int .u64 d]] w (SecEnd ⟨zeroSc,0,8⟩ w):=by
 unfold SecEnd sArr zeroSc
 have g0:¬ (1099511627649:Int)<a:=by omega
 have v1:IntKind.u64.wrap (1099511627776 - (127+a))=1099511627776 - (127+a):=by rw[IntKind.wrap_u64];omega
 have g1:¬ (1099511627776 - (127+a):Int)<b:=by omega
 have v2:IntKind.u64.wrap (1099511627776 - (127+a+b))=1099511627776 - (127+a+b):=by rw[IntKind.wrap_u64];omega
 have g2:¬ (1099511627776 - (127+a+b):Int)<c:=by omega
 have v3:IntKind.u64.wrap (1099511627776 - (127+a+b+c))=1099511627776 - (127+a+b+c):=by rw[IntKind.wrap_u64];omega
 have g3:(1099511627776 - (127+a+b+c):Int)<d:=by omega
 have w1:IntKind.u64.wrap (127+a)=127+a:=by rw[IntKind.wrap_u64];omega
 have w2:IntKind.u64.wrap (127+a+b)=127+a+b:=by rw[IntKind.wrap_u64];omega
 have w3:IntKind.u64.wrap (127+a+b+c)=127+a+b+c:=by rw[IntKind.wrap_u64];omega
 have HE0:=Lib.hid (fun W=>end15_exact (127) a (127+a) W w1)
 have HE1:=Lib.hid (fun W=>end15_exact (127+a) b (127+a+b) W w2)
 have HE2:=Lib.hid (fun W=>end15_exact (127+a+b) c (127+a+b+c) W w3)
 clear ha hb hc hs hx
 have i0:=fun W=>(idx_n (.int .u64 a) (.int .u64 b) (.int .u64 c) (.int .u64 d) W).1
 have i1:=fun W=>(idx_n (.int .u64 a) (.int .u64 b) (.int .u64 c) (.int .u64 d) W).2.1
 have i2:=fun W=>(idx_n (.int .u64 a) (.int .u64 b) (.int .u64 c) (.int .u64 d) W).2.2.1
 have i3:=fun W=>(idx_n (.int .u64 a) (.int .u64 b) (.int .u64 c) (.int .u64 d) W).2.2.2
 go_enter Tryz.func81,Tryz.ntmps81
 go_wp2_with fail
 refine wp_loop_rounds 5 ?_
 rw[rounds_succ]
 go_wp2_with fail
 refine(HE0.out _).mono ?_
 rintro e w' ⟨rfl,rfl⟩
 go_wp2_with fail
 rw[rounds_succ]
 go_wp2_with fail
 refine(HE1.out _).mono ?_
 rintro e w' ⟨rfl,rfl⟩
 go_wp2_with fail
 rw[rounds_succ]
 go_wp2_with fail
 refine(HE2.out _).mono ?_
 rintro e w' ⟨rfl,rfl⟩
 go_wp2_with fail
 rw[rounds_succ]
 go_wp2_with fail
 refine bodyPost_ret (v:=.tuple #[.agg #[.int .u64 0,.int .u64 0,.int .u64 0,.int .u64 0,.int .u64 0,.int .u64 0,.int .u64 0,.int .u64 0],.int .u64 0,.int .i64 8]) (by simp[results,Tryz.results81,go_sem]) rfl ⟨rfl,by go_grown⟩
set_option maxHeartbeats 4000000 in
theorem sec15_ok (a b c d:Int) (w:World) (ha:0≤a) (hb:0≤b) (hc:0≤c) (hd:0≤d) (hs:127+a+b+c+d≤1099511627776) :
  Calls Tryz.prog 81 #[.agg #[.int .u64 a,.int .u64 b,.int .u64 c,.int .u64 d]] w (SecEnd ⟨⟨127,a,127+a,b,127+a+b,c,127+a+b+c,d⟩,127+a+b+c+d,0⟩ w):=by
 unfold SecEnd sArr
 have g0:¬ (1099511627649:Int)<a:=by omega
 have v1:IntKind.u64.wrap (1099511627776 - (127+a))=1099511627776 - (127+a):=by rw[IntKind.wrap_u64];omega
 have g1:¬ (1099511627776 - (127+a):Int)<b:=by omega
 have v2:IntKind.u64.wrap (1099511627776 - (127+a+b))=1099511627776 - (127+a+b):=by rw[IntKind.wrap_u64];omega
 have g2:¬ (1099511627776 - (127+a+b):Int)<c:=by omega
 have v3:IntKind.u64.wrap (1099511627776 - (127+a+b+c))=1099511627776 - (127+a+b+c):=by rw[IntKind.wrap_u64];omega
 have g3:¬ (1099511627776 - (127+a+b+c):Int)<d:=by omega
 have w1:IntKind.u64.wrap (127+a)=127+a:=by rw[IntKind.wrap_u64];omega
 have w2:IntKind.u64.wrap (127+a+b)=127+a+b:=by rw[IntKind.wrap_u64];omega
 have w3:IntKind.u64.wrap (127+a+b+c)=127+a+b+c:=by rw[IntKind.wrap_u64];omega
 have w4:IntKind.u64.wrap (127+a+b+c+d)=127+a+b+c+d:=by rw[IntKind.wrap_u64];omega
 have HE0:=Lib.hid (fun W=>end15_exact (127) a (127+a) W w1)
 have HE1:=Lib.hid (fun W=>end15_exact (127+a) b (127+a+b) W w2)
 have HE2:=Lib.hid (fun W=>end15_exact (127+a+b) c (127+a+b+c) W w3)
 have HE3:=Lib.hid (fun W=>end15_exact (127+a+b+c) d (127+a+b+c+d) W w4)
 clear ha hb hc hd hs
 have i0:=fun W=>(idx_n (.int .u64 a) (.int .u64 b) (.int .u64 c) (.int .u64 d) W).1
 have i1:=fun W=>(idx_n (.int .u64 a) (.int .u64 b) (.int .u64 c) (.int .u64 d) W).2.1
 have i2:=fun W=>(idx_n (.int .u64 a) (.int .u64 b) (.int .u64 c) (.int .u64 d) W).2.2.1
 have i3:=fun W=>(idx_n (.int .u64 a) (.int .u64 b) (.int .u64 c) (.int .u64 d) W).2.2.2
 go_enter Tryz.func81,Tryz.ntmps81
 go_wp2_with fail
 refine wp_loop_rounds 5 ?_
 rw[rounds_succ]
 go_wp2_with fail
 refine(HE0.out _).mono ?_
 rintro e w' ⟨rfl,rfl⟩
 go_wp2_with fail
 rw[rounds_succ]
 go_wp2_with fail
 refine(HE1.out _).mono ?_
 rintro e w' ⟨rfl,rfl⟩
 go_wp2_with fail
 rw[rounds_succ]
 go_wp2_with fail
 refine(HE2.out _).mono ?_
 rintro e w' ⟨rfl,rfl⟩
 go_wp2_with fail
 rw[rounds_succ]
 go_wp2_with fail
 refine(HE3.out _).mono ?_
 rintro e w' ⟨rfl,rfl⟩
 go_wp2_with fail
 rw[rounds_succ]
 go_wp2_with fail
 refine bodyPost_ret (v:=.tuple #[.agg #[.int .u64 127,.int .u64 a,.int .u64 (127+a),.int .u64 b,.int .u64 (127+a+b),.int .u64 c,.int .u64 (127+a+b+c),.int .u64 d],.int .u64 (127+a+b+c+d),.int .i64 0]) (by simp[results,Tryz.results81,go_sem]) rfl ⟨rfl,by go_grown⟩
theorem sections15_any (a b c d:Int) (w:World) (ha:U64 a) (hb:U64 b) (hc:U64 c) (hd:U64 d):Calls Tryz.prog 81 #[.agg #[.int .u64 a,.int .u64 b,.int .u64 c,.int .u64 d]] w (SecEnd (secsN a b c d) w):=by
 unfold U64 at ha hb hc hd
 unfold secsN
 by_cases h:tooBig a b c d
 ·rw[if_pos h]
  unfold tooBig at h
  by_cases h1:1099511627776<127+a
  ·exact sec15_bad0 a b c d w h1
  by_cases h2:1099511627776<127+a+b
  ·exact sec15_bad1 a b c d w (by omega) (by omega) h2
  by_cases h3:1099511627776<127+a+b+c
  ·exact sec15_bad2 a b c d w (by omega) (by omega) (by omega) h3
  exact sec15_bad3 a b c d w (by omega) (by omega) (by omega) (by omega) (by omega)
 ·rw[if_neg h]
  unfold tooBig at h
  exact sec15_ok a b c d w (by omega) (by omega) (by omega) (by omega) (by omega)
theorem HAt.secs {w:World} {b:Nat} {T:TypeId} {h:Hd} (H:HAt w b T h) (s:Sc):HAt ((((((((w.setCell ⟨b,0,none⟩ (.int .u64 s.rf)).setCell ⟨b,1,none⟩ (.int .u64 s.rl)).setCell ⟨b,2,none⟩ (.int .u64 s.mf)).setCell ⟨b,3,none⟩ (.int .u64 s.ml)).setCell ⟨b,4,none⟩ (.int .u64 s.lf)).setCell ⟨b,5,none⟩ (.int .u64 s.ll)).setCell ⟨b,6,none⟩ (.int .u64 s.df)).setCell ⟨b,7,none⟩ (.int .u64 s.dl)) b T (withN h s):=by
 unfold HAt at H ⊢
 have:=hset (hset (hset (hset (hset (hset (hset (hset H 0 (.int .u64 s.rf)) 1 (.int .u64 s.rl)) 2 (.int .u64 s.mf)) 3 (.int .u64 s.ml)) 4 (.int .u64 s.lf)) 5 (.int .u64 s.ll)) 6 (.int .u64 s.df)) 7 (.int .u64 s.dl)
 simp only[cH,List.setIfInBounds_toArray,List.set_cons_zero,List.set_cons_succ] at this
 exact this
theorem HAt.secs_far {w:World} {b b':Nat} {T:TypeId} {h:Hd} (H:HAt w b T h) (hn:b≠b') (s:Sc):HAt ((((((((w.setCell ⟨b',0,none⟩ (.int .u64 s.rf)).setCell ⟨b',1,none⟩ (.int .u64 s.rl)).setCell ⟨b',2,none⟩ (.int .u64 s.mf)).setCell ⟨b',3,none⟩ (.int .u64 s.ml)).setCell ⟨b',4,none⟩ (.int .u64 s.lf)).setCell ⟨b',5,none⟩ (.int .u64 s.ll)).setCell ⟨b',6,none⟩ (.int .u64 s.df)).setCell ⟨b',7,none⟩ (.int .u64 s.dl)) b T h:=by
 unfold HAt at H ⊢
 exact hother (hother (hother (hother (hother (hother (hother (hother H hn _ _) hn _ _) hn _ _) hn _ _) hn _ _) hn _ _) hn _ _) hn _ _
theorem below_secs {w0 w:World} {B b':Nat} (H:Below B w0 w) (hn:B≤b') (s:Sc):Below B w0 ((((((((w.setCell ⟨b',0,none⟩ (.int .u64 s.rf)).setCell ⟨b',1,none⟩ (.int .u64 s.rl)).setCell ⟨b',2,none⟩ (.int .u64 s.mf)).setCell ⟨b',3,none⟩ (.int .u64 s.ml)).setCell ⟨b',4,none⟩ (.int .u64 s.lf)).setCell ⟨b',5,none⟩ (.int .u64 s.ll)).setCell ⟨b',6,none⟩ (.int .u64 s.df)).setCell ⟨b',7,none⟩ (.int .u64 s.dl)) :=
 (((((((H.setCell (p:=⟨b',0,none⟩) hn _).setCell (p:=⟨b',1,none⟩) hn _).setCell (p:=⟨b',2,none⟩) hn _).setCell (p:=⟨b',3,none⟩) hn _).setCell (p:=⟨b',4,none⟩) hn _).setCell (p:=⟨b',5,none⟩) hn _).setCell (p:=⟨b',6,none⟩) hn _).setCell (p:=⟨b',7,none⟩) hn _
set_option maxHeartbeats 4000000 in
theorem with15_any (h:Hd) (s:Sc) (w:World):Calls Tryz.prog 84 #[.agg (cH h),.agg (sArr s)] w fun e w'=>e=.returned (.agg (cH (withN h s)))∧Below w.heap.size w w':=by
 obtain⟨W,hW⟩:∃ W,((w.alloc (.cells (cH h) 93)).alloc (.cells (sArr s) 165)).alloc (.cells (cH zeroH) 93)=W:=⟨_,rfl⟩
 have h0:HAt W w.heap.size 93 h:=by
  rw[← hW]
  exact(heap_alloc_old (by simp;omega)).trans ((heap_alloc_old (by simp)).trans (HAt.made w h _))
 have h1:Box W (w.heap.size+1) (sArr s):=by
  have:=box_new (w.alloc (.cells (cH h) 93)) (sArr s) 165
  rw[World.size_alloc] at this
  rw[← hW]
  exact this.below ((Below.refl _ _).alloc (Nat.le_refl _) _)
 have h2:HAt W (w.heap.size+1+1) 93 zeroH:=by
  have:=HAt.made ((w.alloc (.cells (cH h) 93)).alloc (.cells (sArr s) 165)) zeroH 93
  simp only[World.size_alloc] at this
  rw[← hW]
  exact this
 have hbw:Below w.heap.size w W:=by rw[← hW];exact(((Below.refl _ w).alloc (Nat.le_refl _) _).alloc (by simp) _).alloc (by simp;omega) _
 have s0:=h1.cell 0
 have s1:=h1.cell 1
 have s2:=h1.cell 2
 have s3:=h1.cell 3
 have s4:=h1.cell 4
 have s5:=h1.cell 5
 have s6:=h1.cell 6
 have s7:=h1.cell 7
 simp[sArr] at s0 s1 s2 s3 s4 s5 s6 s7
 have c0:=cell_blk h0 0
 have c1:=cell_blk h0 1
 have c2:=cell_blk h0 2
 have c3:=cell_blk h0 3
 have c4:=cell_blk h0 4
 have c5:=cell_blk h0 5
 have c6:=cell_blk h0 6
 have c7:=cell_blk h0 7
 simp[cH] at c0 c1 c2 c3 c4 c5 c6 c7
 have f0:∀ j,W.frozen? ⟨w.heap.size,j,none⟩=false:=fun j=>by unfold HAt at h0;simp[World.frozen?,h0]
 have H0:=Lib.hid h0
 have H2:=Lib.hid h2
 have HBW:=Lib.hid hbw
 clear h0 h1 h2 hbw
 have hz:cH zeroH=#[.int .u64 0,.int .u64 0,.int .u64 0,.int .u64 0,.int .u64 0,.int .u64 0,.int .u64 0,.int .u64 0,.int .u64 0,.int .u64 0,.int .u64 0,.bool false,.int .u8 0,.int .u8 0,.int .u8 0,.int .i64 0,.int .i64 0,.int .i64 0,.int .i64 0,.int .i64 0,.int .i64 0,.int .i64 0,.int .i64 0,.int .i64 0]:=rfl
 rw[hz] at hW
 clear hz
 generalize hc:cH (withN h s)=R
 have HR:=Lib.hid hc
 clear hc
 generalize hk:cH h=Hc at *
 have HK:=Lib.hid hk
 clear hk
 unfold sArr at hW ⊢
 go_enter Tryz.func84,Tryz.ntmps84
 go_upto_region 1 with fail
 try rw[hW]
 clear hW
 go_cut [] (fun wx=>HAt wx w.heap.size 93 (withN h s)∧HAt wx (w.heap.size+1+1) 93 zeroH∧Below w.heap.size w wx)
 case first =>
  go_region
  all_goals
   go_wp2_with fail
   go_meet
   case rel=>exact⟨HAt.later (HAt.secs H0.out s) (Below.drew (Below.refl _ _)),HAt.later (HAt.secs_far H2.out (by omega) s) (Below.drew (Below.refl _ _)),Below.drew (below_secs HBW.out (Nat.le_refl _) s)⟩
 case rest =>
  obtain⟨hA,hZ,hB⟩:=hcut
  generalize wc=W2 at *
  have HA:=Lib.hid hA
  have HZ:=Lib.hid hZ
  have HB:=Lib.hid hB
  clear hA hZ hB s0 s1 s2 s3 s4 s5 s6 s7 c0 c1 c2 c3 c4 c5 c6 c7 f0 H0 H2 HBW
  generalize hx:withN h s=X at *
  go_wp2_with (first|(refine wpList_load_row rfl 93 _ rfl w.heap.size rfl 93 (cH X) (0,0) _ HA.out Tryz.underlying93 rfl head_size ?_)|(refine wpList_store_row rfl 93 _ _ rfl (w.heap.size+1+1) (cH X) rfl rfl 93 (cH zeroH) HZ.out head_size rfl (cH_one X) ?_)|fail)
  have hp:=put24 W2 (w.heap.size+1+1) _ zeroH X HZ.out
  refine bodyPost_ret (results_cell_row rfl _ _ (w.heap.size+1+1) 93 (cH X) (0,0) _ rfl hp.1 Tryz.underlying93 rfl head_size) rfl ⟨by rw[HR.out],hp.2.2.1 _ _ (by omega) HB.out⟩
end Go.Proofs.YtjkgkmmkehnggaaGreatDoor
