/- cMR cMV cYc cPc cPd cMS cYf cYh cYg. -/
import Derived.Test.YtdnmgpcfgcidbaaGreatDoorWc3
import Derived.Test.YtdnmgpcfgcidbaaGreatDoorWs
namespace Go.Proofs.YtdnmgpcfgcidbaaGreatDoor
set_option linter.unusedVariables false
set_option linter.unusedSimpArgs false
open Go.RowKit
set_option maxRecDepth 20000
theorem row1 (g a:Nat):∀ i,i<1→(#[.pointer (some ⟨g,a,none⟩)]:Array Value)[i]?=some (.pointer (some ⟨g,a+i,none⟩)):=by
 intro i hi
 obtain rfl:i=0:=by omega
 rfl
theorem row2 (g a:Nat):∀ i,i<2→(#[.pointer (some ⟨g,a,none⟩),.pointer (some ⟨g,a+1,none⟩)]:Array Value)[i]?=some (.pointer (some ⟨g,a+i,none⟩)):=by
 intro i hi
 obtain rfl|rfl:i=0∨i=1:=by omega
 all_goals rfl
theorem row3 (g a:Nat):∀ i,i<3→(#[.pointer (some ⟨g,a,none⟩),.pointer (some ⟨g,a+1,none⟩),.pointer (some ⟨g,a+2,none⟩)]:Array Value)[i]?=some (.pointer (some ⟨g,a+i,none⟩)):=by
 intro i hi
 obtain rfl|rfl|rfl:i=0∨i=1∨i=2:=by omega
 all_goals rfl
theorem row4 (g a:Nat):∀ i,i<4→(#[.pointer (some ⟨g,a,none⟩),.pointer (some ⟨g,a+1,none⟩),.pointer (some ⟨g,a+2,none⟩),.pointer (some ⟨g,a+3,none⟩)]:Array Value)[i]?=some (.pointer (some ⟨g,a+i,none⟩)):=by
 intro i hi
 obtain rfl|rfl|rfl|rfl:i=0∨i=1∨i=2∨i=3:=by omega
 all_goals rfl
theorem cell_eq {w w':World} {b o:Nat} (h:w'.heap[b]?=w.heap[b]?):w'.cell? ⟨b,o,none⟩=w.cell? ⟨b,o,none⟩:=by simp [World.cell?,h]
theorem FAt.cl {w wx:World} {t:ByteArray} {q c:Int} {T:Hd} {b:Bool} (h:FAt w wx t q (fF T) c) (hb:b=T.cl):FAt w (wx.setCell ⟨w.heap.size+2,11,none⟩ (.bool b)) t q T c:=by
 subst hb
 refine ⟨(heap_other (by omega)).trans h.1,(heap_other (by omega)).trans h.2.1,?_,(heap_other (by omega)).trans h.2.2.2.1,h.2.2.2.2.setCell (by show w.heap.size≤w.heap.size+2;omega) _⟩
 unfold HAt
 rw [← fG_set T]
 exact setCell_blk h.2.2.1 _
theorem FAt.drew {w wx:World} {t:ByteArray} {q c:Int} {a:Hd} (h:FAt w wx t q a c):FAt w wx.drew t q a c:=⟨h.1,h.2.1,h.2.2.1,h.2.2.2.1,h.2.2.2.2.drew⟩
set_option maxRecDepth 20000 in
set_option maxHeartbeats 4000000 in
theorem fields_any (t:ByteArray) (w:World) (hm:t.size≤maxLen) (h:127≤t.size):Calls Tryz.prog 110 #[.agg #[.string t,.int .i64 8,.int .i64 0]] w fun e w'=>e=.returned (.tuple #[.agg (cH (telB t)),.int .u8 (nmB t 96 1)])∧Below w.heap.size w w':=by
 have HL:=Lib.hid h;clear h
 have HM:=Lib.hid hm;clear hm
 have H0:=Lib.hid (start_f w t)
 go_enter Tryz.func110,Tryz.ntmps110
 go_wp2_with fail
 go_loopw [14] (fun i wr=>∃ k:Nat,k≤4∧i=.int .i64 k∧FAt w wr t ((8+16*k:Nat):Int) (uK (telB t) k) 0∧(∀ j,j<4→wr.cell? ⟨w.heap.size+4,j,none⟩=some (.pointer (some ⟨w.heap.size+2,2*j,none⟩)))) (fun i _=>4-(intOf i).toNat)
 case atStart =>
  obtain ⟨hf,hr⟩:=H0.out (.cells #[.pointer (some ⟨w.heap.size+2,0,none⟩),.pointer (some ⟨w.heap.size+2,2,none⟩),.pointer (some ⟨w.heap.size+2,4,none⟩),.pointer (some ⟨w.heap.size+2,6,none⟩)] 281)
  refine ⟨0,by omega,rfl,hf,fun j hj=>(cell_blk (hr.trans (heap_alloc_new w _)) j).trans ?_⟩
  obtain rfl|rfl|rfl|rfl:j=0∨j=1∨j=2∨j=3:=by omega
  all_goals rfl
 case round =>
  obtain ⟨k,hk,rfl,hF,hP⟩:=hrel
  by_cases hlt:k<4
  ·have hp:=hP k hlt
   obtain ⟨s0,s1,s2,sf⟩:=hF.scan
   have hbig:w.heap.size<wr.heap.size:=by have:=hF.big;omega
   have HFd:=Lib.hid hF.drew
   have HP:=Lib.hid hP
   have hk1:((8+16*(k+1):Nat):Int)=((8+16*k+8*2:Nat):Int):=by omega
   have K6:=Lib.hid (fun (wx:World) (T:TypeId) (hh:FAt w wx t ((8+16*k:Nat):Int) (uK (telB t) k) 0)=>takeW_f (2*k) 2 #[.pointer (some ⟨w.heap.size+2,2*k,none⟩),.pointer (some ⟨w.heap.size+2,2*k+1,none⟩)] T hh HM.out (by omega) (by omega) (by have:=HL.out;omega) (row2 _ _) (uK_set t k hlt))
   rw [← hk1] at K6
   clear hF hP hk1
   obtain ⟨q,hq⟩:∃ q,8+16*k=q:=⟨_,rfl⟩
   obtain ⟨r,hr⟩:∃ r,8+16*(k+1)=r:=⟨_,rfl⟩
   rw [hq,hr] at K6
   rw [hq] at HFd s1
   have HR:=Lib.hid hr
   clear hq hr
   go_upto_region 6 with fail
   go_region_with (first|(go_at_call 182;refine (K6.out _ _ HFd.out).mono ?_;rintro e w' ⟨rfl,hF2,hO2⟩;obtain ⟨r0,r1,r2,rf⟩:=hF2.scan))
   all_goals
    go_wp2_with fail
    go_roundw
    case rel =>
     have h4:w.heap.size+4<wr.heap.size:=cellb_lt hp
     refine ⟨k+1,by omega,by go_num,by rw [HR.out];exact hF2.on,fun j hj=>?_⟩
     rw [cell_setother _ (by simp),cell_setother _ (by simp),cell_setother _ (by simp)]
     exact (cell_eq (hO2 _ h4 (by omega))).trans (HP.out j hj)
    case measure=>simp [intOf];omega
  ·obtain rfl:k=4:=by omega
   have hF:FAt w wr t 72 (uK (telB t) 4) 0:=hF
   clear hP hlt hk H0
   have HCl:=Lib.hid (telB_cl t)
   have HFG:=Lib.hid (fun (wx:World) (q c:Int) (h:FAt w wx t q (fF (telB t)) c) (b:Bool) (hb:b=(telB t).cl)=>h.cl hb)
   have K8:Hid (∀ (wx:World) (T:TypeId),FAt w wx t 72 (uK (telB t) 4) 0→Calls Tryz.prog 182 #[.agg #[.string t,.int .i64 72,.int .i64 0],.int .i64 8,.slice (some ⟨wx.heap.size,0,none⟩) 3 3] (wx.alloc (.cells #[.pointer (some ⟨w.heap.size+2,8,none⟩),.pointer (some ⟨w.heap.size+2,9,none⟩),.pointer (some ⟨w.heap.size+2,10,none⟩)] T)) fun e w'=>e=.returned (.agg #[.string t,.int .i64 96,.int .i64 0])∧FAt w w' t 72 (fA (telB t)) 0):=Lib.hid (fun wx T hh=>(takeW_f (q:=72) 8 3 _ T hh HM.out (by omega) (by omega) (by have:=HL.out;omega) (row3 _ 8) (fA_set t)).mono fun e w' h=>⟨h.1,h.2.1⟩)
   obtain ⟨s0,s1,s2,sf⟩:=hF.scan
   have HF:=Lib.hid hF
   clear hF
   go_upto_region 8 with fail
   go_cut [] (fun wx=>FAt w wx t 96 (fA (telB t)) 0)
   case first =>
    go_wp2_with fail
    refine (K8.out _ _ HF.out).mono ?_
    rintro e w' ⟨rfl,hF2⟩
    obtain ⟨r0,r1,r2,rf⟩:=hF2.scan
    have HF2:=Lib.hid hF2
    clear hF2
    go_wp2_with fail
    go_meet
    case rel=>exact HF2.out.on
   case rest =>
   have hF:=hcut
   clear hcut HF K8 s0 s1 s2 sf
   generalize wc=w8 at *
   have K9:Hid (∀ (wx:World) (T:TypeId),FAt w wx t 96 (fA (telB t)) 0→Calls Tryz.prog 183 #[.agg #[.string t,.int .i64 96,.int .i64 0],.int .i64 1,.slice (some ⟨wx.heap.size,0,none⟩) 4 4] (wx.alloc (.cells #[.pointer (some ⟨w.heap.size+3,0,none⟩),.pointer (some ⟨w.heap.size+2,12,none⟩),.pointer (some ⟨w.heap.size+2,13,none⟩),.pointer (some ⟨w.heap.size+2,14,none⟩)] T)) fun e w'=>e=.returned (.agg #[.string t,.int .i64 100,.int .i64 0])∧FAt w w' t 96 (fB (telB t)) (nmB t 96 1)):=Lib.hid (fun wx T hh=>takeB_f T hh HM.out (by have:=HL.out;omega) (fB_set t))
   obtain ⟨s0,s1,s2,sf⟩:=hF.scan
   have HF:=Lib.hid hF
   clear hF
   go_upto_region 9 with fail
   go_cut [] (fun wx=>FAt w wx t 100 (fB (telB t)) (nmB t 96 1))
   case first =>
    go_wp2_with fail
    refine (K9.out _ _ HF.out).mono ?_
    rintro e w' ⟨rfl,hF2⟩
    obtain ⟨r0,r1,r2,rf⟩:=hF2.scan
    have HF2:=Lib.hid hF2
    clear hF2
    go_wp2_with fail
    go_meet
    case rel=>exact HF2.out.on
   case rest =>
   have hF:=hcut
   clear hcut HF K9 s0 s1 s2 sf
   generalize wc=w9 at *
   have K10:Hid (∀ (wx:World) (T:TypeId),FAt w wx t 100 (fB (telB t)) (nmB t 96 1)→Calls Tryz.prog 184 #[.agg #[.string t,.int .i64 100,.int .i64 0],.int .i64 1,.slice (some ⟨wx.heap.size,0,none⟩) 2 2] (wx.alloc (.cells #[.pointer (some ⟨w.heap.size+2,15,none⟩),.pointer (some ⟨w.heap.size+2,16,none⟩)] T)) fun e w'=>e=.returned (.agg #[.string t,.int .i64 102,.int .i64 0])∧FAt w w' t 100 (fC (telB t)) (nmB t 96 1)):=Lib.hid (fun wx T hh=>(takeI_f (q:=100) 15 2 _ T hh HM.out (by omega) (by omega) (by have:=HL.out;omega) (row2 _ 15) (fC_set t)))
   obtain ⟨s0,s1,s2,sf⟩:=hF.scan
   have HF:=Lib.hid hF
   clear hF
   go_upto_region 10 with fail
   go_cut [] (fun wx=>FAt w wx t 102 (fC (telB t)) (nmB t 96 1))
   case first =>
    go_wp2_with fail
    refine (K10.out _ _ HF.out).mono ?_
    rintro e w' ⟨rfl,hF2⟩
    obtain ⟨r0,r1,r2,rf⟩:=hF2.scan
    have HF2:=Lib.hid hF2
    clear hF2
    go_wp2_with fail
    go_meet
    case rel=>exact HF2.out.on
   case rest =>
   have hF:=hcut
   clear hcut HF K10 s0 s1 s2 sf
   generalize wc=w10 at *
   have K11:Hid (∀ (wx:World) (T:TypeId),FAt w wx t 102 (fC (telB t)) (nmB t 96 1)→Calls Tryz.prog 185 #[.agg #[.string t,.int .i64 102,.int .i64 0],.slice (some ⟨wx.heap.size,0,none⟩) 4 4] (wx.alloc (.cells #[.pointer (some ⟨w.heap.size+2,17,none⟩),.pointer (some ⟨w.heap.size+2,18,none⟩),.pointer (some ⟨w.heap.size+2,19,none⟩),.pointer (some ⟨w.heap.size+2,20,none⟩)] T)) fun e w'=>e=.returned (.agg #[.string t,.int .i64 118,.int .i64 0])∧FAt w w' t 102 (fD (telB t)) (nmB t 96 1)):=Lib.hid (fun wx T hh=>(takeDeg_f (q:=102) 17 4 _ T hh HM.out (by omega) (by omega) (by have:=HL.out;omega) (row4 _ 17) (fD_set t)))
   obtain ⟨s0,s1,s2,sf⟩:=hF.scan
   have HF:=Lib.hid hF
   clear hF
   go_upto_region 11 with fail
   go_cut [] (fun wx=>FAt w wx t 118 (fD (telB t)) (nmB t 96 1))
   case first =>
    go_wp2_with fail
    refine (K11.out _ _ HF.out).mono ?_
    rintro e w' ⟨rfl,hF2⟩
    obtain ⟨r0,r1,r2,rf⟩:=hF2.scan
    have HF2:=Lib.hid hF2
    clear hF2
    go_wp2_with fail
    go_meet
    case rel=>exact HF2.out.on
   case rest =>
   have hF:=hcut
   clear hcut HF K11 s0 s1 s2 sf
   generalize wc=w11 at *
   have K12:Hid (∀ (wx:World) (T:TypeId),FAt w wx t 118 (fD (telB t)) (nmB t 96 1)→Calls Tryz.prog 184 #[.agg #[.string t,.int .i64 118,.int .i64 0],.int .i64 1,.slice (some ⟨wx.heap.size,0,none⟩) 1 1] (wx.alloc (.cells #[.pointer (some ⟨w.heap.size+2,21,none⟩)] T)) fun e w'=>e=.returned (.agg #[.string t,.int .i64 119,.int .i64 0])∧FAt w w' t 118 (fE (telB t)) (nmB t 96 1)):=Lib.hid (fun wx T hh=>(takeI_f (q:=118) 21 1 _ T hh HM.out (by omega) (by omega) (by have:=HL.out;omega) (row1 _ 21) (fE_set t)))
   obtain ⟨s0,s1,s2,sf⟩:=hF.scan
   have HF:=Lib.hid hF
   clear hF
   go_upto_region 12 with fail
   go_cut [] (fun wx=>FAt w wx t 119 (fE (telB t)) (nmB t 96 1))
   case first =>
    go_wp2_with fail
    refine (K12.out _ _ HF.out).mono ?_
    rintro e w' ⟨rfl,hF2⟩
    obtain ⟨r0,r1,r2,rf⟩:=hF2.scan
    have HF2:=Lib.hid hF2
    clear hF2
    go_wp2_with fail
    go_meet
    case rel=>exact HF2.out.on
   case rest =>
   have hF:=hcut
   clear hcut HF K12 s0 s1 s2 sf
   generalize wc=w12 at *
   have K13:Hid (∀ (wx:World) (T:TypeId),FAt w wx t 119 (fE (telB t)) (nmB t 96 1)→Calls Tryz.prog 185 #[.agg #[.string t,.int .i64 119,.int .i64 0],.slice (some ⟨wx.heap.size,0,none⟩) 2 2] (wx.alloc (.cells #[.pointer (some ⟨w.heap.size+2,22,none⟩),.pointer (some ⟨w.heap.size+2,23,none⟩)] T)) fun e w'=>e=.returned (.agg #[.string t,.int .i64 127,.int .i64 0])∧FAt w w' t 119 (fF (telB t)) (nmB t 96 1)):=Lib.hid (fun wx T hh=>(takeDeg_f (q:=119) 22 2 _ T hh HM.out (by omega) (by omega) (by have:=HL.out;omega) (row2 _ 22) (fF_set t)))
   obtain ⟨s0,s1,s2,sf⟩:=hF.scan
   have HF:=Lib.hid hF
   clear hF
   go_upto_region 13 with fail
   go_cut [] (fun wx=>FAt w wx t 119 (fF (telB t)) (nmB t 96 1))
   case first =>
    go_wp2_with fail
    refine (K13.out _ _ HF.out).mono ?_
    rintro e w' ⟨rfl,hF2⟩
    obtain ⟨r0,r1,r2,rf⟩:=hF2.scan
    have HF2:=Lib.hid hF2
    clear hF2
    go_wp2_with fail
    go_meet
    case rel=>exact HF2.out
   case rest =>
   have hF:=hcut
   clear hcut HF K13 s0 s1 s2 sf
   generalize wc=w13 at *
   obtain ⟨x,hx⟩:∃ x,nmB t 96 1=x:=⟨_,rfl⟩
   rw [hx] at hF HCl
   have HX:=Lib.hid hx
   clear hx
   have e11:=at11 hF.2.2.1
   have c0:w13.cell? ⟨w.heap.size+3,0,none⟩=some (.int .u8 x):=cell_blk hF.2.2.2.1 0
   have gf:∀ o,w13.frozen? ⟨w.heap.size+2,o,none⟩=false:=fun o=>by have:=hF.2.2.1;unfold HAt at this;simp [World.frozen?,this]
   have HF:=Lib.hid hF
   clear hF
   go_upto_region 14 with fail
   go_cut [] (fun wx=>FAt w wx t 119 (telB t) x)
   case first =>
    go_wp2_with fail
    go_meet
    case rel=>exact HFG.out _ _ _ HF.out _ HCl.out.symm
   case rest =>
   have hF:=hcut
   clear hcut HF HFG HCl e11 c0 gf
   generalize wc=w14 at *
   obtain ⟨T,hT⟩:∃ T,telB t=T:=⟨_,rfl⟩
   rw [hT] at hF
   have HT:=Lib.hid hT
   clear hT
   have c0:w14.cell? ⟨w.heap.size+3,0,none⟩=some (.int .u8 x):=cell_blk hF.2.2.2.1 0
   have HF:=Lib.hid hF
   clear hF
   go_upto_region 15 with fail
   go_cut [3] (fun y wx=>y=.int .u8 x∧HAt wx (w.heap.size+1) 44 T∧Below w.heap.size w wx)
   case first =>
    refine wp_region_any (by kernel_rfl) ?_
    change wpAny _ _ _ _ _ _ _ (World.drew _)
    have hR:HAt w14.drew (w.heap.size+1) 44 zeroH:=HF.out.2.1
    have hA:HAt w14.drew (w.heap.size+2) 44 T:=HF.out.2.2.1
    have hU:Below w.heap.size w w14.drew:=HF.out.2.2.2.2.drew
    have HP:=put24 w14.drew (w.heap.size+1) 44 zeroH T hR
    refine wpAny_ready (rs:=[0,1]) (by kernel_rfl) (by simp) ?_
    refine AllReady.cons rfl (fun K hK=>?_) (AllReady.cons rfl (fun K hK=>?_) AllReady.nil)
    ·rw [if_pos (by rfl)]
     refine wp_load_row 44 _ rfl (w.heap.size+2) rfl 44 (cH T) (0,0) _ hA Tryz.underlying44 rfl head_size (hK _ _ ?_)
     clear hK K
     try simp only [Act.put,zsA,zsB,zsC]
     refine wpAny_ready (rs:=[1,2]) (by kernel_rfl) (by simp) ?_
     refine AllReady.cons rfl (fun K hK=>?_) (AllReady.cons rfl (fun K hK=>?_) AllReady.nil)
     ·go_simp
      refine hK _ _ ?_
      clear hK K
      try simp only [Act.put,zsA,zsB,zsC]
      refine wpAny_ready (rs:=[2]) (by kernel_rfl) (by simp) ?_
      refine AllReady.cons rfl (fun K hK=>?_) AllReady.nil
      rw [if_pos (by rfl)]
      refine wp_store_row 44 _ _ rfl (w.heap.size+1) (cH T) rfl rfl 44 (cH zeroH) hR head_size rfl (cH_one T) (hK _ _ ?_)
      clear hK K
      generalize w14.drew.setRow (w.heap.size+1) (cH T)=w15 at HP ⊢
      have c0:w15.cell? ⟨w.heap.size+3,0,none⟩=some (.int .u8 x):=(cell_eq (HP.2.2.2 _ (by omega))).trans c0
      try simp only [Act.put,zsA,zsB,zsC]
      refine wpAny_ready (rs:=[3]) (by kernel_rfl) (by simp) ?_
      refine AllReady.cons rfl (fun K hK=>?_) AllReady.nil
      go_simp
      refine hK _ _ ?_
      clear hK K
      try simp only [Act.put,zsA,zsB,zsC]
      refine wpAny_done (by kernel_rfl) ?_ _
      go_wp2_with fail
      go_meet
      case rel=>exact ⟨rfl,HP.1,HP.2.2.1 _ _ (by omega) hU⟩
     ·rw [if_pos (by rfl)]
      refine wp_store_row 44 _ _ rfl (w.heap.size+1) (cH T) rfl rfl 44 (cH zeroH) hR head_size rfl (cH_one T) (hK _ _ ?_)
      clear hK K
      generalize w14.drew.setRow (w.heap.size+1) (cH T)=w15 at HP ⊢
      have c0:w15.cell? ⟨w.heap.size+3,0,none⟩=some (.int .u8 x):=(cell_eq (HP.2.2.2 _ (by omega))).trans c0
      try simp only [Act.put,zsA,zsB,zsC]
      refine wpAny_ready (rs:=[1]) (by kernel_rfl) (by simp) ?_
      refine AllReady.cons rfl (fun K hK=>?_) AllReady.nil
      go_simp
      refine hK _ _ ?_
      clear hK K
      try simp only [Act.put,zsA,zsB,zsC]
      refine wpAny_ready (rs:=[3]) (by kernel_rfl) (by simp) ?_
      refine AllReady.cons rfl (fun K hK=>?_) AllReady.nil
      go_simp
      refine hK _ _ ?_
      clear hK K
      try simp only [Act.put,zsA,zsB,zsC]
      refine wpAny_done (by kernel_rfl) ?_ _
      go_wp2_with fail
      go_meet
      case rel=>exact ⟨rfl,HP.1,HP.2.2.1 _ _ (by omega) hU⟩
    ·go_simp
     refine hK _ _ ?_
     clear hK K
     try simp only [Act.put,zsA,zsB,zsC]
     refine wpAny_ready (rs:=[0]) (by kernel_rfl) (by simp) ?_
     refine AllReady.cons rfl (fun K hK=>?_) AllReady.nil
     rw [if_pos (by rfl)]
     refine wp_load_row 44 _ rfl (w.heap.size+2) rfl 44 (cH T) (0,0) _ hA Tryz.underlying44 rfl head_size (hK _ _ ?_)
     clear hK K
     try simp only [Act.put,zsA,zsB,zsC]
     refine wpAny_ready (rs:=[2]) (by kernel_rfl) (by simp) ?_
     refine AllReady.cons rfl (fun K hK=>?_) AllReady.nil
     rw [if_pos (by rfl)]
     refine wp_store_row 44 _ _ rfl (w.heap.size+1) (cH T) rfl rfl 44 (cH zeroH) hR head_size rfl (cH_one T) (hK _ _ ?_)
     clear hK K
     generalize w14.drew.setRow (w.heap.size+1) (cH T)=w15 at HP ⊢
     have c0:w15.cell? ⟨w.heap.size+3,0,none⟩=some (.int .u8 x):=(cell_eq (HP.2.2.2 _ (by omega))).trans c0
     try simp only [Act.put,zsA,zsB,zsC]
     refine wpAny_ready (rs:=[3]) (by kernel_rfl) (by simp) ?_
     refine AllReady.cons rfl (fun K hK=>?_) AllReady.nil
     go_simp
     refine hK _ _ ?_
     clear hK K
     try simp only [Act.put,zsA,zsB,zsC]
     refine wpAny_done (by kernel_rfl) ?_ _
     go_wp2_with fail
     go_meet
     case rel=>exact ⟨rfl,HP.1,HP.2.2.1 _ _ (by omega) hU⟩
   case rest =>
    obtain ⟨rfl,hA,hU⟩:=hcut
    have HH:=Lib.hid (And.intro hA hU)
    clear hA hU
    go_wp2_with fail
    refine bodyPost_ret (v:=.tuple #[.agg (cH T),.int .u8 x]) (results_head Tryz.results110 _ _ _ _ _ _ rfl rfl HH.out.1) rfl ⟨by rw [HT.out,HX.out],HH.out.2⟩
instance:DecidableEq Hd:=fun a b=>decidable_of_iff _ (Hd.eq_iff a b).symm
def hA:Hd:={ zeroH with knd:=2,z1:=3,lo0:=-1 }
theorem bl_str (l:List Int) (h:Byts l):blCc (str l)=l:=by
 unfold blCc
 rw [str_list,List.map_map]
 conv=>rhs;rw [← List.map_id l]
 apply List.map_congr_left
 intro c hc
 have:=h c hc
 simp only [Function.comp,id]
 rw [UInt8.toNat_ofNat',Nat.mod_eq_of_lt (by omega)]
 omega
theorem bl_append (s t:ByteArray):blCc (s++t)=blCc s++blCc t:=by
 unfold blCc
 rw [ByteArray.data_append,Array.toList_append,List.map_append]
end Go.Proofs.YtdnmgpcfgcidbaaGreatDoor
namespace Go.Proofs.YtdnmgpcfgcidbaaGreatDoor
set_option linter.unusedVariables false
set_option linter.unusedSimpArgs false
open Go.RowKit
set_option maxRecDepth 100000
theorem HAt.secs {w:World} {b:Nat} {T:TypeId} {h:Hd} (H:HAt w b T h) (s:Sc):HAt ((((((((w.setCell ⟨b,0,none⟩ (.int .u64 s.rf)).setCell ⟨b,1,none⟩ (.int .u64 s.rl)).setCell ⟨b,2,none⟩ (.int .u64 s.mf)).setCell ⟨b,3,none⟩ (.int .u64 s.ml)).setCell ⟨b,4,none⟩ (.int .u64 s.lf)).setCell ⟨b,5,none⟩ (.int .u64 s.ll)).setCell ⟨b,6,none⟩ (.int .u64 s.df)).setCell ⟨b,7,none⟩ (.int .u64 s.dl)) b T (withN h s):=by
 unfold HAt at H ⊢
 have:=hset (hset (hset (hset (hset (hset (hset (hset H 0 (.int .u64 s.rf)) 1 (.int .u64 s.rl)) 2 (.int .u64 s.mf)) 3 (.int .u64 s.ml)) 4 (.int .u64 s.lf)) 5 (.int .u64 s.ll)) 6 (.int .u64 s.df)) 7 (.int .u64 s.dl)
 simp only [cH,List.setIfInBounds_toArray,List.set_cons_zero,List.set_cons_succ] at this
 exact this
theorem HAt.secs_far {w:World} {b b':Nat} {T:TypeId} {h:Hd} (H:HAt w b T h) (hn:b≠b') (s:Sc):HAt ((((((((w.setCell ⟨b',0,none⟩ (.int .u64 s.rf)).setCell ⟨b',1,none⟩ (.int .u64 s.rl)).setCell ⟨b',2,none⟩ (.int .u64 s.mf)).setCell ⟨b',3,none⟩ (.int .u64 s.ml)).setCell ⟨b',4,none⟩ (.int .u64 s.lf)).setCell ⟨b',5,none⟩ (.int .u64 s.ll)).setCell ⟨b',6,none⟩ (.int .u64 s.df)).setCell ⟨b',7,none⟩ (.int .u64 s.dl)) b T h:=by
 unfold HAt at H ⊢
 exact hother (hother (hother (hother (hother (hother (hother (hother H hn _ _) hn _ _) hn _ _) hn _ _) hn _ _) hn _ _) hn _ _) hn _ _
theorem below_secs {w0 w:World} {B b':Nat} (H:Below B w0 w) (hn:B≤b') (s:Sc):Below B w0 ((((((((w.setCell ⟨b',0,none⟩ (.int .u64 s.rf)).setCell ⟨b',1,none⟩ (.int .u64 s.rl)).setCell ⟨b',2,none⟩ (.int .u64 s.mf)).setCell ⟨b',3,none⟩ (.int .u64 s.ml)).setCell ⟨b',4,none⟩ (.int .u64 s.lf)).setCell ⟨b',5,none⟩ (.int .u64 s.ll)).setCell ⟨b',6,none⟩ (.int .u64 s.df)).setCell ⟨b',7,none⟩ (.int .u64 s.dl)) :=
 (((((((H.setCell (p:=⟨b',0,none⟩) hn _).setCell (p:=⟨b',1,none⟩) hn _).setCell (p:=⟨b',2,none⟩) hn _).setCell (p:=⟨b',3,none⟩) hn _).setCell (p:=⟨b',4,none⟩) hn _).setCell (p:=⟨b',5,none⟩) hn _).setCell (p:=⟨b',6,none⟩) hn _).setCell (p:=⟨b',7,none⟩) hn _
set_option maxHeartbeats 4000000 in
theorem with15_any (h:Hd) (s:Sc) (w:World):Calls Tryz.prog 84 #[.agg (cH h),.agg (sArr s)] w fun e w'=>e=.returned (.agg (cH (withN h s)))∧Below w.heap.size w w':=by
 obtain ⟨W,hW⟩:∃ W,((w.alloc (.cells (cH h) 44)).alloc (.cells (sArr s) 109)).alloc (.cells (cH zeroH) 44)=W:=⟨_,rfl⟩
 have h0:HAt W w.heap.size 44 h:=by
  rw [← hW]
  exact (heap_alloc_old (by simp;omega)).trans ((heap_alloc_old (by simp)).trans (HAt.made w h _))
 have h1:Box W (w.heap.size+1) (sArr s):=by
  have:=box_new (w.alloc (.cells (cH h) 44)) (sArr s) 109
  rw [World.size_alloc] at this
  rw [← hW]
  exact this.below ((Below.refl _ _).alloc (Nat.le_refl _) _)
 have h2:HAt W (w.heap.size+1+1) 44 zeroH:=by
  have:=HAt.made ((w.alloc (.cells (cH h) 44)).alloc (.cells (sArr s) 109)) zeroH 44
  simp only [World.size_alloc] at this
  rw [← hW]
  exact this
 have hbw:Below w.heap.size w W:=by rw [← hW];exact (((Below.refl _ w).alloc (Nat.le_refl _) _).alloc (by simp) _).alloc (by simp;omega) _
 have s0:=h1.cell 0
 have s1:=h1.cell 1
 have s2:=h1.cell 2
 have s3:=h1.cell 3
 have s4:=h1.cell 4
 have s5:=h1.cell 5
 have s6:=h1.cell 6
 have s7:=h1.cell 7
 simp [sArr] at s0 s1 s2 s3 s4 s5 s6 s7
 have c0:=cell_blk h0 0
 have c1:=cell_blk h0 1
 have c2:=cell_blk h0 2
 have c3:=cell_blk h0 3
 have c4:=cell_blk h0 4
 have c5:=cell_blk h0 5
 have c6:=cell_blk h0 6
 have c7:=cell_blk h0 7
 simp [cH] at c0 c1 c2 c3 c4 c5 c6 c7
 have f0:∀ j,W.frozen? ⟨w.heap.size,j,none⟩=false:=fun j=>by unfold HAt at h0;simp [World.frozen?,h0]
 have H0:=Lib.hid h0
 have H2:=Lib.hid h2
 have HBW:=Lib.hid hbw
 clear h0 h1 h2 hbw
 have hz:cH zeroH=#[.int .u64 0,.int .u64 0,.int .u64 0,.int .u64 0,.int .u64 0,.int .u64 0,.int .u64 0,.int .u64 0,.int .u64 0,.int .u64 0,.int .u64 0,.bool false,.int .u8 0,.int .u8 0,.int .u8 0,.int .i64 0,.int .i64 0,.int .i64 0,.int .i64 0,.int .i64 0,.int .i64 0,.int .i64 0,.int .i64 0,.int .i64 0]:=rfl
 rw [hz] at hW
 clear hz
 generalize hc:cH (withN h s)=R
 have HR:=Lib.hid hc
 clear hc
 generalize hk:cH h=Hc at *
 have HK:=Lib.hid hk
 clear hk
 unfold sArr at hW ⊢
 go_enter Tryz.func84,Tryz.ntmps84
 go_upto_region 1 with fail
 try rw [hW]
 clear hW
 go_cut [] (fun wx=>HAt wx w.heap.size 44 (withN h s)∧HAt wx (w.heap.size+1+1) 44 zeroH∧Below w.heap.size w wx)
 case first =>
  go_region
  all_goals
   go_wp2_with fail
   go_meet
   case rel=>exact ⟨HAt.later (HAt.secs H0.out s) (Below.drew (Below.refl _ _)),HAt.later (HAt.secs_far H2.out (by omega) s) (Below.drew (Below.refl _ _)),Below.drew (below_secs HBW.out (Nat.le_refl _) s)⟩
 case rest =>
  obtain ⟨hA,hZ,hB⟩:=hcut
  generalize wc=W2 at *
  have HA:=Lib.hid hA
  have HZ:=Lib.hid hZ
  have HB:=Lib.hid hB
  clear hA hZ hB s0 s1 s2 s3 s4 s5 s6 s7 c0 c1 c2 c3 c4 c5 c6 c7 f0 H0 H2 HBW
  generalize hx:withN h s=X at *
  go_wp2_with (first|(refine wpList_load_row rfl 44 _ rfl w.heap.size rfl 44 (cH X) (0,0) _ HA.out Tryz.underlying44 rfl head_size ?_)|(refine wpList_store_row rfl 44 _ _ rfl (w.heap.size+1+1) (cH X) rfl rfl 44 (cH zeroH) HZ.out head_size rfl (cH_one X) ?_)|fail)
  have hp:=put24 W2 (w.heap.size+1+1) _ zeroH X HZ.out
  refine bodyPost_ret (results_cell_row rfl _ _ (w.heap.size+1+1) 44 (cH X) (0,0) _ rfl hp.1 Tryz.underlying44 rfl head_size) rfl ⟨by rw [HR.out],hp.2.2.1 _ _ (by omega) HB.out⟩
theorem len_byt (s:ByteArray):s.data.toList.length=s.size:=rfl
theorem Box.later {w w':World} {B b:Nat} {arr:Array Value} (h:Box w b arr) (hb:Below B w w') (hB:b<B):Box w' b arr:=by
 obtain ⟨T,h⟩:=h
 exact ⟨T,(hb.block b hB).trans h⟩
theorem cat5 (a b c d f:ByteArray):(⟨(a.data.toList++b.data.toList++c.data.toList++d.data.toList++f.data.toList).toArray⟩:ByteArray)=a++b++c++d++f:=by
 apply ByteArray.ext
 simp
set_option maxHeartbeats 4000000 in
theorem glue15_any (h:Hd) (p:Pt) (w:World) (hm:MayH h) (hp:Few p 200000000):Calls Tryz.prog 35 #[.agg (cH h),.agg (pArr p)] w fun e w'=>e=.returned (.tuple #[.string (glueN h p).1,.int .i64 (glueN h p).2])∧Below w.heap.size w w':=by
 have hsf:=sec_few hp
 have hmx:=with_may hm (mayS_few hp)
 have hg:glueN h p=if (encH (withN h (secOf p).sec)).2≠0 then (noBCc,(encH (withN h (secOf p).sec)).2) else (str (encH (withN h (secOf p).sec)).1++p.p0++p.p1++p.p2++p.p3,0):=by
  unfold glueN
  rw [if_neg (by rw [hsf];simp)]
 have HLN:=Lib.hid (fun X=>lens15_any p X hp)
 obtain ⟨p0,p1,p2,p3⟩:=p
 obtain ⟨l0,l1,l2,l3⟩:=hp
 dsimp only at l0 l1 l2 l3 HLN
 obtain ⟨W,hW⟩:∃ W,(w.alloc (.cells (cH h) 44)).alloc (.cells #[.string p0,.string p1,.string p2,.string p3] 52)=W:=⟨_,rfl⟩
 have h0:HAt W w.heap.size 44 h:=by
  rw [← hW]
  exact (heap_alloc_old (by simp)).trans (HAt.made w h _)
 have h1:Box W (w.heap.size+1) #[.string p0,.string p1,.string p2,.string p3]:=by
  have:=box_new (w.alloc (.cells (cH h) 44)) #[.string p0,.string p1,.string p2,.string p3] 52
  rw [World.size_alloc] at this
  rw [← hW]
  exact this
 have hbw:Below w.heap.size w W:=by rw [← hW];exact ((Below.refl _ w).alloc (Nat.le_refl _) _).alloc (by simp) _
 have s0:=h1.cell 0
 have s1:=h1.cell 1
 have s2:=h1.cell 2
 have s3:=h1.cell 3
 simp at s0 s1 s2 s3
 have HSC:=Lib.hid (fun X=>sections15_any p0.size p1.size p2.size p3.size X (by unfold U64;omega) (by unfold U64;omega) (by unfold U64;omega) (by unfold U64;omega))
 have hso:secsN p0.size p1.size p2.size p3.size=secOf ⟨p0,p1,p2,p3⟩:=rfl
 rw [hso] at HSC
 have hse:(secOf ⟨p0,p1,p2,p3⟩).err=0:=by rw [hsf]
 obtain ⟨n,hn,hn2⟩:∃ n:Nat,(secOf ⟨p0,p1,p2,p3⟩).all=n∧n≤1000000000:=⟨127+p0.size+p1.size+p2.size+p3.size,by rw [hsf];simp,by omega⟩
 have hwn:IntKind.i64.wrap (n:Int)=(n:Int):=by rw [IntKind.wrap_i64];omega
 unfold SecEnd at HSC
 rw [hse,hn] at HSC
 generalize secOf ⟨p0,p1,p2,p3⟩=S at *
 have HEN:=Lib.hid (fun X=>encode_any (withN h S.sec) X hmx)
 have HWI:=Lib.hid (fun X=>with15_any h S.sec X)
 rw [hg]
 generalize withN h S.sec=hx at *
 obtain ⟨R,hR⟩:∃ R,(if (encH hx).2≠0 then (noBCc,(encH hx).2) else (str (encH hx).1++p0++p1++p2++p3,0))=R:=⟨_,rfl⟩
 rw [hR]
 have HR:=Lib.hid hR
 have H0:=Lib.hid h0
 have P1:=Lib.hid h1
 have B1:=Lib.hid hbw
 clear hR h0 h1 hbw hg hsf hso hse hn
 generalize hk:cH h=Hc at *
 have HK:=Lib.hid hk
 clear hk
 unfold pArr at HLN ⊢
 have i0:=fun W=>(idx_p (.string p0) (.string p1) (.string p2) (.string p3) W).1
 have i1:=fun W=>(idx_p (.string p0) (.string p1) (.string p2) (.string p3) W).2.1
 have i2:=fun W=>(idx_p (.string p0) (.string p1) (.string p2) (.string p3) W).2.2.1
 have i3:=fun W=>(idx_p (.string p0) (.string p1) (.string p2) (.string p3) W).2.2.2
 go_enter Tryz.func35,Tryz.ntmps35
 go_wp2_with fail
 try rw [hW]
 clear hW
 refine (HLN.out _).mono ?_
 rintro e w1 ⟨rfl,hb1⟩
 have H1:=Lib.hid (H0.out.later hb1)
 have P2:=Lib.hid (P1.out.below hb1)
 have B2:=Lib.hid (B1.out.trans (hb1.mono B1.out.size))
 clear hb1 s0 s1 s2 s3 H0 P1 B1
 go_wp2_with fail
 refine (HSC.out _).mono ?_
 rintro e w2 ⟨rfl,hb2⟩
 unfold sArr
 have hba:Below w2.heap.size w2 (w2.alloc (.cells #[.int .u64 S.sec.rf,.int .u64 S.sec.rl,.int .u64 S.sec.mf,.int .u64 S.sec.ml,.int .u64 S.sec.lf,.int .u64 S.sec.ll,.int .u64 S.sec.df,.int .u64 S.sec.dl] 109)):=(Below.refl _ _).alloc (Nat.le_refl _) _
 have hb3:=hb2.trans (hba.mono hb2.size)
 have HA2:=H1.out.later hb3
 have P3:=Lib.hid (P2.out.below hb3)
 have B3:=Lib.hid (B2.out.trans (hb3.mono B2.out.size))
 unfold HAt at HA2
 rw [HK.out] at HA2
 have hsz:(Tryz.prog.info? 44).map (·.size)=some Hc.size:=by rw [← HK.out];exact head_size
 have HA2:=Lib.hid HA2
 unfold sArr at HWI
 clear hb2 hba hb3 H1 P2 B2
 go_wp2_with (first|(refine wpList_load_row rfl 44 _ rfl w.heap.size rfl 44 Hc (0,0) _ HA2.out Tryz.underlying44 rfl hsz ?_)|fail)
 refine (HWI.out _).mono ?_
 rintro e w3 ⟨rfl,hb3⟩
 have P4:=Lib.hid (P3.out.below hb3)
 have B4:=Lib.hid (B3.out.trans (hb3.mono B3.out.size))
 clear hb3 P3 B3 HA2
 go_wp2_with fail
 refine (HEN.out _).mono ?_
 rintro e w5 ⟨rfl,hb5⟩
 have P5:=Lib.hid (P4.out.below hb5)
 have B5:=Lib.hid (B4.out.trans (hb5.mono B4.out.size))
 have hsl:(str (encH hx).1).size≤200:=by
  rw [str_size]
  unfold encH
  split
  ·rename_i hc
   rw [bytsH_len hx hmx hc]
   omega
  ·simp
 clear hb5 P4 B4
 by_cases hz:(encH hx).2=0
 ·rw [hz]
  have HR2:=HR.out
  rw [if_neg (by simpa using hz)] at HR2
  have HR2:=Lib.hid HR2
  clear hz
  generalize str (encH hx).1=st at *
  have hP5:=P5.out.lt
  have HGW:=Lib.hid (bgrow_any w5.heap.size w5.heap.size n (w5.alloc (.cells #[.pointer none,.slice none 0 0] 175)) (Nat.le_refl _) (heap_new15 w5 _) (by simp) (by omega))
  have HQ:=Lib.hid (P5.out.later ((Below.refl w5.heap.size w5).alloc (Nat.le_refl _) (.cells #[.pointer none,.slice none 0 0] 175)) hP5)
  go_wp2_with fail
  refine HGW.out.mono ?_
  rintro e y0 ⟨rfl,hA0,hb0⟩
  have P6:=Lib.hid (HQ.out.later hb0 hP5)
  have A0:=Lib.hid hA0
  have z0:w5.heap.size≤y0.heap.size:=Nat.le_trans (by simp) hb0.size
  have D0:=Lib.hid (((Below.refl w5.heap.size w5).alloc (Nat.le_refl _) (.cells #[.pointer none,.slice none 0 0] 175)).trans hb0)
  clear hA0 hb0 HGW HQ
  go_wp2_with fail
  refine (bwrite_any w5.heap.size w5.heap.size [] st y0 A0.out (by simp only [List.length_append,List.length_nil,len_byt];omega) z0).mono ?_
  rintro e y1 ⟨rfl,hA1,hb1⟩
  rw [List.nil_append] at hA1
  have A1:=Lib.hid hA1
  have z1:w5.heap.size≤y1.heap.size:=Nat.le_trans z0 hb1.size
  have D1:=Lib.hid (D0.out.trans hb1)
  have P7:=P6.out.later hb1 hP5
  have q0:=P7.cell 0
  have q1:=P7.cell 1
  have q2:=P7.cell 2
  have q3:=P7.cell 3
  simp at q0 q1 q2 q3
  clear P7
  clear hA1 hb1 A0 D0
  go_wp2_with fail
  refine wp_loop_rounds 5 ?_
  rw [rounds_succ]
  go_wp2_with fail
  refine (bwrite_any w5.heap.size w5.heap.size (st.data.toList) p0 y1 A1.out (by simp only [List.length_append,List.length_nil,len_byt];omega) z1).mono ?_
  rintro e y2 ⟨rfl,hA2,hb2⟩
  have A2:=Lib.hid hA2
  have z2:w5.heap.size≤y2.heap.size:=Nat.le_trans z1 hb2.size
  have D2:=Lib.hid (D1.out.trans hb2)
  clear hA2 hb2 A1 D1
  go_wp2_with fail
  rw [rounds_succ]
  go_wp2_with fail
  refine (bwrite_any w5.heap.size w5.heap.size (st.data.toList++p0.data.toList) p1 y2 A2.out (by simp only [List.length_append,List.length_nil,len_byt];omega) z2).mono ?_
  rintro e y3 ⟨rfl,hA3,hb3⟩
  have A3:=Lib.hid hA3
  have z3:w5.heap.size≤y3.heap.size:=Nat.le_trans z2 hb3.size
  have D3:=Lib.hid (D2.out.trans hb3)
  clear hA3 hb3 A2 D2
  go_wp2_with fail
  rw [rounds_succ]
  go_wp2_with fail
  refine (bwrite_any w5.heap.size w5.heap.size (st.data.toList++p0.data.toList++p1.data.toList) p2 y3 A3.out (by simp only [List.length_append,List.length_nil,len_byt];omega) z3).mono ?_
  rintro e y4 ⟨rfl,hA4,hb4⟩
  have A4:=Lib.hid hA4
  have z4:w5.heap.size≤y4.heap.size:=Nat.le_trans z3 hb4.size
  have D4:=Lib.hid (D3.out.trans hb4)
  clear hA4 hb4 A3 D3
  go_wp2_with fail
  rw [rounds_succ]
  go_wp2_with fail
  refine (bwrite_any w5.heap.size w5.heap.size (st.data.toList++p0.data.toList++p1.data.toList++p2.data.toList) p3 y4 A4.out (by simp only [List.length_append,List.length_nil,len_byt];omega) z4).mono ?_
  rintro e y5 ⟨rfl,hA5,hb5⟩
  have A5:=Lib.hid hA5
  have z5:w5.heap.size≤y5.heap.size:=Nat.le_trans z4 hb5.size
  have D5:=Lib.hid (D4.out.trans hb5)
  clear hA5 hb5 A4 D4
  go_wp2_with fail
  rw [rounds_succ]
  go_wp2_with fail
  refine (bstr_any w5.heap.size w5.heap.size (st.data.toList++p0.data.toList++p1.data.toList++p2.data.toList++p3.data.toList) y5 A5.out z5).mono ?_
  rintro e y6 ⟨rfl,hb6⟩
  have D6:=Lib.hid (D5.out.trans hb6)
  clear hb6
  rw [cat5]
  go_wp2_with fail
  refine bodyPost_ret (results_tmp2 rfl _ _ _) rfl ⟨by rw [← HR2.out];rfl,B5.out.trans (D6.out.mono B5.out.size)⟩
 ·have HR2:=HR.out
  rw [if_pos hz] at HR2
  have HR2:=Lib.hid HR2
  have hzn:((encH hx).2 != 0)=true:=by simpa using hz
  generalize (encH hx).2=er at *
  clear hz
  go_wp2_with fail
  refine bodyPost_ret (results_tmp2 rfl _ _ _) rfl ⟨by rw [← HR2.out];rfl,B5.out⟩
end Go.Proofs.YtdnmgpcfgcidbaaGreatDoor
namespace Go.Proofs.YtdnmgpcfgcidbaaGreatDoor
set_option linter.unusedVariables false
set_option linter.unusedSimpArgs false
open Go.RowKit
set_option maxRecDepth 20000
set_option maxRecDepth 20000 in
theorem decode_short (t:ByteArray) (w:World) (h127:t.size<127):Calls Tryz.prog 45 #[.string t] w fun e w'=>e=.returned (.tuple #[.agg (cH zeroH),.int .i64 3])∧Below w.heap.size w w':=by
 have HZ:=HAt.zero w 44
 have hd:decide ((t.size:Int)<127)=true:=by simp;omega
 clear h127
 go_enter Tryz.func45,Tryz.ntmps45
 go_wp2_with (first|(refine store_head (by rfl) _ _ rfl _ rfl zeroH rfl _ zeroH (by assumption) rfl ?_;intro w2 HP)|fail)
 refine bodyPost_ret (v:=.tuple #[.agg (cH zeroH),.int .i64 3]) (results_head Tryz.results45 _ _ _ _ _ _ rfl rfl HP.1) rfl ⟨rfl,HP.2.2.1 _ _ (Nat.le_refl _) ((Below.refl _ _).alloc (Nat.le_refl _) _)⟩
theorem bytes7 (t:ByteArray) (hm:t.size≤maxLen) (h:127≤t.size) (W:World):Calls Tryz.prog 108 #[.agg #[.string t,.int .i64 0,.int .i64 0],.int .i64 7] W fun e w'=>e=.returned (.tuple #[.string (t.extract 0 7),.agg #[.string t,.int .i64 7,.int .i64 0]])∧Below W.heap.size W w' :=
 bytes_yes t 0 7 W hm (bytesBad_ok t 0 7 hm (by omega) (by omega) (by omega)) (by omega) (by omega) (by omega)
theorem num7 (t:ByteArray) (hm:t.size≤maxLen) (h:127≤t.size) (W:World):Calls Tryz.prog 109 #[.agg #[.string t,.int .i64 7,.int .i64 0],.int .i64 1] W fun e w'=>e=.returned (.tuple #[.int .u64 (nmB t 7 1),.agg #[.string t,.int .i64 8,.int .i64 0]])∧Below W.heap.size W w' :=
 num_at t 7 1 W hm (by omega) (by omega) (by omega)
set_option maxRecDepth 20000 in
set_option maxHeartbeats 4000000 in
theorem decode_long (t:ByteArray) (w:World) (hm:t.size≤maxLen) (h127:127≤t.size) (E:Hd × Int) (hE:decH (blCc t)=E):Calls Tryz.prog 45 #[.string t] w fun e w'=>e=.returned (.tuple #[.agg (cH E.1),.int .i64 E.2])∧Below w.heap.size w w':=by
 have HZ:=HAt.zero w 44
 have hd:decide ((t.size:Int)<127)=false:=by simp;omega
 have HE:=Lib.hid hE
 have HM:=Lib.hid hm
 have HL:=Lib.hid h127
 have K7:=Lib.hid (bytes7 t hm h127)
 have N7:=Lib.hid (num7 t hm h127)
 have KF:=Lib.hid (fun W=>fields_any t W hm h127)
 have KC:=Lib.hid (fun W=>check_anyCc (telB t) W (may_telB t h127))
 clear hE hm h127
 obtain ⟨s7,hs7⟩:∃ s,t.extract 0 7=s:=⟨_,rfl⟩
 rw [hs7] at K7
 have HS7:=Lib.hid hs7
 clear hs7
 go_enter Tryz.func45,Tryz.ntmps45
 go_upto_region 3 with fail
 obtain ⟨W0,hW0⟩:∃ W0,w.alloc (.cells #[.int .u64 zeroH.rf,.int .u64 zeroH.rl,.int .u64 zeroH.mf,.int .u64 zeroH.ml,.int .u64 zeroH.lf,.int .u64 zeroH.ll,.int .u64 zeroH.df,.int .u64 zeroH.dl,.int .u64 zeroH.ad,.int .u64 zeroH.en,.int .u64 zeroH.co,.bool zeroH.cl,.int .u8 zeroH.inn,.int .u8 zeroH.out,.int .u8 zeroH.knd,.int .i64 zeroH.z0,.int .i64 zeroH.z1,.int .i64 zeroH.lo0,.int .i64 zeroH.la0,.int .i64 zeroH.lo1,.int .i64 zeroH.la1,.int .i64 zeroH.zm,.int .i64 zeroH.lon,.int .i64 zeroH.lat] 44)=W0:=⟨_,rfl⟩
 have hW2:w.alloc (.cells #[.int .u64 0,.int .u64 0,.int .u64 0,.int .u64 0,.int .u64 0,.int .u64 0,.int .u64 0,.int .u64 0,.int .u64 0,.int .u64 0,.int .u64 0,.bool false,.int .u8 0,.int .u8 0,.int .u8 0,.int .i64 0,.int .i64 0,.int .i64 0,.int .i64 0,.int .i64 0,.int .i64 0,.int .i64 0,.int .i64 0,.int .i64 0] 44)=W0:=hW0
 rw [hW0] at HZ
 have U0:Below w.heap.size w W0:=by rw [← hW0];exact (Below.refl _ _).alloc (Nat.le_refl _) _
 rw [hW2]
 clear hW0 hW2
 have HHZ:=Lib.hid HZ
 have HU0:=Lib.hid U0
 clear HZ U0 hd
 go_cut [4,5] (fun s p wx=>∃ g,s=.string s7∧p=.pointer (some ⟨g,0,none⟩)∧ScanAt wx g t 7∧HAt wx w.heap.size 44 zeroH∧w.heap.size<g∧Below w.heap.size w wx)
 case first =>
  go_wp2_with fail
  refine (K7.out _).mono ?_
  rintro e w1 ⟨rfl,hb1⟩
  have h1:=HHZ.out.later hb1
  have u1:=HU0.out.trans (hb1.mono HU0.out.size)
  have hl:=h1.lt
  have HH1:=Lib.hid (And.intro h1 u1)
  clear h1 u1 hb1
  go_wp2_with fail
  go_meet
  case rel =>
   exact ⟨_,rfl,rfl,heap_alloc_new w1 _,(heap_alloc_old hl).trans HH1.out.1,hl,HH1.out.2.alloc (by omega) _⟩
 case rest =>
 obtain ⟨g,rfl,rfl,hS,hZ,hlt,hU⟩:=hcut
 generalize wc=w1 at *
 clear K7 HHZ HU0
 by_cases hn:s7=⟨#[80,77,84,105,108,101,115]⟩
 ·have hne:=str_eq hn
  subst hn
  have HN:=HS7.out
  obtain ⟨s0,s1,s2,sf⟩:=hS.cells
  have hsl:=hS.lt
  have HS:=Lib.hid hS
  have HH1:=Lib.hid (And.intro hZ hU)
  obtain ⟨y,hy⟩:∃ y,nmB t 7 1=y:=⟨_,rfl⟩
  rw [hy] at N7
  have HY:=Lib.hid hy
  have HNN:=Lib.hid HN
  clear hS hU hZ hy HN HS7
  go_upto_region 6 with fail
  go_cut [6] (fun x wx=>x=.int .u64 y∧ScanAt wx g t 8∧HAt wx w.heap.size 44 zeroH∧Below w.heap.size w wx)
  case first =>
   go_wp2_with fail
   refine (N7.out _).mono ?_
   rintro e w2 ⟨rfl,hb2⟩
   have hS2:=HS.out.later hb2
   have hZ2:=HH1.out.1.later hb2
   have hU2:=HH1.out.2.trans (hb2.mono HH1.out.2.size)
   obtain ⟨r0,r1,r2,rf⟩:=hS2.cells
   have HH2:=Lib.hid (And.intro hS2 (And.intro hZ2 hU2))
   clear hS2 hZ2 hU2 hb2
   go_wp2_with fail
   go_meet
   case rel =>
    have hk:∀ k,k≠g→(((w2.setCell ⟨g,0,none⟩ (.string t)).setCell ⟨g,1,none⟩ (.int .i64 8)).setCell ⟨g,2,none⟩ (.int .i64 0)).heap[k]?=w2.heap[k]?:=fun k hk=>by rw [heap_other hk,heap_other hk,heap_other hk]
    exact ⟨rfl,HH2.out.1.on,(hk _ (by omega)).trans HH2.out.2.1,((HH2.out.2.2.setCell (by show w.heap.size≤g;omega) _).setCell (by show w.heap.size≤g;omega) _).setCell (by show w.heap.size≤g;omega) _⟩
  case rest =>
  obtain ⟨rfl,hS,hZ,hU⟩:=hcut
  generalize wc=w2 at *
  clear N7 HS HH1 s0 s1 s2 sf
  by_cases hv:y=3
  ·subst hv
   obtain ⟨s0,s1,s2,sf⟩:=hS.cells
   have HH2:=Lib.hid (And.intro hZ hU)
   clear hS hU hZ
   have HTT:=Lib.hid (fun (c:Int) (hc:c=nmB t 96 1)=>hc)
   obtain ⟨T,hT⟩:∃ T,telB t=T:=⟨_,rfl⟩
   obtain ⟨x,hx⟩:∃ x,nmB t 96 1=x:=⟨_,rfl⟩
   rw [hT,hx] at KF
   rw [hT] at KC
   have HT:=Lib.hid hT
   have HX:=Lib.hid hx
   clear hT hx HTT
   go_upto_region 9 with fail
   go_cut [7,8] (fun p c wx=>∃ k,p=.pointer (some ⟨k,0,none⟩)∧c=.int .u8 x∧HAt wx k 44 T∧HAt wx w.heap.size 44 zeroH∧w.heap.size<k∧Below w.heap.size w wx)
   case first =>
    go_wp2_with fail
    refine (KF.out _).mono ?_
    rintro e w3 ⟨rfl,hb3⟩
    have hZ3:=HH2.out.1.later hb3
    have hU3:=HH2.out.2.trans (hb3.mono HH2.out.2.size)
    have hl:=hZ3.lt
    have HH3:=Lib.hid (And.intro hZ3 hU3)
    have HZ:=HAt.zero w3 44
    clear hZ3 hU3 hb3 s0 s1 s2 sf
    go_wp2_with (first|(refine store_head (by rfl) _ _ rfl _ rfl T rfl _ zeroH (by assumption) rfl ?_;intro w4 HP)|fail)
    go_meet
    case rel=>exact ⟨_,rfl,rfl,HP.1,HP.keep ((heap_alloc_old hl).trans HH3.out.1) (by omega),hl,HP.2.2.1 _ _ (by omega) (HH3.out.2.alloc (by omega) _)⟩
   case rest =>
   obtain ⟨k,rfl,rfl,hA,hZ,hlk,hU⟩:=hcut
   generalize wc=w3 at *
   clear KF HH2 s0 s1 s2 sf
   by_cases hf:1<x
   ·have hE2:E=(zeroH,4):=HE.out.symm.trans (decB_form t HL.out HNN.out HY.out (by rw [HX.out];exact hf))
    subst hE2
    have hd:decide (1<x)=true:=by simpa using hf
    have HU:=Lib.hid hU
    clear hf hU hA
    go_wp2_with (first|(refine store_head (by rfl) _ _ rfl _ rfl zeroH rfl _ zeroH (by assumption) rfl ?_;intro w5 HP)|fail)
    refine bodyPost_ret (v:=.tuple #[.agg (cH zeroH),.int .i64 4]) (results_head Tryz.results45 _ _ _ _ _ _ rfl rfl HP.1) rfl ⟨rfl,HP.2.2.1 _ _ (Nat.le_refl _) HU.out⟩
   ·have hd:decide (1<x)=false:=by simpa using hf
    have hE1:ckH T≠0→E=(zeroH,ckH T):=fun hc=>HE.out.symm.trans (by rw [← HT.out] at hc ⊢;exact decB_bad t HL.out HNN.out HY.out (by rw [HX.out];exact hf) hc)
    have hE0:ckH T=0→E=(T,0):=fun hc=>HE.out.symm.trans (by rw [← HT.out] at hc ⊢;exact decB_ok t HL.out HNN.out HY.out (by rw [HX.out];exact hf) hc)
    have HHA:=Lib.hid hA
    have HHR:=Lib.hid hZ
    have HU:=Lib.hid hU
    clear hf hU hZ
    obtain ⟨r,hr⟩:∃ r,ckH T=r:=⟨_,rfl⟩
    rw [hr] at KC hE1 hE0
    by_cases h0:r=0
    ·subst h0
     have HE2:Hid (E=(T,0)):=Lib.hid (hE0 rfl)
     clear hr hE0 hE1
     go_wp2_with (first|(refine load_head (by rfl) _ rfl _ rfl _ T (by assumption) ?_)|fail)
     refine (KC.out _).mono ?_
     rintro e w6 ⟨rfl,hb⟩
     have hA6:=HHA.out.later hb
     have hR6:=HHR.out.later hb
     have u6:=HU.out.trans (hb.mono HU.out.size)
     have hee:Ending.returned (.tuple #[.agg (cH T),.int .i64 0])=.returned (.tuple #[.agg (cH E.1),.int .i64 E.2]):=by rw [HE2.out]
     have HU6:=Lib.hid u6
     have HEE:=Lib.hid hee
     clear hb HHA HHR HU hA hee u6
     go_wp2_with (first|(refine load_head (by rfl) _ rfl _ rfl _ T (by assumption) ?_)|(refine store_head (by rfl) _ _ rfl _ rfl T rfl _ zeroH (by assumption) rfl ?_;intro w7 HP)|fail)
     refine bodyPost_ret (v:=.tuple #[.agg (cH T),.int .i64 0]) (results_head Tryz.results45 _ _ _ _ _ _ rfl rfl HP.1) rfl ⟨HEE.out,HP.2.2.1 _ _ (Nat.le_refl _) HU6.out⟩
    ·have HE2:Hid (E=(zeroH,r)):=Lib.hid (hE1 h0)
     have hne2:(r != 0)=true:=by simp only [bne_iff_ne,ne_eq];exact h0
     clear h0 hr hE0 hE1
     go_wp2_with (first|(refine load_head (by rfl) _ rfl _ rfl _ T (by assumption) ?_)|fail)
     refine (KC.out _).mono ?_
     rintro e w6 ⟨rfl,hb⟩
     have hR6:=HHR.out.later hb
     have u6:=HU.out.trans (hb.mono HU.out.size)
     have hee:Ending.returned (.tuple #[.agg (cH zeroH),.int .i64 r])=.returned (.tuple #[.agg (cH E.1),.int .i64 E.2]):=by rw [HE2.out]
     have HU6:=Lib.hid u6
     have HEE:=Lib.hid hee
     clear hb HHA HHR HU hA hee u6
     go_wp2_with (first|(refine store_head (by rfl) _ _ rfl _ rfl zeroH rfl _ zeroH (by assumption) rfl ?_;intro w7 HP)|fail)
     refine bodyPost_ret (v:=.tuple #[.agg (cH zeroH),.int .i64 r]) (results_head Tryz.results45 _ _ _ _ _ _ rfl rfl HP.1) rfl ⟨HEE.out,HP.2.2.1 _ _ (Nat.le_refl _) HU6.out⟩
  ·have hE2:E=(zeroH,13):=HE.out.symm.trans (decB_version t HL.out HNN.out (by rw [HY.out];exact hv))
   subst hE2
   have hv2:(y != 3)=true:=by simp only [bne_iff_ne,ne_eq];exact hv
   have HU:=Lib.hid hU
   clear hv hS hU KF KC
   go_wp2_with (first|(refine store_head (by rfl) _ _ rfl _ rfl zeroH rfl _ zeroH (by assumption) rfl ?_;intro w5 HP)|fail)
   refine bodyPost_ret (v:=.tuple #[.agg (cH zeroH),.int .i64 13]) (results_head Tryz.results45 _ _ _ _ _ _ rfl rfl HP.1) rfl ⟨rfl,HP.2.2.1 _ _ (Nat.le_refl _) HU.out⟩
 ·have hE2:E=(zeroH,12):=HE.out.symm.trans (decB_magic t HL.out (by rw [HS7.out];exact hn))
  subst hE2
  have hne:=str_ne hn
  have HU:=Lib.hid hU
  clear hn hS hU KF KC N7
  go_wp2_with (first|(refine store_head (by rfl) _ _ rfl _ rfl zeroH rfl _ zeroH (by assumption) rfl ?_;intro w2 HP)|fail)
  refine bodyPost_ret (v:=.tuple #[.agg (cH zeroH),.int .i64 12]) (results_head Tryz.results45 _ _ _ _ _ _ rfl rfl HP.1) rfl ⟨rfl,HP.2.2.1 _ _ (Nat.le_refl _) HU.out⟩
theorem decode_any (t:ByteArray) (w:World) (hm:t.size≤maxLen):Calls Tryz.prog 45 #[.string t] w fun e w'=>e=.returned (.tuple #[.agg (cH (decH (blCc t)).1),.int .i64 (decH (blCc t)).2])∧Below w.heap.size w w':=by
 by_cases h127:t.size<127
 ·rw [decB_short t h127];exact decode_short t w h127
 ·exact decode_long t w hm (by omega) _ rfl
def frK (h:Hd) (k:Nat):Int:=if k=0 then h.rf else if k=1 then h.mf else if k=2 then h.lf else h.df
def lnK (h:Hd) (k:Nat):Int:=if k=0 then h.rl else if k=1 then h.ml else if k=2 then h.ll else h.dl
def enK (h:Hd) (k:Nat):Int:=if k=0 then 127 else frK h (k-1)+lnK h (k-1)
def LaidUp (h:Hd) (k:Nat):Prop:=∀ j,j<k→¬ frK h j<enK h j
theorem LaidUp.on {h:Hd} {k:Nat} (u:LaidUp h k) (e:¬ frK h k<enK h k):LaidUp h (k+1):=fun j hj=>by
 rcases (by omega:j<k∨j=k) with hj|rfl
 ·exact u j hj
 ·exact e
theorem laid_order (h:Hd) (n:Int) (k:Nat) (hc:ckH h=0) (u:LaidUp h k) (hk:k<4) (e:frK h k<enK h k):laidB h n=10:=by
 have a0:0<k→¬ h.rf<127:=fun hk=>u 0 hk
 have a1:1<k→¬ h.mf<h.rf+h.rl:=fun hk=>u 1 hk
 have a2:2<k→¬ h.lf<h.mf+h.ml:=fun hk=>u 2 hk
 unfold laidB
 rw [if_neg (fun f=>f hc)]
 obtain rfl|rfl|rfl|rfl:k=0∨k=1∨k=2∨k=3:=by omega
 ·have e:h.rf<127:=e
  rw [if_pos e]
 ·have e:h.mf<h.rf+h.rl:=e
  rw [if_neg (a0 (by omega)),if_pos e]
 ·have e:h.lf<h.mf+h.ml:=e
  rw [if_neg (a0 (by omega)),if_neg (a1 (by omega)),if_pos e]
 ·have e:h.df<h.lf+h.ll:=e
  rw [if_neg (a0 (by omega)),if_neg (a1 (by omega)),if_neg (a2 (by omega)),if_pos e]
theorem laid_last (h:Hd) (n:Int) (hc:ckH h=0) (u:LaidUp h 4):laidB h n=if n<enK h 4 then 8 else 0:=by
 have a0:¬ h.rf<127:=u 0 (by omega)
 have a1:¬ h.mf<h.rf+h.rl:=u 1 (by omega)
 have a2:¬ h.lf<h.mf+h.ml:=u 2 (by omega)
 have a3:¬ h.df<h.lf+h.ll:=u 3 (by omega)
 unfold laidB
 rw [if_neg (fun f=>f hc),if_neg a0,if_neg a1,if_neg a2,if_neg a3]
 rfl
theorem sec_bd (f l:Int) (hf:U64 f) (hl:U64 l) (h:secB f l=true):0≤f∧0≤l∧f+l≤1099511627776:=by
 simp only [secB,Bool.and_eq_true,decide_eq_true_eq] at h
 unfold U64 at hf hl
 omega
theorem sums_ok (h:Hd) (k:Nat) (hm:MayH h) (hc:ckH h=0):0≤frK h k∧0≤lnK h k∧frK h k+lnK h k≤1099511627776:=by
 obtain ⟨m0,m1,m2,m3,m4,m5,m6,m7,-⟩:=hm
 have hs:=(ck_zero h hc).1
 simp only [SecsB,Bool.and_eq_true] at hs
 unfold frK lnK
 split
 ·exact sec_bd _ _ m0 m1 hs.1
 split
 ·exact sec_bd _ _ m2 m3 hs.2.1
 split
 ·exact sec_bd _ _ m4 m5 hs.2.2.1
 ·exact sec_bd _ _ m6 m7 hs.2.2.2
theorem idx_secK (h:Hd) (k:Nat) (hk:k<4) (W:World):Sem.run Tryz.prog (Instr.index 109 (.agg #[.int .u64 h.rf,.int .u64 h.rl,.int .u64 h.mf,.int .u64 h.ml,.int .u64 h.lf,.int .u64 h.ll,.int .u64 h.df,.int .u64 h.dl]) (.int .i64 k)) W=.ok (.agg #[.int .u64 (frK h k),.int .u64 (lnK h k)]) W:=by
 have hI:=idx_sec (.int .u64 h.rf) (.int .u64 h.rl) (.int .u64 h.mf) (.int .u64 h.ml) (.int .u64 h.lf) (.int .u64 h.ll) (.int .u64 h.df) (.int .u64 h.dl) W
 obtain rfl|rfl|rfl|rfl:k=0∨k=1∨k=2∨k=3:=by omega
 ·exact hI.1
 ·exact hI.2.1
 ·exact hI.2.2.1
 ·exact hI.2.2.2
set_option maxRecDepth 20000 in
theorem laid_any (h:Hd) (n:Int) (w:World) (hm:MayH h):Calls Tryz.prog 22 #[.agg (cH h),.int .u64 n] w fun e w'=>e=.returned (.int .i64 (laidB h n))∧Below w.heap.size w w':=by
 have HC:=Lib.hid (fun W=>check_anyCc h W hm)
 have H0:=HAt.made w h 44
 obtain ⟨R,hR⟩:∃ R,laidB h n=R:=⟨_,rfl⟩
 rw [hR]
 have HR:=Lib.hid hR
 clear hR
 by_cases hc:ckH h=0
 ·rw [hc] at HC
  have HS:=Lib.hid (fun k=>sums_ok h k hm hc)
  have HK:=Lib.hid hc
  clear hm hc
  go_enter Tryz.func22,Tryz.ntmps22
  go_wp2_with (first|(refine load_head (by rfl) _ rfl _ rfl _ h (by assumption) ?_)|fail)
  refine (HC.out _).mono ?_
  rintro e w1 ⟨rfl,hb⟩
  have H1:=H0.below hb (by rw [World.size_alloc];omega)
  have u1:Below w.heap.size w w1:=Below.trans (by go_grown) (hb.mono (by rw [World.size_alloc];omega))
  have HU:=Lib.hid u1
  clear hb H0 u1 HC
  go_wp2_with (first|(refine load_head (by rfl) _ rfl _ rfl _ h (by assumption) ?_)|fail)
  refine (sections_h h _).mono ?_
  rintro e w2 ⟨rfl,hb⟩
  have u2:=HU.out.trans (hb.mono HU.out.size)
  have HU2:=Lib.hid u2
  clear hb u2 HU H1
  go_wp2_with fail
  go_loopw [6,16] (fun e i wr=>∃ k:Nat,k≤4∧i=.int .i64 k∧e=.int .u64 (enK h k)∧Hid (LaidUp h k)∧Hid (Below w.heap.size w wr)) (fun _ i _=>4-(intOf i).toNat)
  case atStart=>exact ⟨0,by omega,rfl,rfl,Lib.hid (fun j hj=>by omega),HU2⟩
  case round =>
   obtain ⟨k,hk,rfl,rfl,HLU,HB⟩:=hrel
   by_cases hlt:k<4
   ·have hI:=fun W=>idx_secK h k hlt W
    have hs:=HS.out k
    have HEn:Hid (enK h (k+1)=frK h k+lnK h k):=Lib.hid rfl
    obtain ⟨f,hf⟩:∃ f,frK h k=f:=⟨_,rfl⟩
    obtain ⟨l,hl⟩:∃ l,lnK h k=l:=⟨_,rfl⟩
    obtain ⟨q,hq⟩:∃ q,enK h k=q:=⟨_,rfl⟩
    rw [hf,hl] at hI hs HEn
    rw [hq]
    have HF:=Lib.hid hf
    have HQ:=Lib.hid hq
    clear hf hl hq
    have hd4:decide ((k:Int)<4)=true:=by simp;omega
    by_cases hb:f<q
    ·have hE:R=10:=HR.out.symm.trans (laid_order h n k HK.out HLU.out hlt (by rw [HF.out,HQ.out];exact hb))
     subst hE
     have hd:decide (f<q)=true:=by simpa using hb
     clear hs hb HEn
     go_wp2_with fail
     go_ret
     exact ⟨rfl,HB.out.alloc HB.out.size _⟩
    ·have HL2:=Lib.hid (HLU.out.on (by rw [HF.out,HQ.out];exact hb))
     have hd:decide (f<q)=false:=by simpa using hb
     have hw:IntKind.u64.wrap (f+l)=f+l:=by rw [IntKind.wrap_u64] <;> omega
     have HEnd:=Lib.hid (fun W=>end_sec f l W)
     rw [hw,← HEn.out] at HEnd
     clear hs hb hw
     go_wp2_with fail
     refine (HEnd.out _).mono ?_
     rintro e w3 ⟨rfl,hb3⟩
     have HB3:=Lib.hid ((HB.out.alloc HB.out.size (.cells #[.int .u64 f,.int .u64 l] 42)).trans (hb3.mono (by rw [World.size_alloc];have:=HB.out.size;omega)))
     clear hb3
     go_wp2_with fail
     go_roundw
     case rel=>exact ⟨k+1,by omega,by go_num,rfl,HL2,HB3⟩
     case measure=>simp [intOf];omega
   ·obtain rfl:k=4:=by omega
    have hE:=HR.out.symm.trans (laid_last h n HK.out HLU.out)
    obtain ⟨q,hq⟩:∃ q,enK h 4=q:=⟨_,rfl⟩
    rw [hq] at hE ⊢
    clear hq
    by_cases hb:n<q
    ·rw [if_pos hb] at hE
     subst hE
     have hd:decide (n<q)=true:=by simpa using hb
     clear hb
     go_wp2_with fail
     go_ret
     exact ⟨rfl,HB.out⟩
    ·rw [if_neg hb] at hE
     subst hE
     have hd:decide (n<q)=false:=by simpa using hb
     clear hb
     go_wp2_with fail
     go_ret
     exact ⟨rfl,HB.out⟩
 ·have hE:R=ckH h:=HR.out.symm.trans (by unfold laidB;rw [if_pos hc])
  obtain ⟨r,hr⟩:∃ r,ckH h=r:=⟨_,rfl⟩
  rw [hr] at hE hc HC
  subst hE
  have hne:(R != 0)=true:=by simp only [bne_iff_ne,ne_eq];exact hc
  clear hr HR hm hc
  go_enter Tryz.func22,Tryz.ntmps22
  go_wp2_with (first|(refine load_head (by rfl) _ rfl _ rfl _ h (by assumption) ?_)|fail)
  refine (HC.out _).mono ?_
  rintro e w1 ⟨rfl,hb⟩
  have u1:Below w.heap.size w w1:=Below.trans (by go_grown) (hb.mono (by rw [World.size_alloc];omega))
  clear hb H0
  go_wp2_with fail
  go_ret
  exact ⟨rfl,u1⟩
end Go.Proofs.YtdnmgpcfgcidbaaGreatDoor
namespace Go.Proofs.YtdnmgpcfgcidbaaGreatDoor
set_option linter.unusedVariables false
set_option linter.unusedSimpArgs false
open Go.RowKit
set_option maxRecDepth 100000
def bitK (t:ByteArray) (h:Hd) (k:Nat):ByteArray:=bitN t (frK h k) (lnK h k)
def prA (t:ByteArray) (h:Hd) (k:Nat):Array Value:=#[.string (if 0<k then bitK t h 0 else noBCc),.string (if 1<k then bitK t h 1 else noBCc),.string (if 2<k then bitK t h 2 else noBCc),.string (if 3<k then bitK t h 3 else noBCc)]
theorem prA_set (t:ByteArray) (h:Hd) (k:Nat) (hk:k<4):(prA t h k).setIfInBounds k (.string (bitK t h k))=prA t h (k+1):=by
 rcases (by omega:k=0∨k=1∨k=2∨k=3) with rfl|rfl|rfl|rfl <;> simp [prA]
theorem prA_at (t:ByteArray) (h:Hd) (k:Nat) (hk:k<4):(prA t h k)[k]?=some (.string noBCc):=by
 rcases (by omega:k=0∨k=1∨k=2∨k=3) with rfl|rfl|rfl|rfl <;> simp [prA]
theorem out_of {h:Hd} {n:Int} {k:Nat} (hk:k<4) (ho:n<frK h k+lnK h k):outOf h n:=by
 unfold outOf
 rcases (by omega:k=0∨k=1∨k=2∨k=3) with rfl|rfl|rfl|rfl <;> simp [frK,lnK] at ho <;> omega
theorem not_out {h:Hd} {n:Int} (ha:∀ j,j<4→¬ n<frK h j+lnK h j):¬ outOf h n:=by
 unfold outOf
 have h0:=ha 0 (by omega)
 have h1:=ha 1 (by omega)
 have h2:=ha 2 (by omega)
 have h3:=ha 3 (by omega)
 simp [frK,lnK] at h0 h1 h2 h3
 omega
theorem results_rr {fn:Func} {p q r:Tmp} {ty ty2:TypeId} (h:fn.results=#[.cell p ty,.cell q ty2,.tmp r]) (tmps:Array Value) (w:World) (g g2:Nat) (cs cs2:Array Value) (v:Value)
  (hp:tmps.getD p undef=.pointer (some ⟨g,0,none⟩)) (hq:tmps.getD q undef=.pointer (some ⟨g2,0,none⟩)) (hr:tmps.getD r undef=v)
  (hl:(loadVar ty ⟨g,0,none⟩).run Tryz.prog w=.ok (.agg cs) w) (hl2:(loadVar ty2 ⟨g2,0,none⟩).run Tryz.prog w=.ok (.agg cs2) w) :
  (results fn tmps).run Tryz.prog w=.ok (.tuple #[.agg cs,.agg cs2,v]) w:=by
 have hp':tmps[p]?.getD undef=.pointer (some ⟨g,0,none⟩):=by simpa using hp
 have hq':tmps[q]?.getD undef=.pointer (some ⟨g2,0,none⟩):=by simpa using hq
 have hr':tmps[r]?.getD undef=v:=by simpa using hr
 simp [results,h,hp',hq',hr',asAddr,hl,hl2]
theorem str4_size:(Tryz.prog.info? 52).map (·.size)=some 4:=by kernel_rfl
def CutEnd (C:Ct) (w:World) (e:Ending) (w':World):Prop:=e=.returned (.tuple #[.agg (cH C.h),.agg (pArr C.p),.int .i64 C.err])∧Below w.heap.size w w'
theorem load_pt {w:World} {g:Nat} {T:TypeId} {a b c d:ByteArray} (H:w.heap[g]?=some (.cells #[.string a,.string b,.string c,.string d] T (0,0))):(loadVar 52 ⟨g,0,none⟩).run Tryz.prog w=.ok (.agg #[.string a,.string b,.string c,.string d]) w:=run_loadVar_row w g T _ _ (0,0) _ H Tryz.underlying52 rfl str4_size
theorem cut_bad {t:ByteArray} (h:(decH (blCc t)).2≠0):cutNCc t=⟨zeroH,zeroPt,(decH (blCc t)).2⟩:=by unfold cutNCc;rw [if_pos h]
theorem cut_out {t:ByteArray} {X:Hd} (h:decH (blCc t)=(X,0)) (ho:outOf X t.size):cutNCc t=⟨zeroH,zeroPt,8⟩:=by unfold cutNCc;rw [h,if_neg (by simp),if_pos ho]
theorem cut_ok {t:ByteArray} {X:Hd} (h:decH (blCc t)=(X,0)) (ho:¬ outOf X t.size):cutNCc t=⟨X,⟨bitK t X 0,bitK t X 1,bitK t X 2,bitK t X 3⟩,0⟩:=by unfold cutNCc;rw [h,if_neg (by simp),if_neg ho];rfl
end Go.Proofs.YtdnmgpcfgcidbaaGreatDoor
namespace Go.Proofs.YtdnmgpcfgcidbaaGreatDoor
set_option linter.unusedVariables false
set_option linter.unusedSimpArgs false
open Go.RowKit
set_option maxRecDepth 20000
theorem mid_of (a b c:ByteArray) (f l:Int) (hf:f=a.size) (hl:l=b.size):bitN (a++b++c) f l=b:=by
 unfold bitN
 have h1:f.toNat=a.size:=by omega
 have h2:l.toNat=b.size:=by omega
 rw [h1,h2]
 apply ByteArray.ext
 apply Array.toList_inj.1
 rw [ByteArray.data_extract,Array.toList_extract,ByteArray.data_append,ByteArray.data_append,Array.toList_append,Array.toList_append]
 have ha:a.data.toList.length=a.size:=rfl
 have hb:b.data.toList.length=b.size:=rfl
 rw [List.extract_eq_take_drop,List.append_assoc,← ha,List.drop_left,show a.data.toList.length+b.size-a.data.toList.length=b.data.toList.length by omega,List.take_left]
def hdOf (h:Hd) (p:Pt):Hd:=withN h (secOf p).sec
def sumP (p:Pt):Nat:=p.p0.size+p.p1.size+p.p2.size+p.p3.size
theorem glue_ok {h:Hd} {p:Pt} (e:(glueN h p).2=0):ckH (hdOf h p)=0∧(glueN h p).1=str (bytsH (hdOf h p))++p.p0++p.p1++p.p2++p.p3:=by
 unfold glueN at e ⊢
 split at e
 ·rename_i h1;exact absurd e h1
 split at e
 ·rename_i h2;exact absurd e h2
 rename_i h1 h2
 rw [if_neg h1,if_neg h2]
 have h3:=Classical.not_not.1 h2
 have hc:ckH (withN h (secOf p).sec)=0:=by
  unfold encH at h3
  split at h3
  ·assumption
  ·exact h3
 refine ⟨hc,?_⟩
 unfold encH hdOf
 rw [if_pos hc]
theorem hd_may {h:Hd} {p:Pt} (hm:MayH h) (hp:Few p 200000000):MayH (hdOf h p):=with_may hm (mayS_few hp)
theorem glue_size {h:Hd} {p:Pt} (hm:MayH h) (hp:Few p 200000000) (e:(glueN h p).2=0):(glueN h p).1.size=127+sumP p:=by
 obtain ⟨hc,hs⟩:=glue_ok e
 rw [hs]
 simp only [ByteArray.size_append,str_size,bytsH_len _ (hd_may hm hp) hc,sumP]
 omega
theorem hd_secs {h:Hd} {p:Pt} (hp:Few p 200000000):(hdOf h p).rf=127∧(hdOf h p).rl=p.p0.size∧(hdOf h p).mf=127+p.p0.size∧(hdOf h p).ml=p.p1.size∧(hdOf h p).lf=127+p.p0.size+p.p1.size∧(hdOf h p).ll=p.p2.size ∧
  (hdOf h p).df=127+p.p0.size+p.p1.size+p.p2.size∧(hdOf h p).dl=p.p3.size:=by
 unfold hdOf
 rw [sec_few hp]
 exact ⟨rfl,rfl,rfl,rfl,rfl,rfl,rfl,rfl⟩
theorem dec_glue {h:Hd} {p:Pt} (hm:MayH h) (hc:ckH (hdOf h p)=0) (hp:Few p 200000000) (r:List Int):decH (bytsH (hdOf h p)++r)=(hdOf h p,0):=dec_enc _ r (hd_may hm hp) hc
theorem cut_glue {h:Hd} {p:Pt} (hm:MayH h) (hp:Few p 200000000) (e:(glueN h p).2=0) (b:ByteArray):cutNCc ((glueN h p).1++b)=⟨hdOf h p,p,0⟩:=by
 have hz:=glue_size hm hp e
 obtain ⟨hc,hs⟩:=glue_ok e
 obtain ⟨s0,s1,s2,s3,s4,s5,s6,s7⟩:=hd_secs (h:=h) hp
 have hB:(str (bytsH (hdOf h p))).size=127:=by rw [str_size,bytsH_len _ (hd_may hm hp) hc]
 have hd:decH (blCc ((glueN h p).1++b))=(hdOf h p,0):=by
  rw [hs]
  simp only [bl_append,bl_str _ (bytsH_byts _),List.append_assoc]
  exact dec_glue hm hc hp _
 have ho:¬ outOf (hdOf h p) ((glueN h p).1++b).size:=by
  rw [ByteArray.size_append,hz]
  unfold outOf sumP
  omega
 rw [cut_ok hd ho]
 obtain ⟨p0,p1,p2,p3⟩:=p
 dsimp only at s0 s1 s2 s3 s4 s5 s6 s7
 generalize hX:hdOf h ⟨p0,p1,p2,p3⟩=X at *
 have b0:bitK ((glueN h ⟨p0,p1,p2,p3⟩).1++b) X 0=p0:=by
  rw [hs,show str (bytsH X)++p0++p1++p2++p3++b=str (bytsH X)++p0++(p1++p2++p3++b) by simp only [ByteArray.append_assoc]]
  exact mid_of _ _ _ _ _ (by rw [hB];exact s0) s1
 have b1:bitK ((glueN h ⟨p0,p1,p2,p3⟩).1++b) X 1=p1:=by
  rw [hs,show str (bytsH X)++p0++p1++p2++p3++b=(str (bytsH X)++p0)++p1++(p2++p3++b) by simp only [ByteArray.append_assoc]]
  exact mid_of _ _ _ _ _ (by rw [ByteArray.size_append,hB];show X.mf=_;omega) s3
 have b2:bitK ((glueN h ⟨p0,p1,p2,p3⟩).1++b) X 2=p2:=by
  rw [hs,show str (bytsH X)++p0++p1++p2++p3++b=(str (bytsH X)++p0++p1)++p2++(p3++b) by simp only [ByteArray.append_assoc]]
  exact mid_of _ _ _ _ _ (by simp only [ByteArray.size_append,hB];show X.lf=_;omega) s5
 have b3:bitK ((glueN h ⟨p0,p1,p2,p3⟩).1++b) X 3=p3:=by
  rw [hs]
  exact mid_of _ _ _ _ _ (by simp only [ByteArray.size_append,hB];show X.df=_;omega) s7
 rw [b0,b1,b2,b3]
theorem laid_glue {h:Hd} {p:Pt} (hm:MayH h) (hp:Few p 200000000) (e:(glueN h p).2=0):laidB (hdOf h p) (glueN h p).1.size=0:=by
 have hz:=glue_size hm hp e
 obtain ⟨hc,hs⟩:=glue_ok e
 obtain ⟨s0,s1,s2,s3,s4,s5,s6,s7⟩:=hd_secs (h:=h) hp
 rw [hz]
 unfold laidB sumP
 rw [if_neg (fun f=>f hc),if_neg (by omega),if_neg (by omega),if_neg (by omega),if_neg (by omega),if_neg (by omega)]
theorem end_glue {h:Hd} {p:Pt} (hm:MayH h) (hp:Few p 200000000) (e:(glueN h p).2=0):(hdOf h p).df+(hdOf h p).dl=(glueN h p).1.size:=by
 obtain ⟨s0,s1,s2,s3,s4,s5,s6,s7⟩:=hd_secs (h:=h) hp
 rw [glue_size hm hp e]
 unfold sumP
 omega
end Go.Proofs.YtdnmgpcfgcidbaaGreatDoor
namespace Go.Proofs.YtdnmgpcfgcidbaaGreatDoor
set_option linter.unusedVariables false
set_option linter.unusedSimpArgs false
open Go.RowKit
set_option maxRecDepth 100000
def Z24:Array Value:=#[.int .u64 0,.int .u64 0,.int .u64 0,.int .u64 0,.int .u64 0,.int .u64 0,.int .u64 0,.int .u64 0,.int .u64 0,.int .u64 0,.int .u64 0,.bool false,.int .u8 0,.int .u8 0,.int .u8 0,.int .i64 0,.int .i64 0,.int .i64 0,.int .i64 0,.int .i64 0,.int .i64 0,.int .i64 0,.int .i64 0,.int .i64 0]
def P4:Array Value:=#[.string { data:=#[] },.string { data:=#[] },.string { data:=#[] },.string { data:=#[] }]
theorem z24_one:Z24.all (·.oneCell')=true:=by simp [Z24,Value.oneCell']
theorem p4_one:P4.all (·.oneCell')=true:=by simp [P4,Value.oneCell']
theorem p4_size:(Tryz.prog.info? 52).map (·.size)=some P4.size:=str4_size
def PrAt (W:World) (b:Nat) (arr:Array Value):Prop:=W.heap[b]?=some (.cells arr 52 (0,0))
end Go.Proofs.YtdnmgpcfgcidbaaGreatDoor
