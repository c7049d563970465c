/- cMR cPa cPb cMV cYc cPc cPd. -/
import Derived.Test.YtjkgkmmkehnggaaGreatDoorYc3
import Derived.Test.YtjkgkmmkehnggaaGreatDoorYs
set_option maxHeartbeats 16000000
namespace Go.Proofs.YtjkgkmmkehnggaaGreatDoor
set_option linter.unusedVariables false
set_option linter.unusedSimpArgs false
open Go.RowKit
set_option maxRecDepth 20000
theorem xDl (g a:Nat):∀ i,i<1→(#[.pointer (some ⟨g,a,none⟩)]:Array Value)[i]?=some (.pointer (some ⟨g,a+i,none⟩)):=by
 intro i hi
 obtain rfl:i=0:=by omega
 rfl
theorem row2 (g a:Nat):∀ i,i<2→(#[.pointer (some ⟨g,a,none⟩),.pointer (some ⟨g,a+1,none⟩)]:Array Value)[i]?=some (.pointer (some ⟨g,a+i,none⟩)):=by
 intro i hi
 obtain rfl|rfl:i=0∨i=1:=by omega
 all_goals rfl
theorem xDw (g a:Nat):∀ i,i<3→(#[.pointer (some ⟨g,a,none⟩),.pointer (some ⟨g,a+1,none⟩),.pointer (some ⟨g,a+2,none⟩)]:Array Value)[i]?=some (.pointer (some ⟨g,a+i,none⟩)):=by
 intro i hi
 obtain rfl|rfl|rfl:i=0∨i=1∨i=2:=by omega
 all_goals rfl
theorem xDr (g a:Nat):∀ i,i<4→(#[.pointer (some ⟨g,a,none⟩),.pointer (some ⟨g,a+1,none⟩),.pointer (some ⟨g,a+2,none⟩),.pointer (some ⟨g,a+3,none⟩)]:Array Value)[i]?=some (.pointer (some ⟨g,a+i,none⟩)):=by
 intro i hi
 obtain rfl|rfl|rfl|rfl:i=0∨i=1∨i=2∨i=3:=by omega
 all_goals rfl
theorem xh8 {w w':World} {b o:Nat} (h:w'.heap[b]?=w.heap[b]?):w'.cell? ⟨b,o,none⟩=w.cell? ⟨b,o,none⟩:=by simp[World.cell?,h]
theorem FAt.cl {w wx:World} {t:ByteArray} {q c:Int} {T:Hd} {b:Bool} (h:FAt w wx t q (fF T) c) (hb:b=T.cl):FAt w (wx.setCell ⟨w.heap.size+2,11,none⟩ (.bool b)) t q T c:=by
 subst hb
 refine⟨(xaL (by omega)).trans h.1,(xaL (by omega)).trans h.2.1,?_,(xaL (by omega)).trans h.2.2.2.1,h.2.2.2.2.setCell (by show w.heap.size≤w.heap.size+2;omega) _⟩
 unfold HAt
 rw[← xCa T]
 exact xa4 h.2.2.1 _
theorem FAt.drew {w wx:World} {t:ByteArray} {q c:Int} {a:Hd} (h:FAt w wx t q a c):FAt w wx.drew t q a c:=⟨h.1,h.2.1,h.2.2.1,h.2.2.2.1,h.2.2.2.2.drew⟩
set_option maxRecDepth 20000 in
theorem xoQ (t:ByteArray) (w:World) (hm:t.size≤maxLen) (h:127≤t.size):Calls Tryz.prog 98 #[.agg #[.string t,.int .i64 8,.int .i64 0]] w fun e w'=>e=.returned (.tuple #[.agg (cH (xaN t)),.int .u8 (nmB t 96 1)])∧Below w.heap.size w w':=by
 have HL:=lH h;clear h
 have HM:=lH hm;clear hm
 have H0:=lH (xyy w t)
 go_enter Tryz.func98,Tryz.ntmps98
 go_wp2_with fail
 go_loopw [14] (fun i wr=>∃ k:Nat,k≤4∧i=.int .i64 k∧FAt w wr t ((8+16*k:Nat):Int) (uK (xaN t) k) 0∧(∀ j,j<4→wr.cell? ⟨w.heap.size+4,j,none⟩=some (.pointer (some ⟨w.heap.size+2,2*j,none⟩)))) (fun i _=>4 - (intOf i).toNat)
 case atStart =>
  obtain⟨hf,hr⟩:=H0.out (.cells #[.pointer (some ⟨w.heap.size+2,0,none⟩),.pointer (some ⟨w.heap.size+2,2,none⟩),.pointer (some ⟨w.heap.size+2,4,none⟩),.pointer (some ⟨w.heap.size+2,6,none⟩)] 278)
  refine⟨0,by omega,rfl,hf,fun j hj=>(xag (hr.trans (heap_alloc_new w _)) j).trans ?_⟩
  obtain rfl|rfl|rfl|rfl:j=0∨j=1∨j=2∨j=3:=by omega
  all_goals rfl
 case round =>
  obtain⟨k,hk,rfl,hF,hP⟩:=hrel
  by_cases hlt:k<4
  ·have hp:=hP k hlt
   obtain⟨s0,s1,s2,sf⟩:=hF.scan
   have hbig:w.heap.size<wr.heap.size:=by have:=hF.big;omega
   have HFd:=lH hF.drew
   have HP:=lH hP
   have hk1:((8+16*(k+1):Nat):Int)=((8+16*k+8*2:Nat):Int):=by omega
   have K6:=lH (fun(wx:World) (T:TypeId) (hh:FAt w wx t ((8+16*k:Nat):Int) (uK (xaN t) k) 0)=>xth (2*k) 2 #[.pointer (some ⟨w.heap.size+2,2*k,none⟩),.pointer (some ⟨w.heap.size+2,2*k+1,none⟩)] T hh HM.out (by omega) (by omega) (by have:=HL.out;omega) (row2 _ _) (xA6 t k hlt))
   rw[← hk1] at K6
   clear hF hP hk1
   obtain⟨q,hq⟩:∃ q,8+16*k=q:=⟨_,rfl⟩
   obtain⟨r,hr⟩:∃ r,8+16*(k+1)=r:=⟨_,rfl⟩
   rw[hq,hr] at K6
   rw[hq] at HFd s1
   have HR:=lH hr
   clear hq hr
   go_upto_region 6 with fail
   go_region_with (first|(go_at_call 173;refine(K6.out _ _ HFd.out).mono ?_;rintro e w' ⟨rfl,hF2,hO2⟩;obtain⟨r0,r1,r2,rf⟩:=hF2.scan))
   all_goals
    go_wp2_with fail
    go_roundw
    case rel =>
     have h4:w.heap.size+4<wr.heap.size:=xmB hp
     refine⟨k+1,by omega,by go_num,by rw[HR.out];exact hF2.on,fun j hj=>?_⟩
     rw[xb6 _ (by simp),xb6 _ (by simp),xb6 _ (by simp)]
     exact(xh8 (hO2 _ h4 (by omega))).trans (HP.out j hj)
    case measure=>simp[intOf];omega
  ·obtain rfl:k=4:=by omega
   have hF:FAt w wr t 72 (uK (xaN t) 4) 0:=hF
   clear hP hlt hk H0
   have HCl:=lH (xxN t)
   have HFG:=lH (fun(wx:World) (q c:Int) (h:FAt w wx t q (fF (xaN t)) c) (b:Bool) (hb:b=(xaN t).cl)=>h.cl hb)
   have K8:Hid (∀ (wx:World) (T:TypeId),FAt w wx t 72 (uK (xaN t) 4) 0→Calls Tryz.prog 173 #[.agg #[.string t,.int .i64 72,.int .i64 0],.int .i64 8,.slice (some ⟨wx.heap.size,0,none⟩) 3 3] (wx.alloc (.cells #[.pointer (some ⟨w.heap.size+2,8,none⟩),.pointer (some ⟨w.heap.size+2,9,none⟩),.pointer (some ⟨w.heap.size+2,10,none⟩)] T)) fun e w'=>e=.returned (.agg #[.string t,.int .i64 96,.int .i64 0])∧FAt w w' t 72 (fA (xaN t)) 0):=lH (fun wx T hh=>(xth (q:=72) 8 3 _ T hh HM.out (by omega) (by omega) (by have:=HL.out;omega) (xDw _ 8) (xAX t)).mono fun e w' h=>⟨h.1,h.2.1⟩)
   obtain⟨s0,s1,s2,sf⟩:=hF.scan
   have HF:=lH hF
   clear hF
   go_upto_region 8 with fail
   go_cut [] (fun wx=>FAt w wx t 96 (fA (xaN t)) 0)
   case first =>
    go_wp2_with fail
    refine(K8.out _ _ HF.out).mono ?_
    rintro e w' ⟨rfl,hF2⟩
    obtain⟨r0,r1,r2,rf⟩:=hF2.scan
    have HF2:=lH hF2
    clear hF2
    go_wp2_with fail
    go_meet
    case rel=>exact HF2.out.on
   case rest =>
   have hF:=hcut
   clear hcut HF K8 s0 s1 s2 sf
   generalize wc=w8 at *
   have K9:Hid (∀ (wx:World) (T:TypeId),FAt w wx t 96 (fA (xaN t)) 0→Calls Tryz.prog 174 #[.agg #[.string t,.int .i64 96,.int .i64 0],.int .i64 1,.slice (some ⟨wx.heap.size,0,none⟩) 4 4] (wx.alloc (.cells #[.pointer (some ⟨w.heap.size+3,0,none⟩),.pointer (some ⟨w.heap.size+2,12,none⟩),.pointer (some ⟨w.heap.size+2,13,none⟩),.pointer (some ⟨w.heap.size+2,14,none⟩)] T)) fun e w'=>e=.returned (.agg #[.string t,.int .i64 100,.int .i64 0])∧FAt w w' t 96 (fB (xaN t)) (nmB t 96 1)):=lH (fun wx T hh=>xx8 T hh HM.out (by have:=HL.out;omega) (xBR t))
   obtain⟨s0,s1,s2,sf⟩:=hF.scan
   have HF:=lH hF
   clear hF
   go_upto_region 9 with fail
   go_cut [] (fun wx=>FAt w wx t 100 (fB (xaN t)) (nmB t 96 1))
   case first =>
    go_wp2_with fail
    refine(K9.out _ _ HF.out).mono ?_
    rintro e w' ⟨rfl,hF2⟩
    obtain⟨r0,r1,r2,rf⟩:=hF2.scan
    have HF2:=lH hF2
    clear hF2
    go_wp2_with fail
    go_meet
    case rel=>exact HF2.out.on
   case rest =>
   have hF:=hcut
   clear hcut HF K9 s0 s1 s2 sf
   generalize wc=w9 at *
   have K10:Hid (∀ (wx:World) (T:TypeId),FAt w wx t 100 (fB (xaN t)) (nmB t 96 1)→Calls Tryz.prog 175 #[.agg #[.string t,.int .i64 100,.int .i64 0],.int .i64 1,.slice (some ⟨wx.heap.size,0,none⟩) 2 2] (wx.alloc (.cells #[.pointer (some ⟨w.heap.size+2,15,none⟩),.pointer (some ⟨w.heap.size+2,16,none⟩)] T)) fun e w'=>e=.returned (.agg #[.string t,.int .i64 102,.int .i64 0])∧FAt w w' t 100 (fC (xaN t)) (nmB t 96 1)):=lH (fun wx T hh=>(xrm (q:=100) 15 2 _ T hh HM.out (by omega) (by omega) (by have:=HL.out;omega) (row2 _ 15) (xAR t)))
   obtain⟨s0,s1,s2,sf⟩:=hF.scan
   have HF:=lH hF
   clear hF
   go_upto_region 10 with fail
   go_cut [] (fun wx=>FAt w wx t 102 (fC (xaN t)) (nmB t 96 1))
   case first =>
    go_wp2_with fail
    refine(K10.out _ _ HF.out).mono ?_
    rintro e w' ⟨rfl,hF2⟩
    obtain⟨r0,r1,r2,rf⟩:=hF2.scan
    have HF2:=lH hF2
    clear hF2
    go_wp2_with fail
    go_meet
    case rel=>exact HF2.out.on
   case rest =>
   have hF:=hcut
   clear hcut HF K10 s0 s1 s2 sf
   generalize wc=w10 at *
   have K11:Hid (∀ (wx:World) (T:TypeId),FAt w wx t 102 (fC (xaN t)) (nmB t 96 1)→Calls Tryz.prog 176 #[.agg #[.string t,.int .i64 102,.int .i64 0],.slice (some ⟨wx.heap.size,0,none⟩) 4 4] (wx.alloc (.cells #[.pointer (some ⟨w.heap.size+2,17,none⟩),.pointer (some ⟨w.heap.size+2,18,none⟩),.pointer (some ⟨w.heap.size+2,19,none⟩),.pointer (some ⟨w.heap.size+2,20,none⟩)] T)) fun e w'=>e=.returned (.agg #[.string t,.int .i64 118,.int .i64 0])∧FAt w w' t 102 (fD (xaN t)) (nmB t 96 1)):=lH (fun wx T hh=>(xks (q:=102) 17 4 _ T hh HM.out (by omega) (by omega) (by have:=HL.out;omega) (xDr _ 17) (xBf t)))
   obtain⟨s0,s1,s2,sf⟩:=hF.scan
   have HF:=lH hF
   clear hF
   go_upto_region 11 with fail
   go_cut [] (fun wx=>FAt w wx t 118 (fD (xaN t)) (nmB t 96 1))
   case first =>
    go_wp2_with fail
    refine(K11.out _ _ HF.out).mono ?_
    rintro e w' ⟨rfl,hF2⟩
    obtain⟨r0,r1,r2,rf⟩:=hF2.scan
    have HF2:=lH hF2
    clear hF2
    go_wp2_with fail
    go_meet
    case rel=>exact HF2.out.on
   case rest =>
   have hF:=hcut
   clear hcut HF K11 s0 s1 s2 sf
   generalize wc=w11 at *
   have K12:Hid (∀ (wx:World) (T:TypeId),FAt w wx t 118 (fD (xaN t)) (nmB t 96 1)→Calls Tryz.prog 175 #[.agg #[.string t,.int .i64 118,.int .i64 0],.int .i64 1,.slice (some ⟨wx.heap.size,0,none⟩) 1 1] (wx.alloc (.cells #[.pointer (some ⟨w.heap.size+2,21,none⟩)] T)) fun e w'=>e=.returned (.agg #[.string t,.int .i64 119,.int .i64 0])∧FAt w w' t 118 (fE (xaN t)) (nmB t 96 1)):=lH (fun wx T hh=>(xrm (q:=118) 21 1 _ T hh HM.out (by omega) (by omega) (by have:=HL.out;omega) (xDl _ 21) (xAY t)))
   obtain⟨s0,s1,s2,sf⟩:=hF.scan
   have HF:=lH hF
   clear hF
   go_upto_region 12 with fail
   go_cut [] (fun wx=>FAt w wx t 119 (fE (xaN t)) (nmB t 96 1))
   case first =>
    go_wp2_with fail
    refine(K12.out _ _ HF.out).mono ?_
    rintro e w' ⟨rfl,hF2⟩
    obtain⟨r0,r1,r2,rf⟩:=hF2.scan
    have HF2:=lH hF2
    clear hF2
    go_wp2_with fail
    go_meet
    case rel=>exact HF2.out.on
   case rest =>
   have hF:=hcut
   clear hcut HF K12 s0 s1 s2 sf
   generalize wc=w12 at *
   have K13:Hid (∀ (wx:World) (T:TypeId),FAt w wx t 119 (fE (xaN t)) (nmB t 96 1)→Calls Tryz.prog 176 #[.agg #[.string t,.int .i64 119,.int .i64 0],.slice (some ⟨wx.heap.size,0,none⟩) 2 2] (wx.alloc (.cells #[.pointer (some ⟨w.heap.size+2,22,none⟩),.pointer (some ⟨w.heap.size+2,23,none⟩)] T)) fun e w'=>e=.returned (.agg #[.string t,.int .i64 127,.int .i64 0])∧FAt w w' t 119 (fF (xaN t)) (nmB t 96 1)):=lH (fun wx T hh=>(xks (q:=119) 22 2 _ T hh HM.out (by omega) (by omega) (by have:=HL.out;omega) (row2 _ 22) (xA5 t)))
   obtain⟨s0,s1,s2,sf⟩:=hF.scan
   have HF:=lH hF
   clear hF
   go_upto_region 13 with fail
   go_cut [] (fun wx=>FAt w wx t 119 (fF (xaN t)) (nmB t 96 1))
   case first =>
    go_wp2_with fail
    refine(K13.out _ _ HF.out).mono ?_
    rintro e w' ⟨rfl,hF2⟩
    obtain⟨r0,r1,r2,rf⟩:=hF2.scan
    have HF2:=lH hF2
    clear hF2
    go_wp2_with fail
    go_meet
    case rel=>exact HF2.out
   case rest =>
   have hF:=hcut
   clear hcut HF K13 s0 s1 s2 sf
   generalize wc=w13 at *
   obtain⟨x,hx⟩:∃ x,nmB t 96 1=x:=⟨_,rfl⟩
   rw[hx] at hF HCl
   have HX:=lH hx
   clear hx
   have e11:=xCQ hF.2.2.1
   have c0:w13.cell? ⟨w.heap.size+3,0,none⟩=some (.int .u8 x):=xag hF.2.2.2.1 0
   have gf:∀ o,w13.frozen? ⟨w.heap.size+2,o,none⟩=false:=fun o=>by have:=hF.2.2.1;unfold HAt at this;simp[World.frozen?,this]
   have HF:=lH hF
   clear hF
   go_upto_region 14 with fail
   go_cut [] (fun wx=>FAt w wx t 119 (xaN t) x)
   case first =>
    go_wp2_with fail
    go_meet
    case rel=>exact HFG.out _ _ _ HF.out _ HCl.out.symm
   case rest =>
   have hF:=hcut
   clear hcut HF HFG HCl e11 c0 gf
   generalize wc=w14 at *
   obtain⟨T,hT⟩:∃ T,xaN t=T:=⟨_,rfl⟩
   rw[hT] at hF
   have HT:=lH hT
   clear hT
   have c0:w14.cell? ⟨w.heap.size+3,0,none⟩=some (.int .u8 x):=xag hF.2.2.2.1 0
   have HF:=lH hF
   clear hF
   go_upto_region 15 with fail
   go_cut [3] (fun y wx=>y=.int .u8 x∧HAt wx (w.heap.size+1) 93 T∧Below w.heap.size w wx)
   case first =>
    refine wp_region_any (by kernel_rfl) ?_
    change wpAny _ _ _ _ _ _ _ (World.drew _)
    have hR:HAt w14.drew (w.heap.size+1) 93 xae:=HF.out.2.1
    have hA:HAt w14.drew (w.heap.size+2) 93 T:=HF.out.2.2.1
    have hU:Below w.heap.size w w14.drew:=HF.out.2.2.2.2.drew
    have HP:=xww w14.drew (w.heap.size+1) 93 xae T hR
    refine wpAny_ready (rs:=[0,1]) (by kernel_rfl) (by simp) ?_
    refine AllReady.cons rfl (fun K hK=>?_) (AllReady.cons rfl (fun K hK=>?_) AllReady.nil)
    ·rw[if_pos (by rfl)]
     refine wp_load_row 93 _ rfl (w.heap.size+2) rfl 93 (cH T) (0,0) _ hA Tryz.underlying93 rfl xaP (hK _ _ ?_)
     clear hK K
     try simp only[Act.put,zsA,zsB,zsC]
     refine wpAny_ready (rs:=[1,2]) (by kernel_rfl) (by simp) ?_
     refine AllReady.cons rfl (fun K hK=>?_) (AllReady.cons rfl (fun K hK=>?_) AllReady.nil)
     ·go_simp
      refine hK _ _ ?_
      clear hK K
      try simp only[Act.put,zsA,zsB,zsC]
      refine wpAny_ready (rs:=[2]) (by kernel_rfl) (by simp) ?_
      refine AllReady.cons rfl (fun K hK=>?_) AllReady.nil
      rw[if_pos (by rfl)]
      refine wp_store_row 93 _ _ rfl (w.heap.size+1) (cH T) rfl rfl 93 (cH xae) hR xaP rfl (xhw T) (hK _ _ ?_)
      clear hK K
      generalize w14.drew.setRow (w.heap.size+1) (cH T)=w15 at HP ⊢
      have c0:w15.cell? ⟨w.heap.size+3,0,none⟩=some (.int .u8 x):=(xh8 (HP.2.2.2 _ (by omega))).trans c0
      try simp only[Act.put,zsA,zsB,zsC]
      refine wpAny_ready (rs:=[3]) (by kernel_rfl) (by simp) ?_
      refine AllReady.cons rfl (fun K hK=>?_) AllReady.nil
      go_simp
      refine hK _ _ ?_
      clear hK K
      try simp only[Act.put,zsA,zsB,zsC]
      refine wpAny_done (by kernel_rfl) ?_ _
      go_wp2_with fail
      go_meet
      case rel=>exact⟨rfl,HP.1,HP.2.2.1 _ _ (by omega) hU⟩
     ·rw[if_pos (by rfl)]
      refine wp_store_row 93 _ _ rfl (w.heap.size+1) (cH T) rfl rfl 93 (cH xae) hR xaP rfl (xhw T) (hK _ _ ?_)
      clear hK K
      generalize w14.drew.setRow (w.heap.size+1) (cH T)=w15 at HP ⊢
      have c0:w15.cell? ⟨w.heap.size+3,0,none⟩=some (.int .u8 x):=(xh8 (HP.2.2.2 _ (by omega))).trans c0
      try simp only[Act.put,zsA,zsB,zsC]
      refine wpAny_ready (rs:=[1]) (by kernel_rfl) (by simp) ?_
      refine AllReady.cons rfl (fun K hK=>?_) AllReady.nil
      go_simp
      refine hK _ _ ?_
      clear hK K
      try simp only[Act.put,zsA,zsB,zsC]
      refine wpAny_ready (rs:=[3]) (by kernel_rfl) (by simp) ?_
      refine AllReady.cons rfl (fun K hK=>?_) AllReady.nil
      go_simp
      refine hK _ _ ?_
      clear hK K
      try simp only[Act.put,zsA,zsB,zsC]
      refine wpAny_done (by kernel_rfl) ?_ _
      go_wp2_with fail
      go_meet
      case rel=>exact⟨rfl,HP.1,HP.2.2.1 _ _ (by omega) hU⟩
    ·go_simp
     refine hK _ _ ?_
     clear hK K
     try simp only[Act.put,zsA,zsB,zsC]
     refine wpAny_ready (rs:=[0]) (by kernel_rfl) (by simp) ?_
     refine AllReady.cons rfl (fun K hK=>?_) AllReady.nil
     rw[if_pos (by rfl)]
     refine wp_load_row 93 _ rfl (w.heap.size+2) rfl 93 (cH T) (0,0) _ hA Tryz.underlying93 rfl xaP (hK _ _ ?_)
     clear hK K
     try simp only[Act.put,zsA,zsB,zsC]
     refine wpAny_ready (rs:=[2]) (by kernel_rfl) (by simp) ?_
     refine AllReady.cons rfl (fun K hK=>?_) AllReady.nil
     rw[if_pos (by rfl)]
     refine wp_store_row 93 _ _ rfl (w.heap.size+1) (cH T) rfl rfl 93 (cH xae) hR xaP rfl (xhw T) (hK _ _ ?_)
     clear hK K
     generalize w14.drew.setRow (w.heap.size+1) (cH T)=w15 at HP ⊢
     have c0:w15.cell? ⟨w.heap.size+3,0,none⟩=some (.int .u8 x):=(xh8 (HP.2.2.2 _ (by omega))).trans c0
     try simp only[Act.put,zsA,zsB,zsC]
     refine wpAny_ready (rs:=[3]) (by kernel_rfl) (by simp) ?_
     refine AllReady.cons rfl (fun K hK=>?_) AllReady.nil
     go_simp
     refine hK _ _ ?_
     clear hK K
     try simp only[Act.put,zsA,zsB,zsC]
     refine wpAny_done (by kernel_rfl) ?_ _
     go_wp2_with fail
     go_meet
     case rel=>exact⟨rfl,HP.1,HP.2.2.1 _ _ (by omega) hU⟩
   case rest =>
    obtain⟨rfl,hA,hU⟩:=hcut
    have HH:=lH (And.intro hA hU)
    clear hA hU
    go_wp2_with fail
    refine bodyPost_ret (v:=.tuple #[.agg (cH T),.int .u8 x]) (xba Tryz.results98 _ _ _ _ _ _ rfl rfl HH.out.1) rfl ⟨by rw[HT.out,HX.out],HH.out.2⟩
end Go.Proofs.YtjkgkmmkehnggaaGreatDoor
namespace Go.Proofs.YtjkgkmmkehnggaaGreatDoor
set_option linter.unusedVariables false
set_option linter.unusedSimpArgs false
open Go.RowKit
set_option maxRecDepth 100000
theorem xqr:Tryz.t9.size=1:=by kernel_rfl
theorem xsg:Tryz.t44.size=1:=by kernel_rfl
theorem xkL (c0 c1 c2 c3:Value) (W:World) :
  Sem.run Tryz.prog (Instr.index 95 (.agg #[c0,c1,c2,c3]) (.int .i64 0)) W=.ok c0 W ∧
  Sem.run Tryz.prog (Instr.index 95 (.agg #[c0,c1,c2,c3]) (.int .i64 1)) W=.ok c1 W ∧
  Sem.run Tryz.prog (Instr.index 95 (.agg #[c0,c1,c2,c3]) (.int .i64 2)) W=.ok c2 W ∧
  Sem.run Tryz.prog (Instr.index 95 (.agg #[c0,c1,c2,c3]) (.int .i64 3)) W=.ok c3 W:=by
 refine⟨?_,?_,?_,?_⟩ <;> simp[Instr.index,run_underlying Tryz.underlying95,asIntOf,part,sizeOf,xqr,go_sem]
theorem xcJ (c0 c1 c2 c3:Value) (W:World) :
  Sem.run Tryz.prog (Instr.index 168 (.agg #[c0,c1,c2,c3]) (.int .i64 0)) W=.ok c0 W ∧
  Sem.run Tryz.prog (Instr.index 168 (.agg #[c0,c1,c2,c3]) (.int .i64 1)) W=.ok c1 W ∧
  Sem.run Tryz.prog (Instr.index 168 (.agg #[c0,c1,c2,c3]) (.int .i64 2)) W=.ok c2 W ∧
  Sem.run Tryz.prog (Instr.index 168 (.agg #[c0,c1,c2,c3]) (.int .i64 3)) W=.ok c3 W:=by
 refine⟨?_,?_,?_,?_⟩ <;> simp[Instr.index,run_underlying Tryz.underlying168,asIntOf,part,sizeOf,xsg,go_sem]
theorem xpu (p:Pt) (w:World) (hp:Few p 200000000):Calls Tryz.prog 82 #[.agg (xB9 p)] w fun e w'=>e=.returned (.agg #[.int .u64 p.p0.size,.int .u64 p.p1.size,.int .u64 p.p2.size,.int .u64 p.p3.size])∧Below w.heap.size w w':=by
 obtain⟨p0,p1,p2,p3⟩:=p
 obtain⟨l0,l1,l2,l3⟩:=hp
 dsimp only at l0 l1 l2 l3
 have w0:IntKind.u64.wrap (p0.size:Int)=(p0.size:Int):=by rw[IntKind.wrap_u64];omega
 have w1:IntKind.u64.wrap (p1.size:Int)=(p1.size:Int):=by rw[IntKind.wrap_u64];omega
 have w2:IntKind.u64.wrap (p2.size:Int)=(p2.size:Int):=by rw[IntKind.wrap_u64];omega
 have w3:IntKind.u64.wrap (p3.size:Int)=(p3.size:Int):=by rw[IntKind.wrap_u64];omega
 have i0:=fun W=>(xkL (.string p0) (.string p1) (.string p2) (.string p3) W).1
 have i1:=fun W=>(xkL (.string p0) (.string p1) (.string p2) (.string p3) W).2.1
 have i2:=fun W=>(xkL (.string p0) (.string p1) (.string p2) (.string p3) W).2.2.1
 have i3:=fun W=>(xkL (.string p0) (.string p1) (.string p2) (.string p3) W).2.2.2
 clear l0 l1 l2 l3
 unfold xB9
 go_enter Tryz.func82,Tryz.ntmps82
 go_wp2_with fail
 refine wp_loop_rounds 5 ?_
 rw[rounds_succ]
 go_wp2_with fail
 rw[rounds_succ]
 go_wp2_with fail
 rw[rounds_succ]
 go_wp2_with fail
 rw[rounds_succ]
 go_wp2_with fail
 rw[rounds_succ]
 go_wp2_with fail
 refine bodyPost_ret (v:=.agg #[.int .u64 p0.size,.int .u64 p1.size,.int .u64 p2.size,.int .u64 p3.size]) (by simp[results,Tryz.results82,go_sem]) rfl ⟨rfl,by go_grown⟩
theorem xa0 (f l s:Int) (w:World) (hs:IntKind.u64.wrap (f+l)=s):Calls Tryz.prog 101 #[.agg #[.int .u64 f,.int .u64 l]] w fun e w'=>e=.returned (.int .u64 s)∧w'=w.alloc (.cells #[.int .u64 f,.int .u64 l] 91):=by
 subst hs
 go_enter Tryz.func101,Tryz.ntmps101
 go_wp2_with fail
 go_ret
 exact⟨rfl,rfl⟩
theorem xpz (a b c d:Int) (w:World)  (hx:1099511627776<127+a) :
  Calls Tryz.prog 81 #[.agg #[.int .u64 a,.int .u64 b,.int .u64 c,.int .u64 d]] w (xdc ⟨xeT,0,8⟩ w):=by
 unfold xdc xlq xeT
 have g0:(1099511627649:Int)<a:=by omega
 clear  hx
 have i0:=fun W=>(xcJ (.int .u64 a) (.int .u64 b) (.int .u64 c) (.int .u64 d) W).1
 have i1:=fun W=>(xcJ (.int .u64 a) (.int .u64 b) (.int .u64 c) (.int .u64 d) W).2.1
 have i2:=fun W=>(xcJ (.int .u64 a) (.int .u64 b) (.int .u64 c) (.int .u64 d) W).2.2.1
 have i3:=fun W=>(xcJ (.int .u64 a) (.int .u64 b) (.int .u64 c) (.int .u64 d) W).2.2.2
 go_enter Tryz.func81,Tryz.ntmps81
 go_wp2_with fail
 refine wp_loop_rounds 5 ?_
 rw[rounds_succ]
 go_wp2_with fail
 refine bodyPost_ret (v:=.tuple #[.agg #[.int .u64 0,.int .u64 0,.int .u64 0,.int .u64 0,.int .u64 0,.int .u64 0,.int .u64 0,.int .u64 0],.int .u64 0,.int .i64 8]) (by simp[results,Tryz.results81,go_sem]) rfl ⟨rfl,by go_grown⟩
theorem xoY (a b c d:Int) (w:World) (ha:0≤a) (hs:127+a≤1099511627776) (hx:1099511627776<127+a+b) :
  Calls Tryz.prog 81 #[.agg #[.int .u64 a,.int .u64 b,.int .u64 c,.int .u64 d]] w (xdc ⟨xeT,0,8⟩ w):=by
 unfold xdc xlq xeT
 have g0:¬ (1099511627649:Int)<a:=by omega
 have v1:IntKind.u64.wrap (1099511627776 - (127+a))=1099511627776 - (127+a):=by rw[IntKind.wrap_u64];omega
 have g1:(1099511627776 - (127+a):Int)<b:=by omega
 have w1:IntKind.u64.wrap (127+a)=127+a:=by rw[IntKind.wrap_u64];omega
 have HE0:=lH (fun W=>xa0 (127) a (127+a) W w1)
 clear ha hs hx
 have i0:=fun W=>(xcJ (.int .u64 a) (.int .u64 b) (.int .u64 c) (.int .u64 d) W).1
 have i1:=fun W=>(xcJ (.int .u64 a) (.int .u64 b) (.int .u64 c) (.int .u64 d) W).2.1
 have i2:=fun W=>(xcJ (.int .u64 a) (.int .u64 b) (.int .u64 c) (.int .u64 d) W).2.2.1
 have i3:=fun W=>(xcJ (.int .u64 a) (.int .u64 b) (.int .u64 c) (.int .u64 d) W).2.2.2
 go_enter Tryz.func81,Tryz.ntmps81
 go_wp2_with fail
 refine wp_loop_rounds 5 ?_
 rw[rounds_succ]
 go_wp2_with fail
 refine(HE0.out _).mono ?_
 rintro e w' ⟨rfl,rfl⟩
 go_wp2_with fail
 rw[rounds_succ]
 go_wp2_with fail
 refine bodyPost_ret (v:=.tuple #[.agg #[.int .u64 0,.int .u64 0,.int .u64 0,.int .u64 0,.int .u64 0,.int .u64 0,.int .u64 0,.int .u64 0],.int .u64 0,.int .i64 8]) (by simp[results,Tryz.results81,go_sem]) rfl ⟨rfl,by go_grown⟩
theorem xpC (a b c d:Int) (w:World) (ha:0≤a) (hb:0≤b) (hs:127+a+b≤1099511627776) (hx:1099511627776<127+a+b+c) :
  Calls Tryz.prog 81 #[.agg #[.int .u64 a,.int .u64 b,.int .u64 c,.int .u64 d]] w (xdc ⟨xeT,0,8⟩ w):=by
 unfold xdc xlq xeT
 have g0:¬ (1099511627649:Int)<a:=by omega
 have v1:IntKind.u64.wrap (1099511627776 - (127+a))=1099511627776 - (127+a):=by rw[IntKind.wrap_u64];omega
 have g1:¬ (1099511627776 - (127+a):Int)<b:=by omega
 have v2:IntKind.u64.wrap (1099511627776 - (127+a+b))=1099511627776 - (127+a+b):=by rw[IntKind.wrap_u64];omega
 have g2:(1099511627776 - (127+a+b):Int)<c:=by omega
 have w1:IntKind.u64.wrap (127+a)=127+a:=by rw[IntKind.wrap_u64];omega
 have w2:IntKind.u64.wrap (127+a+b)=127+a+b:=by rw[IntKind.wrap_u64];omega
 have HE0:=lH (fun W=>xa0 (127) a (127+a) W w1)
 have HE1:=lH (fun W=>xa0 (127+a) b (127+a+b) W w2)
 clear ha hb hs hx
 have i0:=fun W=>(xcJ (.int .u64 a) (.int .u64 b) (.int .u64 c) (.int .u64 d) W).1
 have i1:=fun W=>(xcJ (.int .u64 a) (.int .u64 b) (.int .u64 c) (.int .u64 d) W).2.1
 have i2:=fun W=>(xcJ (.int .u64 a) (.int .u64 b) (.int .u64 c) (.int .u64 d) W).2.2.1
 have i3:=fun W=>(xcJ (.int .u64 a) (.int .u64 b) (.int .u64 c) (.int .u64 d) W).2.2.2
 go_enter Tryz.func81,Tryz.ntmps81
 go_wp2_with fail
 refine wp_loop_rounds 5 ?_
 rw[rounds_succ]
 go_wp2_with fail
 refine(HE0.out _).mono ?_
 rintro e w' ⟨rfl,rfl⟩
 go_wp2_with fail
 rw[rounds_succ]
 go_wp2_with fail
 refine(HE1.out _).mono ?_
 rintro e w' ⟨rfl,rfl⟩
 go_wp2_with fail
 rw[rounds_succ]
 go_wp2_with fail
 refine bodyPost_ret (v:=.tuple #[.agg #[.int .u64 0,.int .u64 0,.int .u64 0,.int .u64 0,.int .u64 0,.int .u64 0,.int .u64 0,.int .u64 0],.int .u64 0,.int .i64 8]) (by simp[results,Tryz.results81,go_sem]) rfl ⟨rfl,by go_grown⟩
theorem xpE (a b c d:Int) (w:World) (ha:0≤a) (hb:0≤b) (hc:0≤c) (hs:127+a+b+c≤1099511627776) (hx:1099511627776<127+a+b+c+d) :
  Calls Tryz.prog 81 #[.agg #[.int .u64 a,.int .u64 b,.int .u64 c,.int .u64 d]] w (xdc ⟨xeT,0,8⟩ w):=by
 unfold xdc xlq xeT
 have g0:¬ (1099511627649:Int)<a:=by omega
 have v1:IntKind.u64.wrap (1099511627776 - (127+a))=1099511627776 - (127+a):=by rw[IntKind.wrap_u64];omega
 have g1:¬ (1099511627776 - (127+a):Int)<b:=by omega
 have v2:IntKind.u64.wrap (1099511627776 - (127+a+b))=1099511627776 - (127+a+b):=by rw[IntKind.wrap_u64];omega
 have g2:¬ (1099511627776 - (127+a+b):Int)<c:=by omega
 have v3:IntKind.u64.wrap (1099511627776 - (127+a+b+c))=1099511627776 - (127+a+b+c):=by rw[IntKind.wrap_u64];omega
 have g3:(1099511627776 - (127+a+b+c):Int)<d:=by omega
 have w1:IntKind.u64.wrap (127+a)=127+a:=by rw[IntKind.wrap_u64];omega
 have w2:IntKind.u64.wrap (127+a+b)=127+a+b:=by rw[IntKind.wrap_u64];omega
 have w3:IntKind.u64.wrap (127+a+b+c)=127+a+b+c:=by rw[IntKind.wrap_u64];omega
 have HE0:=lH (fun W=>xa0 (127) a (127+a) W w1)
 have HE1:=lH (fun W=>xa0 (127+a) b (127+a+b) W w2)
 have HE2:=lH (fun W=>xa0 (127+a+b) c (127+a+b+c) W w3)
 clear ha hb hc hs hx
 have i0:=fun W=>(xcJ (.int .u64 a) (.int .u64 b) (.int .u64 c) (.int .u64 d) W).1
 have i1:=fun W=>(xcJ (.int .u64 a) (.int .u64 b) (.int .u64 c) (.int .u64 d) W).2.1
 have i2:=fun W=>(xcJ (.int .u64 a) (.int .u64 b) (.int .u64 c) (.int .u64 d) W).2.2.1
 have i3:=fun W=>(xcJ (.int .u64 a) (.int .u64 b) (.int .u64 c) (.int .u64 d) W).2.2.2
 go_enter Tryz.func81,Tryz.ntmps81
 go_wp2_with fail
 refine wp_loop_rounds 5 ?_
 rw[rounds_succ]
 go_wp2_with fail
 refine(HE0.out _).mono ?_
 rintro e w' ⟨rfl,rfl⟩
 go_wp2_with fail
 rw[rounds_succ]
 go_wp2_with fail
 refine(HE1.out _).mono ?_
 rintro e w' ⟨rfl,rfl⟩
 go_wp2_with fail
 rw[rounds_succ]
 go_wp2_with fail
 refine(HE2.out _).mono ?_
 rintro e w' ⟨rfl,rfl⟩
 go_wp2_with fail
 rw[rounds_succ]
 go_wp2_with fail
 refine bodyPost_ret (v:=.tuple #[.agg #[.int .u64 0,.int .u64 0,.int .u64 0,.int .u64 0,.int .u64 0,.int .u64 0,.int .u64 0,.int .u64 0],.int .u64 0,.int .i64 8]) (by simp[results,Tryz.results81,go_sem]) rfl ⟨rfl,by go_grown⟩
theorem xwQ (a b c d:Int) (w:World) (ha:0≤a) (hb:0≤b) (hc:0≤c) (hd:0≤d) (hs:127+a+b+c+d≤1099511627776) :
  Calls Tryz.prog 81 #[.agg #[.int .u64 a,.int .u64 b,.int .u64 c,.int .u64 d]] w (xdc ⟨⟨127,a,127+a,b,127+a+b,c,127+a+b+c,d⟩,127+a+b+c+d,0⟩ w):=by
 unfold xdc xlq
 have g0:¬ (1099511627649:Int)<a:=by omega
 have v1:IntKind.u64.wrap (1099511627776 - (127+a))=1099511627776 - (127+a):=by rw[IntKind.wrap_u64];omega
 have g1:¬ (1099511627776 - (127+a):Int)<b:=by omega
 have v2:IntKind.u64.wrap (1099511627776 - (127+a+b))=1099511627776 - (127+a+b):=by rw[IntKind.wrap_u64];omega
 have g2:¬ (1099511627776 - (127+a+b):Int)<c:=by omega
 have v3:IntKind.u64.wrap (1099511627776 - (127+a+b+c))=1099511627776 - (127+a+b+c):=by rw[IntKind.wrap_u64];omega
 have g3:¬ (1099511627776 - (127+a+b+c):Int)<d:=by omega
 have w1:IntKind.u64.wrap (127+a)=127+a:=by rw[IntKind.wrap_u64];omega
 have w2:IntKind.u64.wrap (127+a+b)=127+a+b:=by rw[IntKind.wrap_u64];omega
 have w3:IntKind.u64.wrap (127+a+b+c)=127+a+b+c:=by rw[IntKind.wrap_u64];omega
 have w4:IntKind.u64.wrap (127+a+b+c+d)=127+a+b+c+d:=by rw[IntKind.wrap_u64];omega
 have HE0:=lH (fun W=>xa0 (127) a (127+a) W w1)
 have HE1:=lH (fun W=>xa0 (127+a) b (127+a+b) W w2)
 have HE2:=lH (fun W=>xa0 (127+a+b) c (127+a+b+c) W w3)
 have HE3:=lH (fun W=>xa0 (127+a+b+c) d (127+a+b+c+d) W w4)
 clear ha hb hc hd hs
 have i0:=fun W=>(xcJ (.int .u64 a) (.int .u64 b) (.int .u64 c) (.int .u64 d) W).1
 have i1:=fun W=>(xcJ (.int .u64 a) (.int .u64 b) (.int .u64 c) (.int .u64 d) W).2.1
 have i2:=fun W=>(xcJ (.int .u64 a) (.int .u64 b) (.int .u64 c) (.int .u64 d) W).2.2.1
 have i3:=fun W=>(xcJ (.int .u64 a) (.int .u64 b) (.int .u64 c) (.int .u64 d) W).2.2.2
 go_enter Tryz.func81,Tryz.ntmps81
 go_wp2_with fail
 refine wp_loop_rounds 5 ?_
 rw[rounds_succ]
 go_wp2_with fail
 refine(HE0.out _).mono ?_
 rintro e w' ⟨rfl,rfl⟩
 go_wp2_with fail
 rw[rounds_succ]
 go_wp2_with fail
 refine(HE1.out _).mono ?_
 rintro e w' ⟨rfl,rfl⟩
 go_wp2_with fail
 rw[rounds_succ]
 go_wp2_with fail
 refine(HE2.out _).mono ?_
 rintro e w' ⟨rfl,rfl⟩
 go_wp2_with fail
 rw[rounds_succ]
 go_wp2_with fail
 refine(HE3.out _).mono ?_
 rintro e w' ⟨rfl,rfl⟩
 go_wp2_with fail
 rw[rounds_succ]
 go_wp2_with fail
 refine bodyPost_ret (v:=.tuple #[.agg #[.int .u64 127,.int .u64 a,.int .u64 (127+a),.int .u64 b,.int .u64 (127+a+b),.int .u64 c,.int .u64 (127+a+b+c),.int .u64 d],.int .u64 (127+a+b+c+d),.int .i64 0]) (by simp[results,Tryz.results81,go_sem]) rfl ⟨rfl,by go_grown⟩
theorem xhq (a b c d:Int) (w:World) (ha:U64 a) (hb:U64 b) (hc:U64 c) (hd:U64 d):Calls Tryz.prog 81 #[.agg #[.int .u64 a,.int .u64 b,.int .u64 c,.int .u64 d]] w (xdc (xrj a b c d) w):=by
 unfold U64 at ha hb hc hd
 unfold xrj
 by_cases h:xgW a b c d
 ·rw[if_pos h]
  unfold xgW at h
  by_cases h1:1099511627776<127+a
  ·exact xpz a b c d w h1
  by_cases h2:1099511627776<127+a+b
  ·exact xoY a b c d w (by omega) (by omega) h2
  by_cases h3:1099511627776<127+a+b+c
  ·exact xpC a b c d w (by omega) (by omega) (by omega) h3
  exact xpE a b c d w (by omega) (by omega) (by omega) (by omega) (by omega)
 ·rw[if_neg h]
  unfold xgW at h
  exact xwQ a b c d w (by omega) (by omega) (by omega) (by omega) (by omega)
end Go.Proofs.YtjkgkmmkehnggaaGreatDoor
namespace Go.Proofs.YtjkgkmmkehnggaaGreatDoor
set_option linter.unusedVariables false
set_option linter.unusedSimpArgs false
open Go.RowKit
set_option maxRecDepth 20000
instance:DecidableEq Hd:=fun a b=>decidable_of_iff _ (Hd.eq_iff a b).symm
def hA:Hd:={ xae with knd:=2,z1:=3,lo0:=-1 }
theorem xBj (l:List Int) (h:xwN l):xb2 (str l)=l:=by
 unfold xb2
 rw[xbF,List.map_map]
 conv=>rhs;rw[← List.map_id l]
 apply List.map_congr_left
 intro c hc
 have:=h c hc
 simp only[Function.comp,id]
 rw[UInt8.toNat_ofNat',Nat.mod_eq_of_lt (by omega)]
 omega
theorem xs6 (s t:ByteArray):xb2 (s++t)=xb2 s++xb2 t:=by
 unfold xb2
 rw[ByteArray.data_append,Array.toList_append,List.map_append]
end Go.Proofs.YtjkgkmmkehnggaaGreatDoor
namespace Go.Proofs.YtjkgkmmkehnggaaGreatDoor
set_option linter.unusedVariables false
set_option linter.unusedSimpArgs false
open Go.RowKit
set_option maxRecDepth 100000
theorem HAt.secs {w:World} {b:Nat} {T:TypeId} {h:Hd} (H:HAt w b T h) (s:Sc):HAt ((((((((w.setCell ⟨b,0,none⟩ (.int .u64 s.rf)).setCell ⟨b,1,none⟩ (.int .u64 s.rl)).setCell ⟨b,2,none⟩ (.int .u64 s.mf)).setCell ⟨b,3,none⟩ (.int .u64 s.ml)).setCell ⟨b,4,none⟩ (.int .u64 s.lf)).setCell ⟨b,5,none⟩ (.int .u64 s.ll)).setCell ⟨b,6,none⟩ (.int .u64 s.df)).setCell ⟨b,7,none⟩ (.int .u64 s.dl)) b T (xde h s):=by
 unfold HAt at H ⊢
 have:=hset (hset (hset (hset (hset (hset (hset (hset H 0 (.int .u64 s.rf)) 1 (.int .u64 s.rl)) 2 (.int .u64 s.mf)) 3 (.int .u64 s.ml)) 4 (.int .u64 s.lf)) 5 (.int .u64 s.ll)) 6 (.int .u64 s.df)) 7 (.int .u64 s.dl)
 simp only[cH,List.setIfInBounds_toArray,List.set_cons_zero,List.set_cons_succ] at this
 exact this
theorem HAt.secs_far {w:World} {b b':Nat} {T:TypeId} {h:Hd} (H:HAt w b T h) (hn:b≠b') (s:Sc):HAt ((((((((w.setCell ⟨b',0,none⟩ (.int .u64 s.rf)).setCell ⟨b',1,none⟩ (.int .u64 s.rl)).setCell ⟨b',2,none⟩ (.int .u64 s.mf)).setCell ⟨b',3,none⟩ (.int .u64 s.ml)).setCell ⟨b',4,none⟩ (.int .u64 s.lf)).setCell ⟨b',5,none⟩ (.int .u64 s.ll)).setCell ⟨b',6,none⟩ (.int .u64 s.df)).setCell ⟨b',7,none⟩ (.int .u64 s.dl)) b T h:=by
 unfold HAt at H ⊢
 exact xen (xen (xen (xen (xen (xen (xen (xen H hn _ _) hn _ _) hn _ _) hn _ _) hn _ _) hn _ _) hn _ _) hn _ _
theorem xpi {w0 w:World} {B b':Nat} (H:Below B w0 w) (hn:B≤b') (s:Sc):Below B w0 ((((((((w.setCell ⟨b',0,none⟩ (.int .u64 s.rf)).setCell ⟨b',1,none⟩ (.int .u64 s.rl)).setCell ⟨b',2,none⟩ (.int .u64 s.mf)).setCell ⟨b',3,none⟩ (.int .u64 s.ml)).setCell ⟨b',4,none⟩ (.int .u64 s.lf)).setCell ⟨b',5,none⟩ (.int .u64 s.ll)).setCell ⟨b',6,none⟩ (.int .u64 s.df)).setCell ⟨b',7,none⟩ (.int .u64 s.dl)) :=
 (((((((H.setCell (p:=⟨b',0,none⟩) hn _).setCell (p:=⟨b',1,none⟩) hn _).setCell (p:=⟨b',2,none⟩) hn _).setCell (p:=⟨b',3,none⟩) hn _).setCell (p:=⟨b',4,none⟩) hn _).setCell (p:=⟨b',5,none⟩) hn _).setCell (p:=⟨b',6,none⟩) hn _).setCell (p:=⟨b',7,none⟩) hn _
theorem xo0 (h:Hd) (s:Sc) (w:World):Calls Tryz.prog 84 #[.agg (cH h),.agg (xlq s)] w fun e w'=>e=.returned (.agg (cH (xde h s)))∧Below w.heap.size w w':=by
 obtain⟨W,hW⟩:∃ W,((w.alloc (.cells (cH h) 93)).alloc (.cells (xlq s) 165)).alloc (.cells (cH xae) 93)=W:=⟨_,rfl⟩
 have h0:HAt W w.heap.size 93 h:=by
  rw[← hW]
  exact(xac (by simp;omega)).trans ((xac (by simp)).trans (HAt.made w h _))
 have h1:Box W (w.heap.size+1) (xlq s):=by
  have:=xiB (w.alloc (.cells (cH h) 93)) (xlq s) 165
  rw[World.size_alloc] at this
  rw[← hW]
  exact this.below ((Below.refl _ _).alloc (Nat.le_refl _) _)
 have h2:HAt W (w.heap.size+1+1) 93 xae:=by
  have:=HAt.made ((w.alloc (.cells (cH h) 93)).alloc (.cells (xlq s) 165)) xae 93
  simp only[World.size_alloc] at this
  rw[← hW]
  exact this
 have hbw:Below w.heap.size w W:=by rw[← hW];exact(((Below.refl _ w).alloc (Nat.le_refl _) _).alloc (by simp) _).alloc (by simp;omega) _
 have s0:=h1.cell 0
 have s1:=h1.cell 1
 have s2:=h1.cell 2
 have s3:=h1.cell 3
 have s4:=h1.cell 4
 have s5:=h1.cell 5
 have s6:=h1.cell 6
 have s7:=h1.cell 7
 simp[xlq] at s0 s1 s2 s3 s4 s5 s6 s7
 have c0:=xag h0 0
 have c1:=xag h0 1
 have c2:=xag h0 2
 have c3:=xag h0 3
 have c4:=xag h0 4
 have c5:=xag h0 5
 have c6:=xag h0 6
 have c7:=xag h0 7
 simp[cH] at c0 c1 c2 c3 c4 c5 c6 c7
 have f0:∀ j,W.frozen? ⟨w.heap.size,j,none⟩=false:=fun j=>by unfold HAt at h0;simp[World.frozen?,h0]
 have H0:=lH h0
 have H2:=lH h2
 have HBW:=lH hbw
 clear h0 h1 h2 hbw
 have hz:cH xae=#[.int .u64 0,.int .u64 0,.int .u64 0,.int .u64 0,.int .u64 0,.int .u64 0,.int .u64 0,.int .u64 0,.int .u64 0,.int .u64 0,.int .u64 0,.bool false,.int .u8 0,.int .u8 0,.int .u8 0,.int .i64 0,.int .i64 0,.int .i64 0,.int .i64 0,.int .i64 0,.int .i64 0,.int .i64 0,.int .i64 0,.int .i64 0]:=rfl
 rw[hz] at hW
 clear hz
 generalize hc:cH (xde h s)=R
 have HR:=lH hc
 clear hc
 generalize hk:cH h=Hc at *
 have HK:=lH hk
 clear hk
 unfold xlq at hW ⊢
 go_enter Tryz.func84,Tryz.ntmps84
 go_upto_region 1 with fail
 try rw[hW]
 clear hW
 go_cut [] (fun wx=>HAt wx w.heap.size 93 (xde h s)∧HAt wx (w.heap.size+1+1) 93 xae∧Below w.heap.size w wx)
 case first =>
  go_region
  all_goals
   go_wp2_with fail
   go_meet
   case rel=>exact⟨HAt.later (HAt.secs H0.out s) (Below.drew (Below.refl _ _)),HAt.later (HAt.secs_far H2.out (by omega) s) (Below.drew (Below.refl _ _)),Below.drew (xpi HBW.out (Nat.le_refl _) s)⟩
 case rest =>
  obtain⟨hA,hZ,hB⟩:=hcut
  generalize wc=W2 at *
  have HA:=lH hA
  have HZ:=lH hZ
  have HB:=lH hB
  clear hA hZ hB s0 s1 s2 s3 s4 s5 s6 s7 c0 c1 c2 c3 c4 c5 c6 c7 f0 H0 H2 HBW
  generalize hx:xde h s=X at *
  go_wp2_with (first|(refine wpList_load_row rfl 93 _ rfl w.heap.size rfl 93 (cH X) (0,0) _ HA.out Tryz.underlying93 rfl xaP ?_)|(refine wpList_store_row rfl 93 _ _ rfl (w.heap.size+1+1) (cH X) rfl rfl 93 (cH xae) HZ.out xaP rfl (xhw X) ?_)|fail)
  have hp:=xww W2 (w.heap.size+1+1) _ xae X HZ.out
  refine bodyPost_ret (results_cell_row rfl _ _ (w.heap.size+1+1) 93 (cH X) (0,0) _ rfl hp.1 Tryz.underlying93 rfl xaP) rfl ⟨by rw[HR.out],hp.2.2.1 _ _ (by omega) HB.out⟩
theorem xg5 (s:ByteArray):s.data.toList.length=s.size:=rfl
theorem Box.later {w w':World} {B b:Nat} {arr:Array Value} (h:Box w b arr) (hb:Below B w w') (hB:b<B):Box w' b arr:=by
 obtain⟨T,h⟩:=h
 exact⟨T,(hb.block b hB).trans h⟩
theorem xDC (a b c d f:ByteArray):(⟨(a.data.toList++b.data.toList++c.data.toList++d.data.toList++f.data.toList).toArray⟩:ByteArray)=a++b++c++d++f:=by
 apply ByteArray.ext
 simp
theorem xoN (h:Hd) (p:Pt) (w:World) (hm:xeR h) (hp:Few p 200000000):Calls Tryz.prog 32 #[.agg (cH h),.agg (xB9 p)] w fun e w'=>e=.returned (.tuple #[.string (xbB h p).1,.int .i64 (xbB h p).2])∧Below w.heap.size w w':=by
 have hsf:=xhd hp
 have hmx:=xnL hm (xmG hp)
 have hg:xbB h p=if (xg2 (xde h (xdf p).sec)).2≠0 then (xjp,(xg2 (xde h (xdf p).sec)).2) else (str (xg2 (xde h (xdf p).sec)).1++p.p0++p.p1++p.p2++p.p3,0):=by
  unfold xbB
  rw[if_neg (by rw[hsf];simp)]
 have HLN:=lH (fun X=>xpu p X hp)
 obtain⟨p0,p1,p2,p3⟩:=p
 obtain⟨l0,l1,l2,l3⟩:=hp
 dsimp only at l0 l1 l2 l3 HLN
 obtain⟨W,hW⟩:∃ W,(w.alloc (.cells (cH h) 93)).alloc (.cells #[.string p0,.string p1,.string p2,.string p3] 95)=W:=⟨_,rfl⟩
 have h0:HAt W w.heap.size 93 h:=by
  rw[← hW]
  exact(xac (by simp)).trans (HAt.made w h _)
 have h1:Box W (w.heap.size+1) #[.string p0,.string p1,.string p2,.string p3]:=by
  have:=xiB (w.alloc (.cells (cH h) 93)) #[.string p0,.string p1,.string p2,.string p3] 95
  rw[World.size_alloc] at this
  rw[← hW]
  exact this
 have hbw:Below w.heap.size w W:=by rw[← hW];exact((Below.refl _ w).alloc (Nat.le_refl _) _).alloc (by simp) _
 have s0:=h1.cell 0
 have s1:=h1.cell 1
 have s2:=h1.cell 2
 have s3:=h1.cell 3
 simp at s0 s1 s2 s3
 have HSC:=lH (fun X=>xhq p0.size p1.size p2.size p3.size X (by unfold U64;omega) (by unfold U64;omega) (by unfold U64;omega) (by unfold U64;omega))
 have hso:xrj p0.size p1.size p2.size p3.size=xdf ⟨p0,p1,p2,p3⟩:=rfl
 rw[hso] at HSC
 have hse:(xdf ⟨p0,p1,p2,p3⟩).err=0:=by rw[hsf]
 obtain⟨n,hn,hn2⟩:∃ n:Nat,(xdf ⟨p0,p1,p2,p3⟩).all=n∧n≤1000000000:=⟨127+p0.size+p1.size+p2.size+p3.size,by rw[hsf];simp,by omega⟩
 have hwn:IntKind.i64.wrap (n:Int)=(n:Int):=by rw[IntKind.wrap_i64];omega
 unfold xdc at HSC
 rw[hse,hn] at HSC
 generalize xdf ⟨p0,p1,p2,p3⟩=S at *
 have HEN:=lH (fun X=>xpc (xde h S.sec) X hmx)
 have HWI:=lH (fun X=>xo0 h S.sec X)
 rw[hg]
 generalize xde h S.sec=hx at *
 obtain⟨R,hR⟩:∃ R,(if (xg2 hx).2≠0 then (xjp,(xg2 hx).2) else (str (xg2 hx).1++p0++p1++p2++p3,0))=R:=⟨_,rfl⟩
 rw[hR]
 have HR:=lH hR
 have H0:=lH h0
 have P1:=lH h1
 have B1:=lH hbw
 clear hR h0 h1 hbw hg hsf hso hse hn
 generalize hk:cH h=Hc at *
 have HK:=lH hk
 clear hk
 unfold xB9 at HLN ⊢
 have i0:=fun W=>(xkL (.string p0) (.string p1) (.string p2) (.string p3) W).1
 have i1:=fun W=>(xkL (.string p0) (.string p1) (.string p2) (.string p3) W).2.1
 have i2:=fun W=>(xkL (.string p0) (.string p1) (.string p2) (.string p3) W).2.2.1
 have i3:=fun W=>(xkL (.string p0) (.string p1) (.string p2) (.string p3) W).2.2.2
 go_enter Tryz.func32,Tryz.ntmps32
 go_wp2_with fail
 try rw[hW]
 clear hW
 refine(HLN.out _).mono ?_
 rintro e w1 ⟨rfl,hb1⟩
 have H1:=lH (H0.out.later hb1)
 have P2:=lH (P1.out.below hb1)
 have B2:=lH (B1.out.trans (hb1.mono B1.out.size))
 clear hb1 s0 s1 s2 s3 H0 P1 B1
 go_wp2_with fail
 refine(HSC.out _).mono ?_
 rintro e w2 ⟨rfl,hb2⟩
 unfold xlq
 have hba:Below w2.heap.size w2 (w2.alloc (.cells #[.int .u64 S.sec.rf,.int .u64 S.sec.rl,.int .u64 S.sec.mf,.int .u64 S.sec.ml,.int .u64 S.sec.lf,.int .u64 S.sec.ll,.int .u64 S.sec.df,.int .u64 S.sec.dl] 165)):=(Below.refl _ _).alloc (Nat.le_refl _) _
 have hb3:=hb2.trans (hba.mono hb2.size)
 have HA2:=H1.out.later hb3
 have P3:=lH (P2.out.below hb3)
 have B3:=lH (B2.out.trans (hb3.mono B2.out.size))
 unfold HAt at HA2
 rw[HK.out] at HA2
 have hsz:(Tryz.prog.info? 93).map (·.size)=some Hc.size:=by rw[← HK.out];exact xaP
 have HA2:=lH HA2
 unfold xlq at HWI
 clear hb2 hba hb3 H1 P2 B2
 go_wp2_with (first|(refine wpList_load_row rfl 93 _ rfl w.heap.size rfl 93 Hc (0,0) _ HA2.out Tryz.underlying93 rfl hsz ?_)|fail)
 refine(HWI.out _).mono ?_
 rintro e w3 ⟨rfl,hb3⟩
 have P4:=lH (P3.out.below hb3)
 have B4:=lH (B3.out.trans (hb3.mono B3.out.size))
 clear hb3 P3 B3 HA2
 go_wp2_with fail
 refine(HEN.out _).mono ?_
 rintro e w5 ⟨rfl,hb5⟩
 have P5:=lH (P4.out.below hb5)
 have B5:=lH (B4.out.trans (hb5.mono B4.out.size))
 have hsl:(str (xg2 hx).1).size≤200:=by
  rw[xbv]
  unfold xg2
  split
  ·rename_i hc
   rw[xeV hx hmx hc]
   omega
  ·simp
 clear hb5 P4 B4
 by_cases hz:(xg2 hx).2=0
 ·rw[hz]
  have HR2:=HR.out
  rw[if_neg (by simpa using hz)] at HR2
  have HR2:=lH HR2
  clear hz
  generalize str (xg2 hx).1=st at *
  have hP5:=P5.out.lt
  have HGW:=lH (xjT w5.heap.size w5.heap.size n (w5.alloc (.cells #[.pointer none,.slice none 0 0] 174)) (Nat.le_refl _) (xhI w5 _) (by simp) (by omega))
  have HQ:=lH (P5.out.later ((Below.refl w5.heap.size w5).alloc (Nat.le_refl _) (.cells #[.pointer none,.slice none 0 0] 174)) hP5)
  go_wp2_with fail
  refine HGW.out.mono ?_
  rintro e y0 ⟨rfl,hA0,hb0⟩
  have P6:=lH (HQ.out.later hb0 hP5)
  have A0:=lH hA0
  have z0:w5.heap.size≤y0.heap.size:=Nat.le_trans (by simp) hb0.size
  have D0:=lH (((Below.refl w5.heap.size w5).alloc (Nat.le_refl _) (.cells #[.pointer none,.slice none 0 0] 174)).trans hb0)
  clear hA0 hb0 HGW HQ
  go_wp2_with fail
  refine(xcf w5.heap.size w5.heap.size [] st y0 A0.out (by simp only[List.length_append,List.length_nil,xg5];omega) z0).mono ?_
  rintro e y1 ⟨rfl,hA1,hb1⟩
  rw[List.nil_append] at hA1
  have A1:=lH hA1
  have z1:w5.heap.size≤y1.heap.size:=Nat.le_trans z0 hb1.size
  have D1:=lH (D0.out.trans hb1)
  have P7:=P6.out.later hb1 hP5
  have q0:=P7.cell 0
  have q1:=P7.cell 1
  have q2:=P7.cell 2
  have q3:=P7.cell 3
  simp at q0 q1 q2 q3
  clear P7
  clear hA1 hb1 A0 D0
  go_wp2_with fail
  refine wp_loop_rounds 5 ?_
  rw[rounds_succ]
  go_wp2_with fail
  refine(xcf w5.heap.size w5.heap.size (st.data.toList) p0 y1 A1.out (by simp only[List.length_append,List.length_nil,xg5];omega) z1).mono ?_
  rintro e y2 ⟨rfl,hA2,hb2⟩
  have A2:=lH hA2
  have z2:w5.heap.size≤y2.heap.size:=Nat.le_trans z1 hb2.size
  have D2:=lH (D1.out.trans hb2)
  clear hA2 hb2 A1 D1
  go_wp2_with fail
  rw[rounds_succ]
  go_wp2_with fail
  refine(xcf w5.heap.size w5.heap.size (st.data.toList++p0.data.toList) p1 y2 A2.out (by simp only[List.length_append,List.length_nil,xg5];omega) z2).mono ?_
  rintro e y3 ⟨rfl,hA3,hb3⟩
  have A3:=lH hA3
  have z3:w5.heap.size≤y3.heap.size:=Nat.le_trans z2 hb3.size
  have D3:=lH (D2.out.trans hb3)
  clear hA3 hb3 A2 D2
  go_wp2_with fail
  rw[rounds_succ]
  go_wp2_with fail
  refine(xcf w5.heap.size w5.heap.size (st.data.toList++p0.data.toList++p1.data.toList) p2 y3 A3.out (by simp only[List.length_append,List.length_nil,xg5];omega) z3).mono ?_
  rintro e y4 ⟨rfl,hA4,hb4⟩
  have A4:=lH hA4
  have z4:w5.heap.size≤y4.heap.size:=Nat.le_trans z3 hb4.size
  have D4:=lH (D3.out.trans hb4)
  clear hA4 hb4 A3 D3
  go_wp2_with fail
  rw[rounds_succ]
  go_wp2_with fail
  refine(xcf w5.heap.size w5.heap.size (st.data.toList++p0.data.toList++p1.data.toList++p2.data.toList) p3 y4 A4.out (by simp only[List.length_append,List.length_nil,xg5];omega) z4).mono ?_
  rintro e y5 ⟨rfl,hA5,hb5⟩
  have A5:=lH hA5
  have z5:w5.heap.size≤y5.heap.size:=Nat.le_trans z4 hb5.size
  have D5:=lH (D4.out.trans hb5)
  clear hA5 hb5 A4 D4
  go_wp2_with fail
  rw[rounds_succ]
  go_wp2_with fail
  refine(xm2 w5.heap.size w5.heap.size (st.data.toList++p0.data.toList++p1.data.toList++p2.data.toList++p3.data.toList) y5 A5.out z5).mono ?_
  rintro e y6 ⟨rfl,hb6⟩
  have D6:=lH (D5.out.trans hb6)
  clear hb6
  rw[xDC]
  go_wp2_with fail
  refine bodyPost_ret (results_tmp2 rfl _ _ _) rfl ⟨by rw[← HR2.out];rfl,B5.out.trans (D6.out.mono B5.out.size)⟩
 ·have HR2:=HR.out
  rw[if_pos hz] at HR2
  have HR2:=lH HR2
  have hzn:((xg2 hx).2 != 0)=true:=by simpa using hz
  generalize (xg2 hx).2=er at *
  clear hz
  go_wp2_with fail
  refine bodyPost_ret (results_tmp2 rfl _ _ _) rfl ⟨by rw[← HR2.out];rfl,B5.out⟩
end Go.Proofs.YtjkgkmmkehnggaaGreatDoor
