/- Wv. -/
import Derived.Test.YtjkgkmmkehnggaaGreatDoorVZ7
namespace Go.Proofs.YtjkgkmmkehnggaaGreatDoor
set_option linter.unusedVariables false
set_option linter.unusedSimpArgs false
open Go.RowKit Go.Maps
set_option maxRecDepth 100000
set_option maxHeartbeats 8000000 in
theorem auditrises_law (s:ByteArray) (b:Int) (y:Nat) (w:World) (hq:QTab w) (hb:-9223372036854775808≤b∧b≤9223372036854775807) (hy:y<65536) :
  Calls Tryz.prog 5 #[.string s,.int .i64 b,.int .u16 (y:Nat)] w fun e w'=>e=.returned (.bool true)∧Below w.heap.size w w':=by
 have HQ:=Lib.hid hq
 clear hq
 go_enter Tryz.func5,Tryz.ntmps5
 by_cases hs:3000<s.size
 ·have e1:decide (3000<(s.size:Int))=true:=decide_eq_true (by omega)
  clear hs
  go_wp2_with fail
  refine(awake19_any _ HQ.out).mono ?_
  rintro e w1 ⟨rfl,hbz⟩
  have HB:=Lib.hid hbz
  clear hbz
  go_wp2_with fail
  go_ret
  exact⟨rfl,HB.out⟩
 ·have e1:decide (3000<(s.size:Int))=false:=decide_eq_false (by omega)
  by_cases hbb:1099511627776<b
  ·have e2:decide (1099511627776<b)=true:=decide_eq_true hbb
   clear hs hbb
   go_wp2_with fail
   refine(awake19_any _ HQ.out).mono ?_
   rintro e w1 ⟨rfl,hbz⟩
   have HB:=Lib.hid hbz
   clear hbz
   go_wp2_with fail
   go_ret
   exact⟨rfl,HB.out⟩
  ·have e2:decide (1099511627776<b)=false:=decide_eq_false hbb
   have hw1:IntKind.i64.wrap (y:Int)=(y:Int):=by rw[IntKind.wrap_i64];omega
   have hw2:IntKind.i64.wrap (b+(y:Int))=b+(y:Int):=by rw[IntKind.wrap_i64];omega
   have HC1:=Lib.hid (acheck_any s b w HQ.out (by omega) hb)
   have HC2:=Lib.hid (fun W hW=>acheck_any s (b+(y:Int)) W hW (by omega) (by omega))
   obtain⟨f,hf0,hf1,hf⟩:=twoB_any s b (b+(y:Int)) (by omega)
   obtain⟨hr1,hr2⟩:=rises_at s b
   have hL:=check_len s b
   have hM:=check_len s (b+(y:Int))
   generalize checkA s b=L at *
   generalize checkA s (b+(y:Int))=M at *
   have HF:=Lib.hid (And.intro hf0 (And.intro hf1 hf))
   have HR:=Lib.hid (And.intro hr1 hr2)
   unfold CheckEnd at HC1 HC2
   clear hf0 hf1 hf hr1 hr2 hs hbb hb
   go_wp2_with fail
   refine HC1.out.mono ?_
   rintro e w1 ⟨a1,c1,rfl,ho1,hb1⟩
   have HB1:=Lib.hid hb1
   have HO1:=Lib.hid ho1
   clear HC1 hb1 ho1
   go_wp2_with fail
   refine(HC2.out _ (HQ.out.below HB1.out)).mono ?_
   rintro e w2 ⟨a2,c2,rfl,ho2,hb2⟩
   have HB2:=Lib.hid (HB1.out.trans (hb2.mono HB1.out.size))
   have HP1:=Lib.hid (fun W (hW:Below w2.heap.size w2 W)=>(HO1.out.below hb2).below hW)
   have HP2:=Lib.hid (fun W (hW:Below w2.heap.size w2 W)=>ho2.below hW)
   clear HC2 HB1 HO1 hb2 ho2 hw1 hw2 e1 e2
   go_wp2_with fail
   go_loopw [9,10] (fun k i wr=>∃ j:Nat,j≤L.length∧i=.int .i64 j∧k=.int .i64 (f j:Nat)∧Below w2.heap.size w2 wr) (fun _ i _=>L.length - (intOf i).toNat)
   case atStart=>exact⟨0,Nat.zero_le _,rfl,by rw[HF.out.1];rfl,Below.refl _ _⟩
   case round =>
    obtain⟨j,hj,rfl,rfl,hbw⟩:=hrel
    have HW:=Lib.hid hbw
    clear hbw
    by_cases hlt:j<L.length
    ·have hji:(j:Int)<(L.length:Int):=by omega
     obtain⟨g1,rfl,-,-,hc1⟩:=own_cell (HP1.out _ HW.out) (by omega)
     have x0:=hc1 j hlt
     have hx:=HR.out.1 j hlt
     have d1:decide (gI L j<1)=false:=decide_eq_false (by omega)
     have d2:decide (15<gI L j)=false:=decide_eq_false (by omega)
     rcases Nat.eq_zero_or_pos j with hj0|hj0
     ·subst hj0
      have hgt:decide ((0:Int)<((0:Nat):Int))=false:=by decide
      clear hc1
      by_cases hx1:gI L 0=1
      ·have d3:(gI L 0 == 1)=true:=by simpa using hx1
       have hl1:=hx.2.2 hx1
       have d4:decide (1<(L.length:Int))=false:=decide_eq_false (by omega)
       clear hx1 hx
       have HTF:=Lib.hid (HF.out.2.2 0 hlt)
       clear HF HR
       generalize gI L 0=x at *
       go_upto_region 8 with fail
       have hd0:=Below.drew (Below.refl wr.heap.size wr)
       refine wp_region_held_drew (S:=fun w'=>(w'.cell? ⟨g1,0,none⟩=some (.int .u8 x))) (by kernel_rfl) (ecell_later hd0 x0) (fun hH0=>?_)
       refine tK 0 34 hH0 ?_
       try simp only[Act.put,zsA,zsB,zsC]
       refine tK 1 35 hH0 ?_
       try simp only[Act.put,zsA,zsB,zsC]
       refine tK 2 36 hH0 ?_
       try simp only[Act.put,zsA,zsB,zsC]
       refine tK 3 37 hH0 ?_
       try simp only[Act.put,zsA,zsB,zsC]
       refine tK 4 38 hH0 ?_
       try simp only[Act.put,zsA,zsB,zsC]
       refine tK 5 39 hH0 ?_
       try simp only[Act.put,zsA,zsB,zsC]
       refine tK 6 40 hH0 ?_
       try simp only[Act.put,zsA,zsB,zsC]
       refine tK 7 41 hH0 ?_
       try simp only[Act.put,zsA,zsB,zsC]
       refine tK 8 42 hH0 ?_
       try simp only[Act.put,zsA,zsB,zsC]
       refine tK 9 43 hH0 ?_
       try simp only[Act.put,zsA,zsB,zsC]
       refine tK 10 44 hH0 ?_
       try simp only[Act.put,zsA,zsB,zsC]
       refine tK 11 45 hH0 ?_
       try simp only[Act.put,zsA,zsB,zsC]
       refine tK 12 46 hH0 ?_
       try simp only[Act.put,zsA,zsB,zsC]
       refine tK 13 47 hH0 ?_
       try simp only[Act.put,zsA,zsB,zsC]
       refine tK 14 48 hH0 ?_
       try simp only[Act.put,zsA,zsB,zsC]
       refine tK 15 49 hH0 ?_
       try simp only[Act.put,zsA,zsB,zsC]
       refine tU 16 50 hH0 ?_
       try simp only[Act.put,zsA,zsB,zsC]
       refine tU 17 51 hH0 ?_
       try simp only[Act.put,zsA,zsB,zsC]
       refine tU 18 52 hH0 ?_
       try simp only[Act.put,zsA,zsB,zsC]
       refine tU 19 53 hH0 ?_
       try simp only[Act.put,zsA,zsB,zsC]
       refine tU 20 54 hH0 ?_
       try simp only[Act.put,zsA,zsB,zsC]
       refine tU 21 55 hH0 ?_
       try simp only[Act.put,zsA,zsB,zsC]
       refine tU 22 56 hH0 ?_
       try simp only[Act.put,zsA,zsB,zsC]
       refine tU 23 57 hH0 ?_
       try simp only[Act.put,zsA,zsB,zsC]
       refine tU 24 58 hH0 ?_
       try simp only[Act.put,zsA,zsB,zsC]
       refine tU 25 59 hH0 ?_
       try simp only[Act.put,zsA,zsB,zsC]
       refine tK 26 60 hH0 ?_
       try simp only[Act.put,zsA,zsB,zsC]
       refine tK 27 61 hH0 ?_
       try simp only[Act.put,zsA,zsB,zsC]
       refine tK 28 62 hH0 ?_
       try simp only[Act.put,zsA,zsB,zsC]
       refine tK 29 63 hH0 ?_
       try simp only[Act.put,zsA,zsB,zsC]
       refine tK 30 64 hH0 ?_
       try simp only[Act.put,zsA,zsB,zsC]
       refine tK 31 65 hH0 ?_
       try simp only[Act.put,zsA,zsB,zsC]
       refine tK 32 66 hH0 ?_
       try simp only[Act.put,zsA,zsB,zsC]
       refine tK 33 67 hH0 ?_
       try simp only[Act.put,zsA,zsB,zsC]
       refine tK 34 68 hH0 ?_
       try simp only[Act.put,zsA,zsB,zsC]
       refine tK 35 69 hH0 ?_
       try simp only[Act.put,zsA,zsB,zsC]
       refine tK 36 70 hH0 ?_
       try simp only[Act.put,zsA,zsB,zsC]
       refine tK 37 71 hH0 ?_
       try simp only[Act.put,zsA,zsB,zsC]
       refine tK 38 72 hH0 ?_
       try simp only[Act.put,zsA,zsB,zsC]
       refine tK 39 73 hH0 ?_
       try simp only[Act.put,zsA,zsB,zsC]
       refine tK 40 74 hH0 ?_
       try simp only[Act.put,zsA,zsB,zsC]
       refine tK 41 75 hH0 ?_
       try simp only[Act.put,zsA,zsB,zsC]
       refine tK 42 76 hH0 ?_
       try simp only[Act.put,zsA,zsB,zsC]
       refine tK 43 77 hH0 ?_
       try simp only[Act.put,zsA,zsB,zsC]
       refine tU 44 78 hH0 ?_
       try simp only[Act.put,zsA,zsB,zsC]
       refine tU 45 79 hH0 ?_
       try simp only[Act.put,zsA,zsB,zsC]
       refine tU 46 80 hH0 ?_
       try simp only[Act.put,zsA,zsB,zsC]
       refine tU 47 81 hH0 ?_
       try simp only[Act.put,zsA,zsB,zsC]
       refine tU 48 82 hH0 ?_
       try simp only[Act.put,zsA,zsB,zsC]
       refine tU 49 83 hH0 ?_
       try simp only[Act.put,zsA,zsB,zsC]
       refine tK 50 84 hH0 ?_
       try simp only[Act.put,zsA,zsB,zsC]
       refine tK 51 85 hH0 ?_
       try simp only[Act.put,zsA,zsB,zsC]
       refine wpAnyH_done (by kernel_rfl) ?_ _
       have x1:=ecell_later hd0 x0
       have HWQ:=Lib.hid (Below.drew HW.out)
       clear hd0 x0 HW
       generalize wr.drew=wq at *
       rcases HTF.out with ⟨hk,hz,hn⟩|⟨hk,hz,hn⟩
       ·obtain⟨g2,rfl,-,-,hc2⟩:=own_cell (HP2.out _ HWQ.out) (by omega)
        have z0:=hc2 _ hk
        rw[hz] at z0
        have hki:((f 0:Nat):Int)<(M.length:Int):=by omega
        have HN:=Lib.hid hn
        clear hc2 hz hn HP1 HP2 HTF
        generalize f 0=k at *
        go_upto_region 10 with fail
        have hd0:=Below.drew (Below.refl wq.heap.size wq)
        refine wp_region_held_drew (S:=fun w'=>(w'.cell? ⟨g1,0,none⟩=some (.int .u8 x))∧(w'.cell? ⟨g2,k,none⟩=some (.int .u8 x))) (by kernel_rfl) ⟨ecell_later hd0 x1,ecell_later hd0 z0⟩ (fun hH0=>?_)
        refine tK 0 86 hH0 ?_
        try simp only[Act.put,zsA,zsB,zsC]
        refine tK 1 87 hH0 ?_
        try simp only[Act.put,zsA,zsB,zsC]
        refine tK 2 88 hH0 ?_
        try simp only[Act.put,zsA,zsB,zsC]
        refine tK 3 89 hH0 ?_
        try simp only[Act.put,zsA,zsB,zsC]
        refine tK 4 90 hH0 ?_
        try simp only[Act.put,zsA,zsB,zsC]
        refine tK 5 91 hH0 ?_
        try simp only[Act.put,zsA,zsB,zsC]
        refine tK 6 92 hH0 ?_
        try simp only[Act.put,zsA,zsB,zsC]
        refine tK 7 93 hH0 ?_
        try simp only[Act.put,zsA,zsB,zsC]
        refine tK 8 94 hH0 ?_
        try simp only[Act.put,zsA,zsB,zsC]
        refine tK 9 95 hH0 ?_
        try simp only[Act.put,zsA,zsB,zsC]
        refine tK 10 96 hH0 ?_
        try simp only[Act.put,zsA,zsB,zsC]
        refine tK 11 97 hH0 ?_
        try simp only[Act.put,zsA,zsB,zsC]
        refine tK 12 98 hH0 ?_
        try simp only[Act.put,zsA,zsB,zsC]
        refine tK 13 99 hH0 ?_
        try simp only[Act.put,zsA,zsB,zsC]
        refine tK 14 100 hH0 ?_
        try simp only[Act.put,zsA,zsB,zsC]
        refine wpAnyH_done (by kernel_rfl) ?_ _
        go_wp2_with fail
        go_roundw
        case rel=>exact⟨0+1,by omega,by go_num,by rw[HN.out];go_num,Below.drew HWQ.out⟩
        case measure=>simp[intOf];omega
       ·have d8:(x != 6)=false:=by rw[hz];rfl
        have HN:=Lib.hid hn
        clear hz hn HTF
        by_cases hkm:f 0<M.length
        ·obtain⟨g2,rfl,-,-,hc2⟩:=own_cell (HP2.out _ HWQ.out) (by omega)
         have z0:=hc2 _ hkm
         have hki:((f 0:Nat):Int)<(M.length:Int):=by omega
         have d7:(gI M (f 0) == x)=false:=by simpa using hk hkm
         generalize gI M (f 0)=z at *
         clear hc2 hk HP1 HP2
         generalize f 0=k at *
         go_upto_region 10 with fail
         have hd0:=Below.drew (Below.refl wq.heap.size wq)
         refine wp_region_held_drew (S:=fun w'=>(w'.cell? ⟨g1,0,none⟩=some (.int .u8 x))∧(w'.cell? ⟨g2,k,none⟩=some (.int .u8 z))) (by kernel_rfl) ⟨ecell_later hd0 x1,ecell_later hd0 z0⟩ (fun hH0=>?_)
         refine tK 0 86 hH0 ?_
         try simp only[Act.put,zsA,zsB,zsC]
         refine tK 1 87 hH0 ?_
         try simp only[Act.put,zsA,zsB,zsC]
         refine tK 2 88 hH0 ?_
         try simp only[Act.put,zsA,zsB,zsC]
         refine tK 3 89 hH0 ?_
         try simp only[Act.put,zsA,zsB,zsC]
         refine tK 4 90 hH0 ?_
         try simp only[Act.put,zsA,zsB,zsC]
         refine tK 5 91 hH0 ?_
         try simp only[Act.put,zsA,zsB,zsC]
         refine tK 6 92 hH0 ?_
         try simp only[Act.put,zsA,zsB,zsC]
         refine tK 7 93 hH0 ?_
         try simp only[Act.put,zsA,zsB,zsC]
         refine tK 8 94 hH0 ?_
         try simp only[Act.put,zsA,zsB,zsC]
         refine tK 9 95 hH0 ?_
         try simp only[Act.put,zsA,zsB,zsC]
         refine tK 10 96 hH0 ?_
         try simp only[Act.put,zsA,zsB,zsC]
         refine tK 11 97 hH0 ?_
         try simp only[Act.put,zsA,zsB,zsC]
         refine tK 12 98 hH0 ?_
         try simp only[Act.put,zsA,zsB,zsC]
         refine tK 13 99 hH0 ?_
         try simp only[Act.put,zsA,zsB,zsC]
         refine tK 14 100 hH0 ?_
         try simp only[Act.put,zsA,zsB,zsC]
         refine wpAnyH_done (by kernel_rfl) ?_ _
         have x2:=ecell_later hd0 x1
         go_wp2_with fail
         go_roundw
         case rel=>exact⟨0+1,by omega,by go_num,by rw[HN.out],Below.drew HWQ.out⟩
         case measure=>simp[intOf];omega
        ·have hki:decide (((f 0:Nat):Int)<(M.length:Int))=false:=decide_eq_false (by omega)
         clear hk HP1 HP2
         generalize f 0=k at *
         go_upto_region 10 with fail
         have hd0:=Below.drew (Below.refl wq.heap.size wq)
         refine wp_region_held_drew (S:=fun w'=>w'.cell? ⟨g1,0,none⟩=some (.int .u8 x)) (by kernel_rfl) (ecell_later hd0 x1) (fun hH0=>?_)
         refine tK 0 86 hH0 ?_
         try simp only[Act.put,zsA,zsB,zsC]
         refine tK 1 87 hH0 ?_
         try simp only[Act.put,zsA,zsB,zsC]
         refine tK 2 88 hH0 ?_
         try simp only[Act.put,zsA,zsB,zsC]
         refine tK 3 89 hH0 ?_
         try simp only[Act.put,zsA,zsB,zsC]
         refine tK 4 90 hH0 ?_
         try simp only[Act.put,zsA,zsB,zsC]
         refine tU 5 91 hH0 ?_
         try simp only[Act.put,zsA,zsB,zsC]
         refine tU 6 92 hH0 ?_
         try simp only[Act.put,zsA,zsB,zsC]
         refine tU 7 93 hH0 ?_
         try simp only[Act.put,zsA,zsB,zsC]
         refine tU 8 94 hH0 ?_
         try simp only[Act.put,zsA,zsB,zsC]
         refine tU 9 95 hH0 ?_
         try simp only[Act.put,zsA,zsB,zsC]
         refine tU 10 96 hH0 ?_
         try simp only[Act.put,zsA,zsB,zsC]
         refine tU 11 97 hH0 ?_
         try simp only[Act.put,zsA,zsB,zsC]
         refine tU 12 98 hH0 ?_
         try simp only[Act.put,zsA,zsB,zsC]
         refine tU 13 99 hH0 ?_
         try simp only[Act.put,zsA,zsB,zsC]
         refine tK 14 100 hH0 ?_
         try simp only[Act.put,zsA,zsB,zsC]
         refine wpAnyH_done (by kernel_rfl) ?_ _
         have x2:=ecell_later hd0 x1
         go_wp2_with fail
         go_roundw
         case rel=>exact⟨0+1,by omega,by go_num,by rw[HN.out],Below.drew HWQ.out⟩
         case measure=>simp[intOf];omega
      ·have d3:(gI L 0 == 1)=false:=by simpa using hx1
       clear hx1 hx
       have HTF:=Lib.hid (HF.out.2.2 0 hlt)
       clear HF HR
       generalize gI L 0=x at *
       go_upto_region 8 with fail
       have hd0:=Below.drew (Below.refl wr.heap.size wr)
       refine wp_region_held_drew (S:=fun w'=>(w'.cell? ⟨g1,0,none⟩=some (.int .u8 x))) (by kernel_rfl) (ecell_later hd0 x0) (fun hH0=>?_)
       refine tK 0 34 hH0 ?_
       try simp only[Act.put,zsA,zsB,zsC]
       refine tK 1 35 hH0 ?_
       try simp only[Act.put,zsA,zsB,zsC]
       refine tK 2 36 hH0 ?_
       try simp only[Act.put,zsA,zsB,zsC]
       refine tK 3 37 hH0 ?_
       try simp only[Act.put,zsA,zsB,zsC]
       refine tK 4 38 hH0 ?_
       try simp only[Act.put,zsA,zsB,zsC]
       refine tK 5 39 hH0 ?_
       try simp only[Act.put,zsA,zsB,zsC]
       refine tK 6 40 hH0 ?_
       try simp only[Act.put,zsA,zsB,zsC]
       refine tK 7 41 hH0 ?_
       try simp only[Act.put,zsA,zsB,zsC]
       refine tK 8 42 hH0 ?_
       try simp only[Act.put,zsA,zsB,zsC]
       refine tK 9 43 hH0 ?_
       try simp only[Act.put,zsA,zsB,zsC]
       refine tK 10 44 hH0 ?_
       try simp only[Act.put,zsA,zsB,zsC]
       refine tK 11 45 hH0 ?_
       try simp only[Act.put,zsA,zsB,zsC]
       refine tK 12 46 hH0 ?_
       try simp only[Act.put,zsA,zsB,zsC]
       refine tK 13 47 hH0 ?_
       try simp only[Act.put,zsA,zsB,zsC]
       refine tK 14 48 hH0 ?_
       try simp only[Act.put,zsA,zsB,zsC]
       refine tK 15 49 hH0 ?_
       try simp only[Act.put,zsA,zsB,zsC]
       refine tU 16 50 hH0 ?_
       try simp only[Act.put,zsA,zsB,zsC]
       refine tU 17 51 hH0 ?_
       try simp only[Act.put,zsA,zsB,zsC]
       refine tU 18 52 hH0 ?_
       try simp only[Act.put,zsA,zsB,zsC]
       refine tU 19 53 hH0 ?_
       try simp only[Act.put,zsA,zsB,zsC]
       refine tU 20 54 hH0 ?_
       try simp only[Act.put,zsA,zsB,zsC]
       refine tU 21 55 hH0 ?_
       try simp only[Act.put,zsA,zsB,zsC]
       refine tU 22 56 hH0 ?_
       try simp only[Act.put,zsA,zsB,zsC]
       refine tU 23 57 hH0 ?_
       try simp only[Act.put,zsA,zsB,zsC]
       refine tU 24 58 hH0 ?_
       try simp only[Act.put,zsA,zsB,zsC]
       refine tU 25 59 hH0 ?_
       try simp only[Act.put,zsA,zsB,zsC]
       refine tK 26 60 hH0 ?_
       try simp only[Act.put,zsA,zsB,zsC]
       refine tK 27 61 hH0 ?_
       try simp only[Act.put,zsA,zsB,zsC]
       refine tK 28 62 hH0 ?_
       try simp only[Act.put,zsA,zsB,zsC]
       refine tK 29 63 hH0 ?_
       try simp only[Act.put,zsA,zsB,zsC]
       refine tK 30 64 hH0 ?_
       try simp only[Act.put,zsA,zsB,zsC]
       refine tK 31 65 hH0 ?_
       try simp only[Act.put,zsA,zsB,zsC]
       refine tK 32 66 hH0 ?_
       try simp only[Act.put,zsA,zsB,zsC]
       refine tK 33 67 hH0 ?_
       try simp only[Act.put,zsA,zsB,zsC]
       refine tK 34 68 hH0 ?_
       try simp only[Act.put,zsA,zsB,zsC]
       refine tU 35 69 hH0 ?_
       try simp only[Act.put,zsA,zsB,zsC]
       refine tU 36 70 hH0 ?_
       try simp only[Act.put,zsA,zsB,zsC]
       refine tU 37 71 hH0 ?_
       try simp only[Act.put,zsA,zsB,zsC]
       refine tK 38 72 hH0 ?_
       try simp only[Act.put,zsA,zsB,zsC]
       refine tK 39 73 hH0 ?_
       try simp only[Act.put,zsA,zsB,zsC]
       refine tK 40 74 hH0 ?_
       try simp only[Act.put,zsA,zsB,zsC]
       refine tK 41 75 hH0 ?_
       try simp only[Act.put,zsA,zsB,zsC]
       refine tK 42 76 hH0 ?_
       try simp only[Act.put,zsA,zsB,zsC]
       refine tK 43 77 hH0 ?_
       try simp only[Act.put,zsA,zsB,zsC]
       refine tU 44 78 hH0 ?_
       try simp only[Act.put,zsA,zsB,zsC]
       refine tU 45 79 hH0 ?_
       try simp only[Act.put,zsA,zsB,zsC]
       refine tU 46 80 hH0 ?_
       try simp only[Act.put,zsA,zsB,zsC]
       refine tU 47 81 hH0 ?_
       try simp only[Act.put,zsA,zsB,zsC]
       refine tU 48 82 hH0 ?_
       try simp only[Act.put,zsA,zsB,zsC]
       refine tU 49 83 hH0 ?_
       try simp only[Act.put,zsA,zsB,zsC]
       refine tK 50 84 hH0 ?_
       try simp only[Act.put,zsA,zsB,zsC]
       refine tK 51 85 hH0 ?_
       try simp only[Act.put,zsA,zsB,zsC]
       refine wpAnyH_done (by kernel_rfl) ?_ _
       have x1:=ecell_later hd0 x0
       have HWQ:=Lib.hid (Below.drew HW.out)
       clear hd0 x0 HW
       generalize wr.drew=wq at *
       rcases HTF.out with ⟨hk,hz,hn⟩|⟨hk,hz,hn⟩
       ·obtain⟨g2,rfl,-,-,hc2⟩:=own_cell (HP2.out _ HWQ.out) (by omega)
        have z0:=hc2 _ hk
        rw[hz] at z0
        have hki:((f 0:Nat):Int)<(M.length:Int):=by omega
        have HN:=Lib.hid hn
        clear hc2 hz hn HP1 HP2 HTF
        generalize f 0=k at *
        go_upto_region 10 with fail
        have hd0:=Below.drew (Below.refl wq.heap.size wq)
        refine wp_region_held_drew (S:=fun w'=>(w'.cell? ⟨g1,0,none⟩=some (.int .u8 x))∧(w'.cell? ⟨g2,k,none⟩=some (.int .u8 x))) (by kernel_rfl) ⟨ecell_later hd0 x1,ecell_later hd0 z0⟩ (fun hH0=>?_)
        refine tK 0 86 hH0 ?_
        try simp only[Act.put,zsA,zsB,zsC]
        refine tK 1 87 hH0 ?_
        try simp only[Act.put,zsA,zsB,zsC]
        refine tK 2 88 hH0 ?_
        try simp only[Act.put,zsA,zsB,zsC]
        refine tK 3 89 hH0 ?_
        try simp only[Act.put,zsA,zsB,zsC]
        refine tK 4 90 hH0 ?_
        try simp only[Act.put,zsA,zsB,zsC]
        refine tK 5 91 hH0 ?_
        try simp only[Act.put,zsA,zsB,zsC]
        refine tK 6 92 hH0 ?_
        try simp only[Act.put,zsA,zsB,zsC]
        refine tK 7 93 hH0 ?_
        try simp only[Act.put,zsA,zsB,zsC]
        refine tK 8 94 hH0 ?_
        try simp only[Act.put,zsA,zsB,zsC]
        refine tK 9 95 hH0 ?_
        try simp only[Act.put,zsA,zsB,zsC]
        refine tK 10 96 hH0 ?_
        try simp only[Act.put,zsA,zsB,zsC]
        refine tK 11 97 hH0 ?_
        try simp only[Act.put,zsA,zsB,zsC]
        refine tK 12 98 hH0 ?_
        try simp only[Act.put,zsA,zsB,zsC]
        refine tK 13 99 hH0 ?_
        try simp only[Act.put,zsA,zsB,zsC]
        refine tK 14 100 hH0 ?_
        try simp only[Act.put,zsA,zsB,zsC]
        refine wpAnyH_done (by kernel_rfl) ?_ _
        go_wp2_with fail
        go_roundw
        case rel=>exact⟨0+1,by omega,by go_num,by rw[HN.out];go_num,Below.drew HWQ.out⟩
        case measure=>simp[intOf];omega
       ·have d8:(x != 6)=false:=by rw[hz];rfl
        have HN:=Lib.hid hn
        clear hz hn HTF
        by_cases hkm:f 0<M.length
        ·obtain⟨g2,rfl,-,-,hc2⟩:=own_cell (HP2.out _ HWQ.out) (by omega)
         have z0:=hc2 _ hkm
         have hki:((f 0:Nat):Int)<(M.length:Int):=by omega
         have d7:(gI M (f 0) == x)=false:=by simpa using hk hkm
         generalize gI M (f 0)=z at *
         clear hc2 hk HP1 HP2
         generalize f 0=k at *
         go_upto_region 10 with fail
         have hd0:=Below.drew (Below.refl wq.heap.size wq)
         refine wp_region_held_drew (S:=fun w'=>(w'.cell? ⟨g1,0,none⟩=some (.int .u8 x))∧(w'.cell? ⟨g2,k,none⟩=some (.int .u8 z))) (by kernel_rfl) ⟨ecell_later hd0 x1,ecell_later hd0 z0⟩ (fun hH0=>?_)
         refine tK 0 86 hH0 ?_
         try simp only[Act.put,zsA,zsB,zsC]
         refine tK 1 87 hH0 ?_
         try simp only[Act.put,zsA,zsB,zsC]
         refine tK 2 88 hH0 ?_
         try simp only[Act.put,zsA,zsB,zsC]
         refine tK 3 89 hH0 ?_
         try simp only[Act.put,zsA,zsB,zsC]
         refine tK 4 90 hH0 ?_
         try simp only[Act.put,zsA,zsB,zsC]
         refine tK 5 91 hH0 ?_
         try simp only[Act.put,zsA,zsB,zsC]
         refine tK 6 92 hH0 ?_
         try simp only[Act.put,zsA,zsB,zsC]
         refine tK 7 93 hH0 ?_
         try simp only[Act.put,zsA,zsB,zsC]
         refine tK 8 94 hH0 ?_
         try simp only[Act.put,zsA,zsB,zsC]
         refine tK 9 95 hH0 ?_
         try simp only[Act.put,zsA,zsB,zsC]
         refine tK 10 96 hH0 ?_
         try simp only[Act.put,zsA,zsB,zsC]
         refine tK 11 97 hH0 ?_
         try simp only[Act.put,zsA,zsB,zsC]
         refine tK 12 98 hH0 ?_
         try simp only[Act.put,zsA,zsB,zsC]
         refine tK 13 99 hH0 ?_
         try simp only[Act.put,zsA,zsB,zsC]
         refine tK 14 100 hH0 ?_
         try simp only[Act.put,zsA,zsB,zsC]
         refine wpAnyH_done (by kernel_rfl) ?_ _
         have x2:=ecell_later hd0 x1
         go_wp2_with fail
         go_roundw
         case rel=>exact⟨0+1,by omega,by go_num,by rw[HN.out],Below.drew HWQ.out⟩
         case measure=>simp[intOf];omega
        ·have hki:decide (((f 0:Nat):Int)<(M.length:Int))=false:=decide_eq_false (by omega)
         clear hk HP1 HP2
         generalize f 0=k at *
         go_upto_region 10 with fail
         have hd0:=Below.drew (Below.refl wq.heap.size wq)
         refine wp_region_held_drew (S:=fun w'=>w'.cell? ⟨g1,0,none⟩=some (.int .u8 x)) (by kernel_rfl) (ecell_later hd0 x1) (fun hH0=>?_)
         refine tK 0 86 hH0 ?_
         try simp only[Act.put,zsA,zsB,zsC]
         refine tK 1 87 hH0 ?_
         try simp only[Act.put,zsA,zsB,zsC]
         refine tK 2 88 hH0 ?_
         try simp only[Act.put,zsA,zsB,zsC]
         refine tK 3 89 hH0 ?_
         try simp only[Act.put,zsA,zsB,zsC]
         refine tK 4 90 hH0 ?_
         try simp only[Act.put,zsA,zsB,zsC]
         refine tU 5 91 hH0 ?_
         try simp only[Act.put,zsA,zsB,zsC]
         refine tU 6 92 hH0 ?_
         try simp only[Act.put,zsA,zsB,zsC]
         refine tU 7 93 hH0 ?_
         try simp only[Act.put,zsA,zsB,zsC]
         refine tU 8 94 hH0 ?_
         try simp only[Act.put,zsA,zsB,zsC]
         refine tU 9 95 hH0 ?_
         try simp only[Act.put,zsA,zsB,zsC]
         refine tU 10 96 hH0 ?_
         try simp only[Act.put,zsA,zsB,zsC]
         refine tU 11 97 hH0 ?_
         try simp only[Act.put,zsA,zsB,zsC]
         refine tU 12 98 hH0 ?_
         try simp only[Act.put,zsA,zsB,zsC]
         refine tU 13 99 hH0 ?_
         try simp only[Act.put,zsA,zsB,zsC]
         refine tK 14 100 hH0 ?_
         try simp only[Act.put,zsA,zsB,zsC]
         refine wpAnyH_done (by kernel_rfl) ?_ _
         have x2:=ecell_later hd0 x1
         go_wp2_with fail
         go_roundw
         case rel=>exact⟨0+1,by omega,by go_num,by rw[HN.out],Below.drew HWQ.out⟩
         case measure=>simp[intOf];omega
     ·obtain⟨p,hp⟩:∃ p,p+1=j:=⟨j - 1,by omega⟩
      have c0:=hc1 p (by omega)
      have hgt:decide ((0:Int)<(j:Int))=true:=by simp;omega
      have hpi:(j:Int) - 1=(p:Int):=by omega
      have hpw:IntKind.i64.wrap (p:Int)=(p:Int):=by rw[IntKind.wrap_i64];omega
      have hpl:p<L.length:=by omega
      have hpn:=HR.out.2 p (by omega)
      rw[hp] at hpn
      have hp1:=HR.out.1 p (by omega)
      have d4:decide (gI L j≤gI L p)=false:=decide_eq_false (by omega)
      have d5:(gI L p == 7)=false:=by simpa using hpn.2
      have d3:(gI L j == 1)=false:=by
       have:gI L j≠1:=by omega
       simpa using this
      clear hc1 hp1 hpn hp hx
      have HTF:=Lib.hid (HF.out.2.2 j hlt)
      clear HF HR
      generalize gI L j=x at *
      generalize gI L p=y at *
      go_upto_region 8 with fail
      have hd0:=Below.drew (Below.refl wr.heap.size wr)
      refine wp_region_held_drew (S:=fun w'=>(w'.cell? ⟨g1,j,none⟩=some (.int .u8 x))∧(w'.cell? ⟨g1,p,none⟩=some (.int .u8 y))) (by kernel_rfl) ⟨ecell_later hd0 x0,ecell_later hd0 c0⟩ (fun hH0=>?_)
      refine tK 0 34 hH0 ?_
      try simp only[Act.put,zsA,zsB,zsC]
      refine tK 1 35 hH0 ?_
      try simp only[Act.put,zsA,zsB,zsC]
      refine tK 2 36 hH0 ?_
      try simp only[Act.put,zsA,zsB,zsC]
      refine tK 3 37 hH0 ?_
      try simp only[Act.put,zsA,zsB,zsC]
      refine tK 4 38 hH0 ?_
      try simp only[Act.put,zsA,zsB,zsC]
      refine tK 5 39 hH0 ?_
      try simp only[Act.put,zsA,zsB,zsC]
      refine tK 6 40 hH0 ?_
      try simp only[Act.put,zsA,zsB,zsC]
      refine tK 7 41 hH0 ?_
      try simp only[Act.put,zsA,zsB,zsC]
      refine tK 8 42 hH0 ?_
      try simp only[Act.put,zsA,zsB,zsC]
      refine tK 9 43 hH0 ?_
      try simp only[Act.put,zsA,zsB,zsC]
      refine tK 10 44 hH0 ?_
      try simp only[Act.put,zsA,zsB,zsC]
      refine tK 11 45 hH0 ?_
      try simp only[Act.put,zsA,zsB,zsC]
      refine tK 12 46 hH0 ?_
      try simp only[Act.put,zsA,zsB,zsC]
      refine tK 13 47 hH0 ?_
      try simp only[Act.put,zsA,zsB,zsC]
      refine tK 14 48 hH0 ?_
      try simp only[Act.put,zsA,zsB,zsC]
      refine tK 15 49 hH0 ?_
      try simp only[Act.put,zsA,zsB,zsC]
      refine tK 16 50 hH0 ?_
      try simp only[Act.put,zsA,zsB,zsC]
      refine tK 17 51 hH0 ?_
      try simp only[Act.put,zsA,zsB,zsC]
      refine tK 18 52 hH0 ?_
      try simp only[Act.put,zsA,zsB,zsC]
      refine tK 19 53 hH0 ?_
      try simp only[Act.put,zsA,zsB,zsC]
      refine tK 20 54 hH0 ?_
      try simp only[Act.put,zsA,zsB,zsC]
      refine tK 21 55 hH0 ?_
      try simp only[Act.put,zsA,zsB,zsC]
      refine tK 22 56 hH0 ?_
      try simp only[Act.put,zsA,zsB,zsC]
      refine tK 23 57 hH0 ?_
      try simp only[Act.put,zsA,zsB,zsC]
      refine tK 24 58 hH0 ?_
      try simp only[Act.put,zsA,zsB,zsC]
      refine tK 25 59 hH0 ?_
      try simp only[Act.put,zsA,zsB,zsC]
      refine tK 26 60 hH0 ?_
      try simp only[Act.put,zsA,zsB,zsC]
      refine tK 27 61 hH0 ?_
      try simp only[Act.put,zsA,zsB,zsC]
      refine tK 28 62 hH0 ?_
      try simp only[Act.put,zsA,zsB,zsC]
      refine tK 29 63 hH0 ?_
      try simp only[Act.put,zsA,zsB,zsC]
      refine tK 30 64 hH0 ?_
      try simp only[Act.put,zsA,zsB,zsC]
      refine tK 31 65 hH0 ?_
      try simp only[Act.put,zsA,zsB,zsC]
      refine tK 32 66 hH0 ?_
      try simp only[Act.put,zsA,zsB,zsC]
      refine tK 33 67 hH0 ?_
      try simp only[Act.put,zsA,zsB,zsC]
      refine tK 34 68 hH0 ?_
      try simp only[Act.put,zsA,zsB,zsC]
      refine tU 35 69 hH0 ?_
      try simp only[Act.put,zsA,zsB,zsC]
      refine tU 36 70 hH0 ?_
      try simp only[Act.put,zsA,zsB,zsC]
      refine tU 37 71 hH0 ?_
      try simp only[Act.put,zsA,zsB,zsC]
      refine tK 38 72 hH0 ?_
      try simp only[Act.put,zsA,zsB,zsC]
      refine tK 39 73 hH0 ?_
      try simp only[Act.put,zsA,zsB,zsC]
      refine tK 40 74 hH0 ?_
      try simp only[Act.put,zsA,zsB,zsC]
      refine tK 41 75 hH0 ?_
      try simp only[Act.put,zsA,zsB,zsC]
      refine tK 42 76 hH0 ?_
      try simp only[Act.put,zsA,zsB,zsC]
      refine tK 43 77 hH0 ?_
      try simp only[Act.put,zsA,zsB,zsC]
      refine tK 44 78 hH0 ?_
      try simp only[Act.put,zsA,zsB,zsC]
      refine tK 45 79 hH0 ?_
      try simp only[Act.put,zsA,zsB,zsC]
      refine tK 46 80 hH0 ?_
      try simp only[Act.put,zsA,zsB,zsC]
      refine tK 47 81 hH0 ?_
      try simp only[Act.put,zsA,zsB,zsC]
      refine tK 48 82 hH0 ?_
      try simp only[Act.put,zsA,zsB,zsC]
      refine tK 49 83 hH0 ?_
      try simp only[Act.put,zsA,zsB,zsC]
      refine tK 50 84 hH0 ?_
      try simp only[Act.put,zsA,zsB,zsC]
      refine tK 51 85 hH0 ?_
      try simp only[Act.put,zsA,zsB,zsC]
      refine wpAnyH_done (by kernel_rfl) ?_ _
      have x1:=ecell_later hd0 x0
      have HWQ:=Lib.hid (Below.drew HW.out)
      clear hd0 x0 HW c0
      generalize wr.drew=wq at *
      rcases HTF.out with ⟨hk,hz,hn⟩|⟨hk,hz,hn⟩
      ·obtain⟨g2,rfl,-,-,hc2⟩:=own_cell (HP2.out _ HWQ.out) (by omega)
       have z0:=hc2 _ hk
       rw[hz] at z0
       have hki:((f j:Nat):Int)<(M.length:Int):=by omega
       have HN:=Lib.hid hn
       clear hc2 hz hn HP1 HP2 HTF
       generalize f j=k at *
       go_upto_region 10 with fail
       have hd0:=Below.drew (Below.refl wq.heap.size wq)
       refine wp_region_held_drew (S:=fun w'=>(w'.cell? ⟨g1,j,none⟩=some (.int .u8 x))∧(w'.cell? ⟨g2,k,none⟩=some (.int .u8 x))) (by kernel_rfl) ⟨ecell_later hd0 x1,ecell_later hd0 z0⟩ (fun hH0=>?_)
       refine tK 0 86 hH0 ?_
       try simp only[Act.put,zsA,zsB,zsC]
       refine tK 1 87 hH0 ?_
       try simp only[Act.put,zsA,zsB,zsC]
       refine tK 2 88 hH0 ?_
       try simp only[Act.put,zsA,zsB,zsC]
       refine tK 3 89 hH0 ?_
       try simp only[Act.put,zsA,zsB,zsC]
       refine tK 4 90 hH0 ?_
       try simp only[Act.put,zsA,zsB,zsC]
       refine tK 5 91 hH0 ?_
       try simp only[Act.put,zsA,zsB,zsC]
       refine tK 6 92 hH0 ?_
       try simp only[Act.put,zsA,zsB,zsC]
       refine tK 7 93 hH0 ?_
       try simp only[Act.put,zsA,zsB,zsC]
       refine tK 8 94 hH0 ?_
       try simp only[Act.put,zsA,zsB,zsC]
       refine tK 9 95 hH0 ?_
       try simp only[Act.put,zsA,zsB,zsC]
       refine tK 10 96 hH0 ?_
       try simp only[Act.put,zsA,zsB,zsC]
       refine tK 11 97 hH0 ?_
       try simp only[Act.put,zsA,zsB,zsC]
       refine tK 12 98 hH0 ?_
       try simp only[Act.put,zsA,zsB,zsC]
       refine tK 13 99 hH0 ?_
       try simp only[Act.put,zsA,zsB,zsC]
       refine tK 14 100 hH0 ?_
       try simp only[Act.put,zsA,zsB,zsC]
       refine wpAnyH_done (by kernel_rfl) ?_ _
       go_wp2_with fail
       go_roundw
       case rel=>exact⟨j+1,by omega,by go_num,by rw[HN.out];go_num,Below.drew HWQ.out⟩
       case measure=>simp[intOf];omega
      ·have d8:(x != 6)=false:=by rw[hz];rfl
       have HN:=Lib.hid hn
       clear hz hn HTF
       by_cases hkm:f j<M.length
       ·obtain⟨g2,rfl,-,-,hc2⟩:=own_cell (HP2.out _ HWQ.out) (by omega)
        have z0:=hc2 _ hkm
        have hki:((f j:Nat):Int)<(M.length:Int):=by omega
        have d7:(gI M (f j) == x)=false:=by simpa using hk hkm
        generalize gI M (f j)=z at *
        clear hc2 hk HP1 HP2
        generalize f j=k at *
        go_upto_region 10 with fail
        have hd0:=Below.drew (Below.refl wq.heap.size wq)
        refine wp_region_held_drew (S:=fun w'=>(w'.cell? ⟨g1,j,none⟩=some (.int .u8 x))∧(w'.cell? ⟨g2,k,none⟩=some (.int .u8 z))) (by kernel_rfl) ⟨ecell_later hd0 x1,ecell_later hd0 z0⟩ (fun hH0=>?_)
        refine tK 0 86 hH0 ?_
        try simp only[Act.put,zsA,zsB,zsC]
        refine tK 1 87 hH0 ?_
        try simp only[Act.put,zsA,zsB,zsC]
        refine tK 2 88 hH0 ?_
        try simp only[Act.put,zsA,zsB,zsC]
        refine tK 3 89 hH0 ?_
        try simp only[Act.put,zsA,zsB,zsC]
        refine tK 4 90 hH0 ?_
        try simp only[Act.put,zsA,zsB,zsC]
        refine tK 5 91 hH0 ?_
        try simp only[Act.put,zsA,zsB,zsC]
        refine tK 6 92 hH0 ?_
        try simp only[Act.put,zsA,zsB,zsC]
        refine tK 7 93 hH0 ?_
        try simp only[Act.put,zsA,zsB,zsC]
        refine tK 8 94 hH0 ?_
        try simp only[Act.put,zsA,zsB,zsC]
        refine tK 9 95 hH0 ?_
        try simp only[Act.put,zsA,zsB,zsC]
        refine tK 10 96 hH0 ?_
        try simp only[Act.put,zsA,zsB,zsC]
        refine tK 11 97 hH0 ?_
        try simp only[Act.put,zsA,zsB,zsC]
        refine tK 12 98 hH0 ?_
        try simp only[Act.put,zsA,zsB,zsC]
        refine tK 13 99 hH0 ?_
        try simp only[Act.put,zsA,zsB,zsC]
        refine tK 14 100 hH0 ?_
        try simp only[Act.put,zsA,zsB,zsC]
        refine wpAnyH_done (by kernel_rfl) ?_ _
        have x2:=ecell_later hd0 x1
        go_wp2_with fail
        go_roundw
        case rel=>exact⟨j+1,by omega,by go_num,by rw[HN.out],Below.drew HWQ.out⟩
        case measure=>simp[intOf];omega
       ·have hki:decide (((f j:Nat):Int)<(M.length:Int))=false:=decide_eq_false (by omega)
        clear hk HP1 HP2
        generalize f j=k at *
        go_upto_region 10 with fail
        have hd0:=Below.drew (Below.refl wq.heap.size wq)
        refine wp_region_held_drew (S:=fun w'=>w'.cell? ⟨g1,j,none⟩=some (.int .u8 x)) (by kernel_rfl) (ecell_later hd0 x1) (fun hH0=>?_)
        refine tK 0 86 hH0 ?_
        try simp only[Act.put,zsA,zsB,zsC]
        refine tK 1 87 hH0 ?_
        try simp only[Act.put,zsA,zsB,zsC]
        refine tK 2 88 hH0 ?_
        try simp only[Act.put,zsA,zsB,zsC]
        refine tK 3 89 hH0 ?_
        try simp only[Act.put,zsA,zsB,zsC]
        refine tK 4 90 hH0 ?_
        try simp only[Act.put,zsA,zsB,zsC]
        refine tU 5 91 hH0 ?_
        try simp only[Act.put,zsA,zsB,zsC]
        refine tU 6 92 hH0 ?_
        try simp only[Act.put,zsA,zsB,zsC]
        refine tU 7 93 hH0 ?_
        try simp only[Act.put,zsA,zsB,zsC]
        refine tU 8 94 hH0 ?_
        try simp only[Act.put,zsA,zsB,zsC]
        refine tU 9 95 hH0 ?_
        try simp only[Act.put,zsA,zsB,zsC]
        refine tU 10 96 hH0 ?_
        try simp only[Act.put,zsA,zsB,zsC]
        refine tU 11 97 hH0 ?_
        try simp only[Act.put,zsA,zsB,zsC]
        refine tU 12 98 hH0 ?_
        try simp only[Act.put,zsA,zsB,zsC]
        refine tU 13 99 hH0 ?_
        try simp only[Act.put,zsA,zsB,zsC]
        refine tK 14 100 hH0 ?_
        try simp only[Act.put,zsA,zsB,zsC]
        refine wpAnyH_done (by kernel_rfl) ?_ _
        have x2:=ecell_later hd0 x1
        go_wp2_with fail
        go_roundw
        case rel=>exact⟨j+1,by omega,by go_num,by rw[HN.out],Below.drew HWQ.out⟩
        case measure=>simp[intOf];omega
    ·obtain rfl:j=L.length:=by omega
     have hfe:=HF.out.2.1
     rw[hfe]
     clear HF HR HP1 HP2
     have HB3:=Lib.hid (HB2.out.trans (HW.out.mono HB2.out.size))
     go_wp2_with fail
     refine(awake19_any _ (HQ.out.below HB3.out)).mono ?_
     rintro e w4 ⟨rfl,hbz⟩
     have HB4:=Lib.hid (HB3.out.trans (hbz.mono HB3.out.size))
     clear hbz HB3
     go_wp2_with fail
     go_ret
     exact⟨rfl,HB4.out⟩
end Go.Proofs.YtjkgkmmkehnggaaGreatDoor
