/- cMS cYf cYh. -/
import Derived.Test.YtjkgkmmkehnggaaGreatDoorYs
import Derived.Test.YtjkgkmmkehnggaaGreatDoorYc4
set_option maxHeartbeats 16000000
namespace Go.Proofs.YtjkgkmmkehnggaaGreatDoor
set_option linter.unusedVariables false
set_option linter.unusedSimpArgs false
open Go.RowKit
set_option maxRecDepth 20000
set_option maxRecDepth 20000 in
theorem xjz (t:ByteArray) (w:World) (h127:t.size<127):Calls Tryz.prog 38 #[.string t] w fun e w'=>e=.returned (.tuple #[.agg (cH xae),.int .i64 3])∧Below w.heap.size w w':=by
 have HZ:=HAt.zero w 93
 have hd:decide ((t.size:Int)<127)=true:=by simp;omega
 clear h127
 go_enter Tryz.func38,Tryz.ntmps38
 go_wp2_with (first|(refine xbl (by rfl) _ _ rfl _ rfl xae rfl _ xae (by assumption) rfl ?_;intro w2 HP)|fail)
 refine bodyPost_ret (v:=.tuple #[.agg (cH xae),.int .i64 3]) (xba Tryz.results38 _ _ _ _ _ _ rfl rfl HP.1) rfl ⟨rfl,HP.2.2.1 _ _ (Nat.le_refl _) ((Below.refl _ _).alloc (Nat.le_refl _) _)⟩
theorem xAz (t:ByteArray) (hm:t.size≤maxLen) (h:127≤t.size) (W:World):Calls Tryz.prog 96 #[.agg #[.string t,.int .i64 0,.int .i64 0],.int .i64 7] W fun e w'=>e=.returned (.tuple #[.string (t.extract 0 7),.agg #[.string t,.int .i64 7,.int .i64 0]])∧Below W.heap.size W w' :=
 xkw t 0 7 W hm (xlp t 0 7 hm (by omega) (by omega) (by omega)) (by omega) (by omega) (by omega)
theorem xDk (t:ByteArray) (hm:t.size≤maxLen) (h:127≤t.size) (W:World):Calls Tryz.prog 97 #[.agg #[.string t,.int .i64 7,.int .i64 0],.int .i64 1] W fun e w'=>e=.returned (.tuple #[.int .u64 (nmB t 7 1),.agg #[.string t,.int .i64 8,.int .i64 0]])∧Below W.heap.size W w' :=
 xjn t 7 1 W hm (by omega) (by omega) (by omega)
set_option maxRecDepth 20000 in
theorem xmn (t:ByteArray) (w:World) (hm:t.size≤maxLen) (h127:127≤t.size) (E:Hd × Int) (hE:xcB (xb2 t)=E):Calls Tryz.prog 38 #[.string t] w fun e w'=>e=.returned (.tuple #[.agg (cH E.1),.int .i64 E.2])∧Below w.heap.size w w':=by
 have HZ:=HAt.zero w 93
 have hd:decide ((t.size:Int)<127)=false:=by simp;omega
 have HE:=lH hE
 have HM:=lH hm
 have HL:=lH h127
 have K7:=lH (xAz t hm h127)
 have N7:=lH (xDk t hm h127)
 have KF:=lH (fun W=>xoQ t W hm h127)
 have KC:=lH (fun W=>xei (xaN t) W (xnt t h127))
 clear hE hm h127
 obtain⟨s7,hs7⟩:∃ s,t.extract 0 7=s:=⟨_,rfl⟩
 rw[hs7] at K7
 have HS7:=lH hs7
 clear hs7
 go_enter Tryz.func38,Tryz.ntmps38
 go_upto_region 3 with fail
 obtain⟨W0,hW0⟩:∃ W0,w.alloc (.cells #[.int .u64 xae.rf,.int .u64 xae.rl,.int .u64 xae.mf,.int .u64 xae.ml,.int .u64 xae.lf,.int .u64 xae.ll,.int .u64 xae.df,.int .u64 xae.dl,.int .u64 xae.ad,.int .u64 xae.en,.int .u64 xae.co,.bool xae.cl,.int .u8 xae.inn,.int .u8 xae.out,.int .u8 xae.knd,.int .i64 xae.z0,.int .i64 xae.z1,.int .i64 xae.lo0,.int .i64 xae.la0,.int .i64 xae.lo1,.int .i64 xae.la1,.int .i64 xae.zm,.int .i64 xae.lon,.int .i64 xae.lat] 93)=W0:=⟨_,rfl⟩
 have hW2:w.alloc (.cells #[.int .u64 0,.int .u64 0,.int .u64 0,.int .u64 0,.int .u64 0,.int .u64 0,.int .u64 0,.int .u64 0,.int .u64 0,.int .u64 0,.int .u64 0,.bool false,.int .u8 0,.int .u8 0,.int .u8 0,.int .i64 0,.int .i64 0,.int .i64 0,.int .i64 0,.int .i64 0,.int .i64 0,.int .i64 0,.int .i64 0,.int .i64 0] 93)=W0:=hW0
 rw[hW0] at HZ
 have U0:Below w.heap.size w W0:=by rw[← hW0];exact(Below.refl _ _).alloc (Nat.le_refl _) _
 rw[hW2]
 clear hW0 hW2
 have HHZ:=lH HZ
 have HU0:=lH U0
 clear HZ U0 hd
 go_cut [4,5] (fun s p wx=>∃ g,s=.string s7∧p=.pointer (some ⟨g,0,none⟩)∧xaJ wx g t 7∧HAt wx w.heap.size 93 xae∧w.heap.size<g∧Below w.heap.size w wx)
 case first =>
  go_wp2_with fail
  refine(K7.out _).mono ?_
  rintro e w1 ⟨rfl,hb1⟩
  have h1:=HHZ.out.later hb1
  have u1:=HU0.out.trans (hb1.mono HU0.out.size)
  have hl:=h1.lt
  have HH1:=lH (And.intro h1 u1)
  clear h1 u1 hb1
  go_wp2_with fail
  go_meet
  case rel =>
   exact⟨_,rfl,rfl,heap_alloc_new w1 _,(xac hl).trans HH1.out.1,hl,HH1.out.2.alloc (by omega) _⟩
 case rest =>
 obtain⟨g,rfl,rfl,hS,hZ,hlt,hU⟩:=hcut
 generalize wc=w1 at *
 clear K7 HHZ HU0
 by_cases hn:s7=⟨#[80,77,84,105,108,101,115]⟩
 ·have hne:=xB1 hn
  subst hn
  have HN:=HS7.out
  obtain⟨s0,s1,s2,sf⟩:=hS.cells
  have hsl:=hS.lt
  have HS:=lH hS
  have HH1:=lH (And.intro hZ hU)
  obtain⟨y,hy⟩:∃ y,nmB t 7 1=y:=⟨_,rfl⟩
  rw[hy] at N7
  have HY:=lH hy
  have HNN:=lH HN
  clear hS hU hZ hy HN HS7
  go_upto_region 6 with fail
  go_cut [6] (fun x wx=>x=.int .u64 y∧xaJ wx g t 8∧HAt wx w.heap.size 93 xae∧Below w.heap.size w wx)
  case first =>
   go_wp2_with fail
   refine(N7.out _).mono ?_
   rintro e w2 ⟨rfl,hb2⟩
   have hS2:=HS.out.later hb2
   have hZ2:=HH1.out.1.later hb2
   have hU2:=HH1.out.2.trans (hb2.mono HH1.out.2.size)
   obtain⟨r0,r1,r2,rf⟩:=hS2.cells
   have HH2:=lH (And.intro hS2 (And.intro hZ2 hU2))
   clear hS2 hZ2 hU2 hb2
   go_wp2_with fail
   go_meet
   case rel =>
    have hk:∀ k,k≠g→(((w2.setCell ⟨g,0,none⟩ (.string t)).setCell ⟨g,1,none⟩ (.int .i64 8)).setCell ⟨g,2,none⟩ (.int .i64 0)).heap[k]?=w2.heap[k]?:=fun k hk=>by rw[xaL hk,xaL hk,xaL hk]
    exact⟨rfl,HH2.out.1.on,(hk _ (by omega)).trans HH2.out.2.1,((HH2.out.2.2.setCell (by show w.heap.size≤g;omega) _).setCell (by show w.heap.size≤g;omega) _).setCell (by show w.heap.size≤g;omega) _⟩
  case rest =>
  obtain⟨rfl,hS,hZ,hU⟩:=hcut
  generalize wc=w2 at *
  clear N7 HS HH1 s0 s1 s2 sf
  by_cases hv:y=3
  ·subst hv
   obtain⟨s0,s1,s2,sf⟩:=hS.cells
   have HH2:=lH (And.intro hZ hU)
   clear hS hU hZ
   have HTT:=lH (fun(c:Int) (hc:c=nmB t 96 1)=>hc)
   obtain⟨T,hT⟩:∃ T,xaN t=T:=⟨_,rfl⟩
   obtain⟨x,hx⟩:∃ x,nmB t 96 1=x:=⟨_,rfl⟩
   rw[hT,hx] at KF
   rw[hT] at KC
   have HT:=lH hT
   have HX:=lH hx
   clear hT hx HTT
   go_upto_region 9 with fail
   go_cut [7,8] (fun p c wx=>∃ k,p=.pointer (some ⟨k,0,none⟩)∧c=.int .u8 x∧HAt wx k 93 T∧HAt wx w.heap.size 93 xae∧w.heap.size<k∧Below w.heap.size w wx)
   case first =>
    go_wp2_with fail
    refine(KF.out _).mono ?_
    rintro e w3 ⟨rfl,hb3⟩
    have hZ3:=HH2.out.1.later hb3
    have hU3:=HH2.out.2.trans (hb3.mono HH2.out.2.size)
    have hl:=hZ3.lt
    have HH3:=lH (And.intro hZ3 hU3)
    have HZ:=HAt.zero w3 93
    clear hZ3 hU3 hb3 s0 s1 s2 sf
    go_wp2_with (first|(refine xbl (by rfl) _ _ rfl _ rfl T rfl _ xae (by assumption) rfl ?_;intro w4 HP)|fail)
    go_meet
    case rel=>exact⟨_,rfl,rfl,HP.1,HP.keep ((xac hl).trans HH3.out.1) (by omega),hl,HP.2.2.1 _ _ (by omega) (HH3.out.2.alloc (by omega) _)⟩
   case rest =>
   obtain⟨k,rfl,rfl,hA,hZ,hlk,hU⟩:=hcut
   generalize wc=w3 at *
   clear KF HH2 s0 s1 s2 sf
   by_cases hf:1<x
   ·have hE2:E=(xae,4):=HE.out.symm.trans (xqj t HL.out HNN.out HY.out (by rw[HX.out];exact hf))
    subst hE2
    have hd:decide (1<x)=true:=by simpa using hf
    have HU:=lH hU
    clear hf hU hA
    go_wp2_with (first|(refine xbl (by rfl) _ _ rfl _ rfl xae rfl _ xae (by assumption) rfl ?_;intro w5 HP)|fail)
    refine bodyPost_ret (v:=.tuple #[.agg (cH xae),.int .i64 4]) (xba Tryz.results38 _ _ _ _ _ _ rfl rfl HP.1) rfl ⟨rfl,HP.2.2.1 _ _ (Nat.le_refl _) HU.out⟩
   ·have hd:decide (1<x)=false:=by simpa using hf
    have hE1:ckH T≠0→E=(xae,ckH T):=fun hc=>HE.out.symm.trans (by rw[← HT.out] at hc ⊢;exact xtL t HL.out HNN.out HY.out (by rw[HX.out];exact hf) hc)
    have hE0:ckH T=0→E=(T,0):=fun hc=>HE.out.symm.trans (by rw[← HT.out] at hc ⊢;exact xz4 t HL.out HNN.out HY.out (by rw[HX.out];exact hf) hc)
    have HHA:=lH hA
    have HHR:=lH hZ
    have HU:=lH hU
    clear hf hU hZ
    obtain⟨r,hr⟩:∃ r,ckH T=r:=⟨_,rfl⟩
    rw[hr] at KC hE1 hE0
    by_cases h0:r=0
    ·subst h0
     have HE2:Hid (E=(T,0)):=lH (hE0 rfl)
     clear hr hE0 hE1
     go_wp2_with (first|(refine xaA (by rfl) _ rfl _ rfl _ T (by assumption) ?_)|fail)
     refine(KC.out _).mono ?_
     rintro e w6 ⟨rfl,hb⟩
     have hA6:=HHA.out.later hb
     have hR6:=HHR.out.later hb
     have u6:=HU.out.trans (hb.mono HU.out.size)
     have hee:Ending.returned (.tuple #[.agg (cH T),.int .i64 0])=.returned (.tuple #[.agg (cH E.1),.int .i64 E.2]):=by rw[HE2.out]
     have HU6:=lH u6
     have HEE:=lH hee
     clear hb HHA HHR HU hA hee u6
     go_wp2_with (first|(refine xaA (by rfl) _ rfl _ rfl _ T (by assumption) ?_)|(refine xbl (by rfl) _ _ rfl _ rfl T rfl _ xae (by assumption) rfl ?_;intro w7 HP)|fail)
     refine bodyPost_ret (v:=.tuple #[.agg (cH T),.int .i64 0]) (xba Tryz.results38 _ _ _ _ _ _ rfl rfl HP.1) rfl ⟨HEE.out,HP.2.2.1 _ _ (Nat.le_refl _) HU6.out⟩
    ·have HE2:Hid (E=(xae,r)):=lH (hE1 h0)
     have hne2:(r != 0)=true:=by simp only[bne_iff_ne,ne_eq];exact h0
     clear h0 hr hE0 hE1
     go_wp2_with (first|(refine xaA (by rfl) _ rfl _ rfl _ T (by assumption) ?_)|fail)
     refine(KC.out _).mono ?_
     rintro e w6 ⟨rfl,hb⟩
     have hR6:=HHR.out.later hb
     have u6:=HU.out.trans (hb.mono HU.out.size)
     have hee:Ending.returned (.tuple #[.agg (cH xae),.int .i64 r])=.returned (.tuple #[.agg (cH E.1),.int .i64 E.2]):=by rw[HE2.out]
     have HU6:=lH u6
     have HEE:=lH hee
     clear hb HHA HHR HU hA hee u6
     go_wp2_with (first|(refine xbl (by rfl) _ _ rfl _ rfl xae rfl _ xae (by assumption) rfl ?_;intro w7 HP)|fail)
     refine bodyPost_ret (v:=.tuple #[.agg (cH xae),.int .i64 r]) (xba Tryz.results38 _ _ _ _ _ _ rfl rfl HP.1) rfl ⟨HEE.out,HP.2.2.1 _ _ (Nat.le_refl _) HU6.out⟩
  ·have hE2:E=(xae,13):=HE.out.symm.trans (xkc t HL.out HNN.out (by rw[HY.out];exact hv))
   subst hE2
   have hv2:(y != 3)=true:=by simp only[bne_iff_ne,ne_eq];exact hv
   have HU:=lH hU
   clear hv hS hU KF KC
   go_wp2_with (first|(refine xbl (by rfl) _ _ rfl _ rfl xae rfl _ xae (by assumption) rfl ?_;intro w5 HP)|fail)
   refine bodyPost_ret (v:=.tuple #[.agg (cH xae),.int .i64 13]) (xba Tryz.results38 _ _ _ _ _ _ rfl rfl HP.1) rfl ⟨rfl,HP.2.2.1 _ _ (Nat.le_refl _) HU.out⟩
 ·have hE2:E=(xae,12):=HE.out.symm.trans (xof t HL.out (by rw[HS7.out];exact hn))
  subst hE2
  have hne:=xBc hn
  have HU:=lH hU
  clear hn hS hU KF KC N7
  go_wp2_with (first|(refine xbl (by rfl) _ _ rfl _ rfl xae rfl _ xae (by assumption) rfl ?_;intro w2 HP)|fail)
  refine bodyPost_ret (v:=.tuple #[.agg (cH xae),.int .i64 12]) (xba Tryz.results38 _ _ _ _ _ _ rfl rfl HP.1) rfl ⟨rfl,HP.2.2.1 _ _ (Nat.le_refl _) HU.out⟩
theorem xpp (t:ByteArray) (w:World) (hm:t.size≤maxLen):Calls Tryz.prog 38 #[.string t] w fun e w'=>e=.returned (.tuple #[.agg (cH (xcB (xb2 t)).1),.int .i64 (xcB (xb2 t)).2])∧Below w.heap.size w w':=by
 by_cases h127:t.size<127
 ·rw[xpr t h127];exact xjz t w h127
 ·exact xmn t w hm (by omega) _ rfl
def frK (h:Hd) (k:Nat):Int:=if k=0 then h.rf else if k=1 then h.mf else if k=2 then h.lf else h.df
def lnK (h:Hd) (k:Nat):Int:=if k=0 then h.rl else if k=1 then h.ml else if k=2 then h.ll else h.dl
def enK (h:Hd) (k:Nat):Int:=if k=0 then 127 else frK h (k - 1)+lnK h (k - 1)
def xh4 (h:Hd) (k:Nat):Prop:=∀ j,j<k→¬ frK h j<enK h j
theorem xh4.on {h:Hd} {k:Nat} (u:xh4 h k) (e:¬ frK h k<enK h k):xh4 h (k+1):=fun j hj=>by
 rcases(by omega:j<k∨j=k) with hj|rfl
 ·exact u j hj
 ·exact e
theorem xoA (h:Hd) (n:Int) (k:Nat) (hc:ckH h=0) (u:xh4 h k) (hk:k<4) (e:frK h k<enK h k):xfW h n=10:=by
 have a0:0<k→¬ h.rf<127:=fun hk=>u 0 hk
 have a1:1<k→¬ h.mf<h.rf+h.rl:=fun hk=>u 1 hk
 have a2:2<k→¬ h.lf<h.mf+h.ml:=fun hk=>u 2 hk
 unfold xfW
 rw[if_neg (fun f=>f hc)]
 obtain rfl|rfl|rfl|rfl:k=0∨k=1∨k=2∨k=3:=by omega
 ·have e:h.rf<127:=e
  rw[if_pos e]
 ·have e:h.mf<h.rf+h.rl:=e
  rw[if_neg (a0 (by omega)),if_pos e]
 ·have e:h.lf<h.mf+h.ml:=e
  rw[if_neg (a0 (by omega)),if_neg (a1 (by omega)),if_pos e]
 ·have e:h.df<h.lf+h.ll:=e
  rw[if_neg (a0 (by omega)),if_neg (a1 (by omega)),if_neg (a2 (by omega)),if_pos e]
theorem xqZ (h:Hd) (n:Int) (hc:ckH h=0) (u:xh4 h 4):xfW h n=if n<enK h 4 then 8 else 0:=by
 have a0:¬ h.rf<127:=u 0 (by omega)
 have a1:¬ h.mf<h.rf+h.rl:=u 1 (by omega)
 have a2:¬ h.lf<h.mf+h.ml:=u 2 (by omega)
 have a3:¬ h.df<h.lf+h.ll:=u 3 (by omega)
 unfold xfW
 rw[if_neg (fun f=>f hc),if_neg a0,if_neg a1,if_neg a2,if_neg a3]
 rfl
theorem xnb (f l:Int) (hf:U64 f) (hl:U64 l) (h:xhf f l=true):0≤f∧0≤l∧f+l≤1099511627776:=by
 simp only[xhf,Bool.and_eq_true,decide_eq_true_eq] at h
 unfold U64 at hf hl
 omega
theorem xyG (h:Hd) (k:Nat) (hm:xeR h) (hc:ckH h=0):0≤frK h k∧0≤lnK h k∧frK h k+lnK h k≤1099511627776:=by
 obtain⟨m0,m1,m2,m3,m4,m5,m6,m7,-⟩:=hm
 have hs:=(xlU h hc).1
 simp only[xcG,Bool.and_eq_true] at hs
 unfold frK lnK
 split
 ·exact xnb _ _ m0 m1 hs.1
 split
 ·exact xnb _ _ m2 m3 hs.2.1
 split
 ·exact xnb _ _ m4 m5 hs.2.2.1
 ·exact xnb _ _ m6 m7 hs.2.2.2
theorem xnh (h:Hd) (k:Nat) (hk:k<4) (W:World):Sem.run Tryz.prog (Instr.index 165 (.agg #[.int .u64 h.rf,.int .u64 h.rl,.int .u64 h.mf,.int .u64 h.ml,.int .u64 h.lf,.int .u64 h.ll,.int .u64 h.df,.int .u64 h.dl]) (.int .i64 k)) W=.ok (.agg #[.int .u64 (frK h k),.int .u64 (lnK h k)]) W:=by
 have hI:=xli (.int .u64 h.rf) (.int .u64 h.rl) (.int .u64 h.mf) (.int .u64 h.ml) (.int .u64 h.lf) (.int .u64 h.ll) (.int .u64 h.df) (.int .u64 h.dl) W
 obtain rfl|rfl|rfl|rfl:k=0∨k=1∨k=2∨k=3:=by omega
 ·exact hI.1
 ·exact hI.2.1
 ·exact hI.2.2.1
 ·exact hI.2.2.2
set_option maxRecDepth 20000 in
theorem xuu (h:Hd) (n:Int) (w:World) (hm:xeR h):Calls Tryz.prog 40 #[.agg (cH h),.int .u64 n] w fun e w'=>e=.returned (.int .i64 (xfW h n))∧Below w.heap.size w w':=by
 have HC:=lH (fun W=>xei h W hm)
 have H0:=HAt.made w h 93
 obtain⟨R,hR⟩:∃ R,xfW h n=R:=⟨_,rfl⟩
 rw[hR]
 have HR:=lH hR
 clear hR
 by_cases hc:ckH h=0
 ·rw[hc] at HC
  have HS:=lH (fun k=>xyG h k hm hc)
  have HK:=lH hc
  clear hm hc
  go_enter Tryz.func40,Tryz.ntmps40
  go_wp2_with (first|(refine xaA (by rfl) _ rfl _ rfl _ h (by assumption) ?_)|fail)
  refine(HC.out _).mono ?_
  rintro e w1 ⟨rfl,hb⟩
  have H1:=H0.below hb (by rw[World.size_alloc];omega)
  have u1:Below w.heap.size w w1:=Below.trans (by go_grown) (hb.mono (by rw[World.size_alloc];omega))
  have HU:=lH u1
  clear hb H0 u1 HC
  go_wp2_with (first|(refine xaA (by rfl) _ rfl _ rfl _ h (by assumption) ?_)|fail)
  refine(xfC h _).mono ?_
  rintro e w2 ⟨rfl,hb⟩
  have u2:=HU.out.trans (hb.mono HU.out.size)
  have HU2:=lH u2
  clear hb u2 HU H1
  go_wp2_with fail
  go_loopw [6,16] (fun e i wr=>∃ k:Nat,k≤4∧i=.int .i64 k∧e=.int .u64 (enK h k)∧Hid (xh4 h k)∧Hid (Below w.heap.size w wr)) (fun _ i _=>4 - (intOf i).toNat)
  case atStart=>exact⟨0,by omega,rfl,rfl,lH (fun j hj=>by omega),HU2⟩
  case round =>
   obtain⟨k,hk,rfl,rfl,HLU,HB⟩:=hrel
   by_cases hlt:k<4
   ·have hI:=fun W=>xnh h k hlt W
    have hs:=HS.out k
    have HEn:Hid (enK h (k+1)=frK h k+lnK h k):=lH rfl
    obtain⟨f,hf⟩:∃ f,frK h k=f:=⟨_,rfl⟩
    obtain⟨l,hl⟩:∃ l,lnK h k=l:=⟨_,rfl⟩
    obtain⟨q,hq⟩:∃ q,enK h k=q:=⟨_,rfl⟩
    rw[hf,hl] at hI hs HEn
    rw[hq]
    have HF:=lH hf
    have HQ:=lH hq
    clear hf hl hq
    have hd4:decide ((k:Int)<4)=true:=by simp;omega
    by_cases hb:f<q
    ·have hE:R=10:=HR.out.symm.trans (xoA h n k HK.out HLU.out hlt (by rw[HF.out,HQ.out];exact hb))
     subst hE
     have hd:decide (f<q)=true:=by simpa using hb
     clear hs hb HEn
     go_wp2_with fail
     go_ret
     exact⟨rfl,HB.out.alloc HB.out.size _⟩
    ·have HL2:=lH (HLU.out.on (by rw[HF.out,HQ.out];exact hb))
     have hd:decide (f<q)=false:=by simpa using hb
     have hw:IntKind.u64.wrap (f+l)=f+l:=by rw[IntKind.wrap_u64] <;> omega
     have HEnd:=lH (fun W=>xmc f l W)
     rw[hw,← HEn.out] at HEnd
     clear hs hb hw
     go_wp2_with fail
     refine(HEnd.out _).mono ?_
     rintro e w3 ⟨rfl,hb3⟩
     have HB3:=lH ((HB.out.alloc HB.out.size (.cells #[.int .u64 f,.int .u64 l] 91)).trans (hb3.mono (by rw[World.size_alloc];have:=HB.out.size;omega)))
     clear hb3
     go_wp2_with fail
     go_roundw
     case rel=>exact⟨k+1,by omega,by go_num,rfl,HL2,HB3⟩
     case measure=>simp[intOf];omega
   ·obtain rfl:k=4:=by omega
    have hE:=HR.out.symm.trans (xqZ h n HK.out HLU.out)
    obtain⟨q,hq⟩:∃ q,enK h 4=q:=⟨_,rfl⟩
    rw[hq] at hE ⊢
    clear hq
    by_cases hb:n<q
    ·rw[if_pos hb] at hE
     subst hE
     have hd:decide (n<q)=true:=by simpa using hb
     clear hb
     go_wp2_with fail
     go_ret
     exact⟨rfl,HB.out⟩
    ·rw[if_neg hb] at hE
     subst hE
     have hd:decide (n<q)=false:=by simpa using hb
     clear hb
     go_wp2_with fail
     go_ret
     exact⟨rfl,HB.out⟩
 ·have hE:R=ckH h:=HR.out.symm.trans (by unfold xfW;rw[if_pos hc])
  obtain⟨r,hr⟩:∃ r,ckH h=r:=⟨_,rfl⟩
  rw[hr] at hE hc HC
  subst hE
  have hne:(R != 0)=true:=by simp only[bne_iff_ne,ne_eq];exact hc
  clear hr HR hm hc
  go_enter Tryz.func40,Tryz.ntmps40
  go_wp2_with (first|(refine xaA (by rfl) _ rfl _ rfl _ h (by assumption) ?_)|fail)
  refine(HC.out _).mono ?_
  rintro e w1 ⟨rfl,hb⟩
  have u1:Below w.heap.size w w1:=Below.trans (by go_grown) (hb.mono (by rw[World.size_alloc];omega))
  clear hb H0
  go_wp2_with fail
  go_ret
  exact⟨rfl,u1⟩
end Go.Proofs.YtjkgkmmkehnggaaGreatDoor
namespace Go.Proofs.YtjkgkmmkehnggaaGreatDoor
set_option linter.unusedVariables false
set_option linter.unusedSimpArgs false
open Go.RowKit
set_option maxRecDepth 100000
def xxa (t:ByteArray) (h:Hd) (k:Nat):ByteArray:=xpm t (frK h k) (lnK h k)
theorem xA9 {t:ByteArray} {X:Hd} (h:xcB (xb2 t)=(X,0)) (ho:¬ xkX X t.size):xgA t=⟨X,⟨xxa t X 0,xxa t X 1,xxa t X 2,xxa t X 3⟩,0⟩:=by unfold xgA;rw[h,if_neg (by simp),if_neg ho];rfl
end Go.Proofs.YtjkgkmmkehnggaaGreatDoor
namespace Go.Proofs.YtjkgkmmkehnggaaGreatDoor
set_option linter.unusedVariables false
set_option linter.unusedSimpArgs false
open Go.RowKit
set_option maxRecDepth 20000
theorem xm6 (a b c:ByteArray) (f l:Int) (hf:f=a.size) (hl:l=b.size):xpm (a++b++c) f l=b:=by
 unfold xpm
 have h1:f.toNat=a.size:=by omega
 have h2:l.toNat=b.size:=by omega
 rw[h1,h2]
 apply ByteArray.ext
 apply Array.toList_inj.1
 rw[ByteArray.data_extract,Array.toList_extract,ByteArray.data_append,ByteArray.data_append,Array.toList_append,Array.toList_append]
 have ha:a.data.toList.length=a.size:=rfl
 have hb:b.data.toList.length=b.size:=rfl
 rw[List.extract_eq_take_drop,List.append_assoc,← ha,List.drop_left,show a.data.toList.length+b.size - a.data.toList.length=b.data.toList.length by omega,List.take_left]
def xe0 (h:Hd) (p:Pt):Hd:=xde h (xdf p).sec
def xyg (p:Pt):Nat:=p.p0.size+p.p1.size+p.p2.size+p.p3.size
theorem xlT {h:Hd} {p:Pt} (e:(xbB h p).2=0):ckH (xe0 h p)=0∧(xbB h p).1=str (xbL (xe0 h p))++p.p0++p.p1++p.p2++p.p3:=by
 unfold xbB at e ⊢
 split at e
 ·rename_i h1;exact absurd e h1
 split at e
 ·rename_i h2;exact absurd e h2
 rename_i h1 h2
 rw[if_neg h1,if_neg h2]
 have h3:=Classical.not_not.1 h2
 have hc:ckH (xde h (xdf p).sec)=0:=by
  unfold xg2 at h3
  split at h3
  ·assumption
  ·exact h3
 refine⟨hc,?_⟩
 unfold xg2 xe0
 rw[if_pos hc]
theorem xnR {h:Hd} {p:Pt} (hm:xeR h) (hp:Few p 200000000):xeR (xe0 h p):=xnL hm (xmG hp)
theorem xeI {h:Hd} {p:Pt} (hm:xeR h) (hp:Few p 200000000) (e:(xbB h p).2=0):(xbB h p).1.size=127+xyg p:=by
 obtain⟨hc,hs⟩:=xlT e
 rw[hs]
 simp only[ByteArray.size_append,xbv,xeV _ (xnR hm hp) hc,xyg]
 omega
theorem xg3 {h:Hd} {p:Pt} (hp:Few p 200000000):(xe0 h p).rf=127∧(xe0 h p).rl=p.p0.size∧(xe0 h p).mf=127+p.p0.size∧(xe0 h p).ml=p.p1.size∧(xe0 h p).lf=127+p.p0.size+p.p1.size∧(xe0 h p).ll=p.p2.size ∧
  (xe0 h p).df=127+p.p0.size+p.p1.size+p.p2.size∧(xe0 h p).dl=p.p3.size:=by
 unfold xe0
 rw[xhd hp]
 exact⟨rfl,rfl,rfl,rfl,rfl,rfl,rfl,rfl⟩
theorem xwf {h:Hd} {p:Pt} (hm:xeR h) (hc:ckH (xe0 h p)=0) (hp:Few p 200000000) (r:List Int):xcB (xbL (xe0 h p)++r)=(xe0 h p,0):=xx0 _ r (xnR hm hp) hc
theorem xu5 {h:Hd} {p:Pt} (hm:xeR h) (hp:Few p 200000000) (e:(xbB h p).2=0) (b:ByteArray):xgA ((xbB h p).1++b)=⟨xe0 h p,p,0⟩:=by
 have hz:=xeI hm hp e
 obtain⟨hc,hs⟩:=xlT e
 obtain⟨s0,s1,s2,s3,s4,s5,s6,s7⟩:=xg3 (h:=h) hp
 have hB:(str (xbL (xe0 h p))).size=127:=by rw[xbv,xeV _ (xnR hm hp) hc]
 have hd:xcB (xb2 ((xbB h p).1++b))=(xe0 h p,0):=by
  rw[hs]
  simp only[xs6,xBj _ (xoT _),List.append_assoc]
  exact xwf hm hc hp _
 have ho:¬ xkX (xe0 h p) ((xbB h p).1++b).size:=by
  rw[ByteArray.size_append,hz]
  unfold xkX xyg
  omega
 rw[xA9 hd ho]
 obtain⟨p0,p1,p2,p3⟩:=p
 dsimp only at s0 s1 s2 s3 s4 s5 s6 s7
 generalize hX:xe0 h ⟨p0,p1,p2,p3⟩=X at *
 have b0:xxa ((xbB h ⟨p0,p1,p2,p3⟩).1++b) X 0=p0:=by
  rw[hs,show str (xbL X)++p0++p1++p2++p3++b=str (xbL X)++p0++(p1++p2++p3++b) by simp only[ByteArray.append_assoc]]
  exact xm6 _ _ _ _ _ (by rw[hB];exact s0) s1
 have b1:xxa ((xbB h ⟨p0,p1,p2,p3⟩).1++b) X 1=p1:=by
  rw[hs,show str (xbL X)++p0++p1++p2++p3++b=(str (xbL X)++p0)++p1++(p2++p3++b) by simp only[ByteArray.append_assoc]]
  exact xm6 _ _ _ _ _ (by rw[ByteArray.size_append,hB];show X.mf=_;omega) s3
 have b2:xxa ((xbB h ⟨p0,p1,p2,p3⟩).1++b) X 2=p2:=by
  rw[hs,show str (xbL X)++p0++p1++p2++p3++b=(str (xbL X)++p0++p1)++p2++(p3++b) by simp only[ByteArray.append_assoc]]
  exact xm6 _ _ _ _ _ (by simp only[ByteArray.size_append,hB];show X.lf=_;omega) s5
 have b3:xxa ((xbB h ⟨p0,p1,p2,p3⟩).1++b) X 3=p3:=by
  rw[hs]
  exact xm6 _ _ _ _ _ (by simp only[ByteArray.size_append,hB];show X.df=_;omega) s7
 rw[b0,b1,b2,b3]
theorem xtb {h:Hd} {p:Pt} (hm:xeR h) (hp:Few p 200000000) (e:(xbB h p).2=0):xfW (xe0 h p) (xbB h p).1.size=0:=by
 have hz:=xeI hm hp e
 obtain⟨hc,hs⟩:=xlT e
 obtain⟨s0,s1,s2,s3,s4,s5,s6,s7⟩:=xg3 (h:=h) hp
 rw[hz]
 unfold xfW xyg
 rw[if_neg (fun f=>f hc),if_neg (by omega),if_neg (by omega),if_neg (by omega),if_neg (by omega),if_neg (by omega)]
theorem xvf {h:Hd} {p:Pt} (hm:xeR h) (hp:Few p 200000000) (e:(xbB h p).2=0):(xe0 h p).df+(xe0 h p).dl=(xbB h p).1.size:=by
 obtain⟨s0,s1,s2,s3,s4,s5,s6,s7⟩:=xg3 (h:=h) hp
 rw[xeI hm hp e]
 unfold xyg
 omega
end Go.Proofs.YtjkgkmmkehnggaaGreatDoor
