/- cMS cYe cPa cYb cPb cMV cYc cPc cPd cYf cYg cPe. -/
import Derived.Test.YtjinnigjfopbcaaGreatDoorJs
import Derived.Test.YtjinnigjfopbcaaGreatDoorJc3
import Derived.Test.YtjinnigjfopbcaaGreatDoorJa7
set_option maxHeartbeats 16000000
namespace Go.Proofs.YtjinnigjfopbcaaGreatDoor
set_option linter.unusedVariables false
set_option linter.unusedSimpArgs false
open Go.RowKit
set_option maxRecDepth 20000
set_option maxRecDepth 20000 in
theorem xhq (t:ByteArray) (w:World) (h127:t.size<127):Calls Tryz.prog 88 #[.string t] w fun e w'=>e=.returned (.tuple #[.agg (cH xac),.int .i64 3])∧Below w.heap.size w w':=by
 have HZ:=HAt.zero w 124
 have hd:decide ((t.size:Int)<127)=true:=by simp;omega
 clear h127
 go_enter Tryz.func88,Tryz.ntmps88
 go_wp2_with (first|(refine xbk (by rfl) _ _ rfl _ rfl xac rfl _ xac (by assumption) rfl ?_;intro w2 HP)|fail)
 refine bodyPost_ret (v:=.tuple #[.agg (cH xac),.int .i64 3]) (xaX Tryz.results88 _ _ _ _ _ _ rfl rfl HP.1) rfl ⟨rfl,HP.2.2.1 _ _ (Nat.le_refl _) ((Below.refl _ _).alloc (Nat.le_refl _) _)⟩
theorem xvX (t:ByteArray) (hm:t.size≤maxLen) (h:127≤t.size) (W:World):Calls Tryz.prog 165 #[.agg #[.string t,.int .i64 0,.int .i64 0],.int .i64 7] W fun e w'=>e=.returned (.tuple #[.string (t.extract 0 7),.agg #[.string t,.int .i64 7,.int .i64 0]])∧Below W.heap.size W w' :=
 xh5 t 0 7 W hm (xi0 t 0 7 hm (by omega) (by omega) (by omega)) (by omega) (by omega) (by omega)
theorem xxr (t:ByteArray) (hm:t.size≤maxLen) (h:127≤t.size) (W:World):Calls Tryz.prog 166 #[.agg #[.string t,.int .i64 7,.int .i64 0],.int .i64 1] W fun e w'=>e=.returned (.tuple #[.int .u64 (nmB t 7 1),.agg #[.string t,.int .i64 8,.int .i64 0]])∧Below W.heap.size W w' :=
 xhO t 7 1 W hm (by omega) (by omega) (by omega)
set_option maxRecDepth 20000 in
theorem xi4 (t:ByteArray) (w:World) (hm:t.size≤maxLen) (h127:127≤t.size) (E:Hd × Int) (hE:xch (xbO t)=E):Calls Tryz.prog 88 #[.string t] w fun e w'=>e=.returned (.tuple #[.agg (cH E.1),.int .i64 E.2])∧Below w.heap.size w w':=by
 have HZ:=HAt.zero w 124
 have hd:decide ((t.size:Int)<127)=false:=by simp;omega
 have HE:=lH hE
 have HM:=lH hm
 have HL:=lH h127
 have K7:=lH (xvX t hm h127)
 have N7:=lH (xxr t hm h127)
 have KF:=lH (fun W=>xkM t W hm h127)
 have KC:=lH (fun W=>xfA (xaF t) W (xq0 t h127))
 clear hE hm h127
 obtain⟨s7,hs7⟩:∃ s,t.extract 0 7=s:=⟨_,rfl⟩
 rw[hs7] at K7
 have HS7:=lH hs7
 clear hs7
 go_enter Tryz.func88,Tryz.ntmps88
 go_upto_region 3 with fail
 obtain⟨W0,hW0⟩:∃ W0,w.alloc (.cells #[.int .u64 xac.rf,.int .u64 xac.rl,.int .u64 xac.mf,.int .u64 xac.ml,.int .u64 xac.lf,.int .u64 xac.ll,.int .u64 xac.df,.int .u64 xac.dl,.int .u64 xac.ad,.int .u64 xac.en,.int .u64 xac.co,.bool xac.cl,.int .u8 xac.inn,.int .u8 xac.out,.int .u8 xac.knd,.int .i64 xac.z0,.int .i64 xac.z1,.int .i64 xac.lo0,.int .i64 xac.la0,.int .i64 xac.lo1,.int .i64 xac.la1,.int .i64 xac.zm,.int .i64 xac.lon,.int .i64 xac.lat] 124)=W0:=⟨_,rfl⟩
 have hW2:w.alloc (.cells #[.int .u64 0,.int .u64 0,.int .u64 0,.int .u64 0,.int .u64 0,.int .u64 0,.int .u64 0,.int .u64 0,.int .u64 0,.int .u64 0,.int .u64 0,.bool false,.int .u8 0,.int .u8 0,.int .u8 0,.int .i64 0,.int .i64 0,.int .i64 0,.int .i64 0,.int .i64 0,.int .i64 0,.int .i64 0,.int .i64 0,.int .i64 0] 124)=W0:=hW0
 rw[hW0] at HZ
 have U0:Below w.heap.size w W0:=by rw[← hW0];exact(Below.refl _ _).alloc (Nat.le_refl _) _
 rw[hW2]
 clear hW0 hW2
 have HHZ:=lH HZ
 have HU0:=lH U0
 clear HZ U0 hd
 go_cut [4,5] (fun s p wx=>∃ g,s=.string s7∧p=.pointer (some ⟨g,0,none⟩)∧xaz wx g t 7∧HAt wx w.heap.size 124 xac∧w.heap.size<g∧Below w.heap.size w wx)
 case first =>
  go_wp2_with fail
  refine(K7.out _).mono ?_
  rintro e w1 ⟨rfl,hb1⟩
  have h1:=HHZ.out.later hb1
  have u1:=HU0.out.trans (hb1.mono HU0.out.size)
  have hl:=h1.lt
  have HH1:=lH (And.intro h1 u1)
  clear h1 u1 hb1
  go_wp2_with fail
  go_meet
  case rel =>
   exact⟨_,rfl,rfl,heap_alloc_new w1 _,(xab hl).trans HH1.out.1,hl,HH1.out.2.alloc (by omega) _⟩
 case rest =>
 obtain⟨g,rfl,rfl,hS,hZ,hlt,hU⟩:=hcut
 generalize wc=w1 at *
 clear K7 HHZ HU0
 by_cases hn:s7=⟨#[80,77,84,105,108,101,115]⟩
 ·have hne:=xvo hn
  subst hn
  have HN:=HS7.out
  obtain⟨s0,s1,s2,sf⟩:=hS.cells
  have hsl:=hS.lt
  have HS:=lH hS
  have HH1:=lH (And.intro hZ hU)
  obtain⟨y,hy⟩:∃ y,nmB t 7 1=y:=⟨_,rfl⟩
  rw[hy] at N7
  have HY:=lH hy
  have HNN:=lH HN
  clear hS hU hZ hy HN HS7
  go_upto_region 6 with fail
  go_cut [6] (fun x wx=>x=.int .u64 y∧xaz wx g t 8∧HAt wx w.heap.size 124 xac∧Below w.heap.size w wx)
  case first =>
   go_wp2_with fail
   refine(N7.out _).mono ?_
   rintro e w2 ⟨rfl,hb2⟩
   have hS2:=HS.out.later hb2
   have hZ2:=HH1.out.1.later hb2
   have hU2:=HH1.out.2.trans (hb2.mono HH1.out.2.size)
   obtain⟨r0,r1,r2,rf⟩:=hS2.cells
   have HH2:=lH (And.intro hS2 (And.intro hZ2 hU2))
   clear hS2 hZ2 hU2 hb2
   go_wp2_with fail
   go_meet
   case rel =>
    have hk:∀ k,k≠g→(((w2.setCell ⟨g,0,none⟩ (.string t)).setCell ⟨g,1,none⟩ (.int .i64 8)).setCell ⟨g,2,none⟩ (.int .i64 0)).heap[k]?=w2.heap[k]?:=fun k hk=>by rw[xaE hk,xaE hk,xaE hk]
    exact⟨rfl,HH2.out.1.on,(hk _ (by omega)).trans HH2.out.2.1,((HH2.out.2.2.setCell (by show w.heap.size≤g;omega) _).setCell (by show w.heap.size≤g;omega) _).setCell (by show w.heap.size≤g;omega) _⟩
  case rest =>
  obtain⟨rfl,hS,hZ,hU⟩:=hcut
  generalize wc=w2 at *
  clear N7 HS HH1 s0 s1 s2 sf
  by_cases hv:y=3
  ·subst hv
   obtain⟨s0,s1,s2,sf⟩:=hS.cells
   have HH2:=lH (And.intro hZ hU)
   clear hS hU hZ
   have HTT:=lH (fun(c:Int) (hc:c=nmB t 96 1)=>hc)
   obtain⟨T,hT⟩:∃ T,xaF t=T:=⟨_,rfl⟩
   obtain⟨x,hx⟩:∃ x,nmB t 96 1=x:=⟨_,rfl⟩
   rw[hT,hx] at KF
   rw[hT] at KC
   have HT:=lH hT
   have HX:=lH hx
   clear hT hx HTT
   go_upto_region 9 with fail
   go_cut [7,8] (fun p c wx=>∃ k,p=.pointer (some ⟨k,0,none⟩)∧c=.int .u8 x∧HAt wx k 124 T∧HAt wx w.heap.size 124 xac∧w.heap.size<k∧Below w.heap.size w wx)
   case first =>
    go_wp2_with fail
    refine(KF.out _).mono ?_
    rintro e w3 ⟨rfl,hb3⟩
    have hZ3:=HH2.out.1.later hb3
    have hU3:=HH2.out.2.trans (hb3.mono HH2.out.2.size)
    have hl:=hZ3.lt
    have HH3:=lH (And.intro hZ3 hU3)
    have HZ:=HAt.zero w3 124
    clear hZ3 hU3 hb3 s0 s1 s2 sf
    go_wp2_with (first|(refine xbk (by rfl) _ _ rfl _ rfl T rfl _ xac (by assumption) rfl ?_;intro w4 HP)|fail)
    go_meet
    case rel=>exact⟨_,rfl,rfl,HP.1,HP.keep ((xab hl).trans HH3.out.1) (by omega),hl,HP.2.2.1 _ _ (by omega) (HH3.out.2.alloc (by omega) _)⟩
   case rest =>
   obtain⟨k,rfl,rfl,hA,hZ,hlk,hU⟩:=hcut
   generalize wc=w3 at *
   clear KF HH2 s0 s1 s2 sf
   by_cases hf:1<x
   ·have hE2:E=(xac,4):=HE.out.symm.trans (xnm t HL.out HNN.out HY.out (by rw[HX.out];exact hf))
    subst hE2
    have hd:decide (1<x)=true:=by simpa using hf
    have HU:=lH hU
    clear hf hU hA
    go_wp2_with (first|(refine xbk (by rfl) _ _ rfl _ rfl xac rfl _ xac (by assumption) rfl ?_;intro w5 HP)|fail)
    refine bodyPost_ret (v:=.tuple #[.agg (cH xac),.int .i64 4]) (xaX Tryz.results88 _ _ _ _ _ _ rfl rfl HP.1) rfl ⟨rfl,HP.2.2.1 _ _ (Nat.le_refl _) HU.out⟩
   ·have hd:decide (1<x)=false:=by simpa using hf
    have hE1:ckH T≠0→E=(xac,ckH T):=fun hc=>HE.out.symm.trans (by rw[← HT.out] at hc ⊢;exact xqe t HL.out HNN.out HY.out (by rw[HX.out];exact hf) hc)
    have hE0:ckH T=0→E=(T,0):=fun hc=>HE.out.symm.trans (by rw[← HT.out] at hc ⊢;exact xsB t HL.out HNN.out HY.out (by rw[HX.out];exact hf) hc)
    have HHA:=lH hA
    have HHR:=lH hZ
    have HU:=lH hU
    clear hf hU hZ
    obtain⟨r,hr⟩:∃ r,ckH T=r:=⟨_,rfl⟩
    rw[hr] at KC hE1 hE0
    by_cases h0:r=0
    ·subst h0
     have HE2:Hid (E=(T,0)):=lH (hE0 rfl)
     clear hr hE0 hE1
     go_wp2_with (first|(refine xaT (by rfl) _ rfl _ rfl _ T (by assumption) ?_)|fail)
     refine(KC.out _).mono ?_
     rintro e w6 ⟨rfl,hb⟩
     have hA6:=HHA.out.later hb
     have hR6:=HHR.out.later hb
     have u6:=HU.out.trans (hb.mono HU.out.size)
     have hee:Ending.returned (.tuple #[.agg (cH T),.int .i64 0])=.returned (.tuple #[.agg (cH E.1),.int .i64 E.2]):=by rw[HE2.out]
     have HU6:=lH u6
     have HEE:=lH hee
     clear hb HHA HHR HU hA hee u6
     go_wp2_with (first|(refine xaT (by rfl) _ rfl _ rfl _ T (by assumption) ?_)|(refine xbk (by rfl) _ _ rfl _ rfl T rfl _ xac (by assumption) rfl ?_;intro w7 HP)|fail)
     refine bodyPost_ret (v:=.tuple #[.agg (cH T),.int .i64 0]) (xaX Tryz.results88 _ _ _ _ _ _ rfl rfl HP.1) rfl ⟨HEE.out,HP.2.2.1 _ _ (Nat.le_refl _) HU6.out⟩
    ·have HE2:Hid (E=(xac,r)):=lH (hE1 h0)
     have hne2:(r != 0)=true:=by simp only[bne_iff_ne,ne_eq];exact h0
     clear h0 hr hE0 hE1
     go_wp2_with (first|(refine xaT (by rfl) _ rfl _ rfl _ T (by assumption) ?_)|fail)
     refine(KC.out _).mono ?_
     rintro e w6 ⟨rfl,hb⟩
     have hR6:=HHR.out.later hb
     have u6:=HU.out.trans (hb.mono HU.out.size)
     have hee:Ending.returned (.tuple #[.agg (cH xac),.int .i64 r])=.returned (.tuple #[.agg (cH E.1),.int .i64 E.2]):=by rw[HE2.out]
     have HU6:=lH u6
     have HEE:=lH hee
     clear hb HHA HHR HU hA hee u6
     go_wp2_with (first|(refine xbk (by rfl) _ _ rfl _ rfl xac rfl _ xac (by assumption) rfl ?_;intro w7 HP)|fail)
     refine bodyPost_ret (v:=.tuple #[.agg (cH xac),.int .i64 r]) (xaX Tryz.results88 _ _ _ _ _ _ rfl rfl HP.1) rfl ⟨HEE.out,HP.2.2.1 _ _ (Nat.le_refl _) HU6.out⟩
  ·have hE2:E=(xac,13):=HE.out.symm.trans (xid t HL.out HNN.out (by rw[HY.out];exact hv))
   subst hE2
   have hv2:(y != 3)=true:=by simp only[bne_iff_ne,ne_eq];exact hv
   have HU:=lH hU
   clear hv hS hU KF KC
   go_wp2_with (first|(refine xbk (by rfl) _ _ rfl _ rfl xac rfl _ xac (by assumption) rfl ?_;intro w5 HP)|fail)
   refine bodyPost_ret (v:=.tuple #[.agg (cH xac),.int .i64 13]) (xaX Tryz.results88 _ _ _ _ _ _ rfl rfl HP.1) rfl ⟨rfl,HP.2.2.1 _ _ (Nat.le_refl _) HU.out⟩
 ·have hE2:E=(xac,12):=HE.out.symm.trans (xlo t HL.out (by rw[HS7.out];exact hn))
  subst hE2
  have hne:=xvW hn
  have HU:=lH hU
  clear hn hS hU KF KC N7
  go_wp2_with (first|(refine xbk (by rfl) _ _ rfl _ rfl xac rfl _ xac (by assumption) rfl ?_;intro w2 HP)|fail)
  refine bodyPost_ret (v:=.tuple #[.agg (cH xac),.int .i64 12]) (xaX Tryz.results88 _ _ _ _ _ _ rfl rfl HP.1) rfl ⟨rfl,HP.2.2.1 _ _ (Nat.le_refl _) HU.out⟩
theorem xl6 (t:ByteArray) (w:World) (hm:t.size≤maxLen):Calls Tryz.prog 88 #[.string t] w fun e w'=>e=.returned (.tuple #[.agg (cH (xch (xbO t)).1),.int .i64 (xch (xbO t)).2])∧Below w.heap.size w w':=by
 by_cases h127:t.size<127
 ·rw[xmi t h127];exact xhq t w h127
 ·exact xi4 t w hm (by omega) _ rfl
def frK (h:Hd) (k:Nat):Int:=if k=0 then h.rf else if k=1 then h.mf else if k=2 then h.lf else h.df
def lnK (h:Hd) (k:Nat):Int:=if k=0 then h.rl else if k=1 then h.ml else if k=2 then h.ll else h.dl
theorem xjW (f l:Int) (hf:U64 f) (hl:U64 l) (h:xfS f l=true):0≤f∧0≤l∧f+l≤1099511627776:=by
 simp only[xfS,Bool.and_eq_true,decide_eq_true_eq] at h
 unfold U64 at hf hl
 omega
theorem xsY (h:Hd) (k:Nat) (hm:xeJ h) (hc:ckH h=0):0≤frK h k∧0≤lnK h k∧frK h k+lnK h k≤1099511627776:=by
 obtain⟨m0,m1,m2,m3,m4,m5,m6,m7,-⟩:=hm
 have hs:=(xiM h hc).1
 simp only[xcJ,Bool.and_eq_true] at hs
 unfold frK lnK
 split
 ·exact xjW _ _ m0 m1 hs.1
 split
 ·exact xjW _ _ m2 m3 hs.2.1
 split
 ·exact xjW _ _ m4 m5 hs.2.2.1
 ·exact xjW _ _ m6 m7 hs.2.2.2
theorem xpR (h:Hd) (k:Nat) (hk:k<4) (W:World):Sem.run Tryz.prog (Instr.index 199 (.agg #[.int .u64 h.rf,.int .u64 h.rl,.int .u64 h.mf,.int .u64 h.ml,.int .u64 h.lf,.int .u64 h.ll,.int .u64 h.df,.int .u64 h.dl]) (.int .i64 k)) W=.ok (.agg #[.int .u64 (frK h k),.int .u64 (lnK h k)]) W:=by
 have hI:=xjv (.int .u64 h.rf) (.int .u64 h.rl) (.int .u64 h.mf) (.int .u64 h.ml) (.int .u64 h.lf) (.int .u64 h.ll) (.int .u64 h.df) (.int .u64 h.dl) W
 obtain rfl|rfl|rfl|rfl:k=0∨k=1∨k=2∨k=3:=by omega
 ·exact hI.1
 ·exact hI.2.1
 ·exact hI.2.2.1
 ·exact hI.2.2.2
end Go.Proofs.YtjinnigjfopbcaaGreatDoor
namespace Go.Proofs.YtjinnigjfopbcaaGreatDoor
set_option linter.unusedVariables false
set_option linter.unusedSimpArgs false
open Go.RowKit
set_option maxRecDepth 100000
def xiF (p:Pt):Array Value:=#[.string p.p0,.string p.p1,.string p.p2,.string p.p3]
def Few (p:Pt) (n:Nat):Prop:=p.p0.size≤n∧p.p1.size≤n∧p.p2.size≤n∧p.p3.size≤n
theorem xff {p:Pt} (h:Few p 200000000):xcD p=⟨⟨127,p.p0.size,127+p.p0.size,p.p1.size,127+p.p0.size+p.p1.size,p.p2.size,127+p.p0.size+p.p1.size+p.p2.size,p.p3.size⟩,127+p.p0.size+p.p1.size+p.p2.size+p.p3.size,0⟩:=by
 obtain⟨h0,h1,h2,h3⟩:=h
 unfold xcD xn0
 rw[if_neg (by unfold xfb;omega)]
theorem xkd {p:Pt} (h:Few p 200000000):xwI (xcD p).sec:=by
 rw[xff h]
 obtain⟨h0,h1,h2,h3⟩:=h
 unfold xwI U64
 simp only
 omega
theorem xkx {h:Hd} {s:Sc} (hm:xeJ h) (hs:xwI s):xeJ (xcB h s):=by
 obtain⟨a0,a1,a2,a3,a4,a5,a6,a7,r⟩:=hm
 obtain⟨b0,b1,b2,b3,b4,b5,b6,b7⟩:=hs
 exact⟨b0,b1,b2,b3,b4,b5,b6,b7,r⟩
theorem xnC:Tryz.t9.size=1:=by kernel_rfl
theorem xoz:Tryz.t26.size=1:=by kernel_rfl
theorem xh0 (c0 c1 c2 c3:Value) (W:World) :
  Sem.run Tryz.prog (Instr.index 125 (.agg #[c0,c1,c2,c3]) (.int .i64 0)) W=.ok c0 W ∧
  Sem.run Tryz.prog (Instr.index 125 (.agg #[c0,c1,c2,c3]) (.int .i64 1)) W=.ok c1 W ∧
  Sem.run Tryz.prog (Instr.index 125 (.agg #[c0,c1,c2,c3]) (.int .i64 2)) W=.ok c2 W ∧
  Sem.run Tryz.prog (Instr.index 125 (.agg #[c0,c1,c2,c3]) (.int .i64 3)) W=.ok c3 W:=by
 refine⟨?_,?_,?_,?_⟩ <;> simp[Instr.index,run_underlying Tryz.underlying125,asIntOf,part,sizeOf,xnC,go_sem]
theorem xcf (c0 c1 c2 c3:Value) (W:World) :
  Sem.run Tryz.prog (Instr.index 248 (.agg #[c0,c1,c2,c3]) (.int .i64 0)) W=.ok c0 W ∧
  Sem.run Tryz.prog (Instr.index 248 (.agg #[c0,c1,c2,c3]) (.int .i64 1)) W=.ok c1 W ∧
  Sem.run Tryz.prog (Instr.index 248 (.agg #[c0,c1,c2,c3]) (.int .i64 2)) W=.ok c2 W ∧
  Sem.run Tryz.prog (Instr.index 248 (.agg #[c0,c1,c2,c3]) (.int .i64 3)) W=.ok c3 W:=by
 refine⟨?_,?_,?_,?_⟩ <;> simp[Instr.index,run_underlying Tryz.underlying248,asIntOf,part,sizeOf,xoz,go_sem]
theorem xlu (p:Pt) (w:World) (hp:Few p 200000000):Calls Tryz.prog 142 #[.agg (xiF p)] w fun e w'=>e=.returned (.agg #[.int .u64 p.p0.size,.int .u64 p.p1.size,.int .u64 p.p2.size,.int .u64 p.p3.size])∧Below w.heap.size w w':=by
 obtain⟨p0,p1,p2,p3⟩:=p
 obtain⟨l0,l1,l2,l3⟩:=hp
 dsimp only at l0 l1 l2 l3
 have w0:IntKind.u64.wrap (p0.size:Int)=(p0.size:Int):=by rw[IntKind.wrap_u64];omega
 have w1:IntKind.u64.wrap (p1.size:Int)=(p1.size:Int):=by rw[IntKind.wrap_u64];omega
 have w2:IntKind.u64.wrap (p2.size:Int)=(p2.size:Int):=by rw[IntKind.wrap_u64];omega
 have w3:IntKind.u64.wrap (p3.size:Int)=(p3.size:Int):=by rw[IntKind.wrap_u64];omega
 have i0:=fun W=>(xh0 (.string p0) (.string p1) (.string p2) (.string p3) W).1
 have i1:=fun W=>(xh0 (.string p0) (.string p1) (.string p2) (.string p3) W).2.1
 have i2:=fun W=>(xh0 (.string p0) (.string p1) (.string p2) (.string p3) W).2.2.1
 have i3:=fun W=>(xh0 (.string p0) (.string p1) (.string p2) (.string p3) W).2.2.2
 clear l0 l1 l2 l3
 unfold xiF
 go_enter Tryz.func142,Tryz.ntmps142
 go_wp2_with fail
 refine wp_loop_rounds 5 ?_
 rw[rounds_succ]
 go_wp2_with fail
 rw[rounds_succ]
 go_wp2_with fail
 rw[rounds_succ]
 go_wp2_with fail
 rw[rounds_succ]
 go_wp2_with fail
 rw[rounds_succ]
 go_wp2_with fail
 refine bodyPost_ret (v:=.agg #[.int .u64 p0.size,.int .u64 p1.size,.int .u64 p2.size,.int .u64 p3.size]) (by simp[results,Tryz.results142,go_sem]) rfl ⟨rfl,by go_grown⟩
def xws (h:Hd):Array Value:=#[.int .u64 h.rf,.int .u64 h.rl,.int .u64 h.mf,.int .u64 h.ml,.int .u64 h.lf,.int .u64 h.ll,.int .u64 h.df,.int .u64 h.dl]
theorem xkX (h:Hd) (w:World):Calls Tryz.prog 113 #[.agg (cH h)] w fun e w'=>e=.returned (.agg (xws h))∧Below w.heap.size w w':=by
 unfold cH xws
 go_enter Tryz.func113,Tryz.ntmps113
 go_wp2_with fail
 refine bodyPost_ret (v:=.agg #[.int .u64 h.rf,.int .u64 h.rl,.int .u64 h.mf,.int .u64 h.ml,.int .u64 h.lf,.int .u64 h.ll,.int .u64 h.df,.int .u64 h.dl]) (by simp[results,Tryz.results113,go_sem]) rfl ⟨rfl,by go_grown⟩
theorem xaJ (f l s:Int) (w:World) (hs:IntKind.u64.wrap (f+l)=s):Calls Tryz.prog 114 #[.agg #[.int .u64 f,.int .u64 l]] w fun e w'=>e=.returned (.int .u64 s)∧w'=w.alloc (.cells #[.int .u64 f,.int .u64 l] 122):=by
 subst hs
 go_enter Tryz.func114,Tryz.ntmps114
 go_wp2_with fail
 go_ret
 exact⟨rfl,rfl⟩
end Go.Proofs.YtjinnigjfopbcaaGreatDoor
namespace Go.Proofs.YtjinnigjfopbcaaGreatDoor
set_option linter.unusedVariables false
set_option linter.unusedSimpArgs false
open Go.RowKit
set_option maxRecDepth 20000
theorem xcg (w:World) (o:Obj):(w.alloc o).heap[w.heap.size]?=some o:=by
 show (w.heap.push o)[w.heap.size]?=_
 simp
def Box (w:World) (b:Nat) (arr:Array Value):Prop:=∃ T,w.heap[b]?=some (.cells arr T (0,0))
theorem xjn (w:World) (arr:Array Value) (T:TypeId):Box (w.alloc (.cells arr T)) w.heap.size arr:=⟨T,xcg w _⟩
theorem Box.lt {w:World} {b:Nat} {arr:Array Value} (h:Box w b arr):b<w.heap.size:=by obtain⟨T,h⟩:=h;exact(Array.getElem?_eq_some_iff.1 h).1
theorem Box.below {w w':World} {b:Nat} {arr:Array Value} (h:Box w b arr) (hb:Below w.heap.size w w'):Box w' b arr:=by
 have hl:=h.lt
 obtain⟨T,h⟩:=h
 exact⟨T,(hb.block b hl).trans h⟩
theorem Box.cell {w:World} {b:Nat} {arr:Array Value} (h:Box w b arr) (j:Nat):w.cell? ⟨b,j,none⟩=arr[j]?:=by
 obtain⟨T,h⟩:=h
 simp[World.cell?,h]
theorem Box.frz {w:World} {b:Nat} {arr:Array Value} (h:Box w b arr) (j:Nat):w.frozen? ⟨b,j,none⟩=false:=by
 obtain⟨T,h⟩:=h
 simp[World.frozen?,h]
theorem hset {w:World} {b:Nat} {arr:Array Value} {T:TypeId} (H:w.heap[b]?=some (.cells arr T (0,0))) (j:Nat) (v:Value):(w.setCell ⟨b,j,none⟩ v).heap[b]?=some (.cells (arr.setIfInBounds j v) T (0,0)):=by
 simp[World.setCell,Array.getElem?_modify,H]
theorem xdB {w:World} {b b':Nat} {o:Obj} (H:w.heap[b]?=some o) (hn:b≠b') (j:Nat) (v:Value):(w.setCell ⟨b',j,none⟩ v).heap[b]?=some o:=(Below.heap_setCell _ _ _ _ (by simpa using hn)).trans H
theorem hrow {w:World} {b:Nat} {arr cs:Array Value} {T:TypeId} (H:w.heap[b]?=some (.cells arr T (0,0))) (hs:arr.size=cs.size):(w.setRow b cs).heap[b]?=some (.cells cs T (0,0)):=by
 simp[World.setRow,Array.getElem?_modify,H]
def xjh (s:Sc):Array Value:=#[.int .u64 s.rf,.int .u64 s.rl,.int .u64 s.mf,.int .u64 s.ml,.int .u64 s.lf,.int .u64 s.ll,.int .u64 s.df,.int .u64 s.dl]
def xcy (P:Pl) (w:World) (e:Ending) (w':World):Prop:=e=.returned (.tuple #[.agg (xjh P.sec),.int .u64 P.all,.int .i64 P.err])∧Below w.heap.size w w'
end Go.Proofs.YtjinnigjfopbcaaGreatDoor
namespace Go.Proofs.YtjinnigjfopbcaaGreatDoor
set_option linter.unusedVariables false
set_option linter.unusedSimpArgs false
open Go.RowKit
set_option maxRecDepth 100000
theorem xlI (a b c d:Int) (w:World)  (hx:1099511627776<127+a) :
  Calls Tryz.prog 141 #[.agg #[.int .u64 a,.int .u64 b,.int .u64 c,.int .u64 d]] w (xcy ⟨xdy,0,8⟩ w):=by
 unfold xcy xjh xdy
 have g0:(1099511627649:Int)<a:=by omega
 clear  hx
 have i0:=fun W=>(xcf (.int .u64 a) (.int .u64 b) (.int .u64 c) (.int .u64 d) W).1
 have i1:=fun W=>(xcf (.int .u64 a) (.int .u64 b) (.int .u64 c) (.int .u64 d) W).2.1
 have i2:=fun W=>(xcf (.int .u64 a) (.int .u64 b) (.int .u64 c) (.int .u64 d) W).2.2.1
 have i3:=fun W=>(xcf (.int .u64 a) (.int .u64 b) (.int .u64 c) (.int .u64 d) W).2.2.2
 go_enter Tryz.func141,Tryz.ntmps141
 go_wp2_with fail
 refine wp_loop_rounds 5 ?_
 rw[rounds_succ]
 go_wp2_with fail
 refine bodyPost_ret (v:=.tuple #[.agg #[.int .u64 0,.int .u64 0,.int .u64 0,.int .u64 0,.int .u64 0,.int .u64 0,.int .u64 0,.int .u64 0],.int .u64 0,.int .i64 8]) (by simp[results,Tryz.results141,go_sem]) rfl ⟨rfl,by go_grown⟩
theorem xk1 (a b c d:Int) (w:World) (ha:0≤a) (hs:127+a≤1099511627776) (hx:1099511627776<127+a+b) :
  Calls Tryz.prog 141 #[.agg #[.int .u64 a,.int .u64 b,.int .u64 c,.int .u64 d]] w (xcy ⟨xdy,0,8⟩ w):=by
 unfold xcy xjh xdy
 have g0:¬ (1099511627649:Int)<a:=by omega
 have v1:IntKind.u64.wrap (1099511627776 - (127+a))=1099511627776 - (127+a):=by rw[IntKind.wrap_u64];omega
 have g1:(1099511627776 - (127+a):Int)<b:=by omega
 have w1:IntKind.u64.wrap (127+a)=127+a:=by rw[IntKind.wrap_u64];omega
 have HE0:=lH (fun W=>xaJ (127) a (127+a) W w1)
 clear ha hs hx
 have i0:=fun W=>(xcf (.int .u64 a) (.int .u64 b) (.int .u64 c) (.int .u64 d) W).1
 have i1:=fun W=>(xcf (.int .u64 a) (.int .u64 b) (.int .u64 c) (.int .u64 d) W).2.1
 have i2:=fun W=>(xcf (.int .u64 a) (.int .u64 b) (.int .u64 c) (.int .u64 d) W).2.2.1
 have i3:=fun W=>(xcf (.int .u64 a) (.int .u64 b) (.int .u64 c) (.int .u64 d) W).2.2.2
 go_enter Tryz.func141,Tryz.ntmps141
 go_wp2_with fail
 refine wp_loop_rounds 5 ?_
 rw[rounds_succ]
 go_wp2_with fail
 refine(HE0.out _).mono ?_
 rintro e w' ⟨rfl,rfl⟩
 go_wp2_with fail
 rw[rounds_succ]
 go_wp2_with fail
 refine bodyPost_ret (v:=.tuple #[.agg #[.int .u64 0,.int .u64 0,.int .u64 0,.int .u64 0,.int .u64 0,.int .u64 0,.int .u64 0,.int .u64 0],.int .u64 0,.int .i64 8]) (by simp[results,Tryz.results141,go_sem]) rfl ⟨rfl,by go_grown⟩
theorem xlz (a b c d:Int) (w:World) (ha:0≤a) (hb:0≤b) (hs:127+a+b≤1099511627776) (hx:1099511627776<127+a+b+c) :
  Calls Tryz.prog 141 #[.agg #[.int .u64 a,.int .u64 b,.int .u64 c,.int .u64 d]] w (xcy ⟨xdy,0,8⟩ w):=by
 unfold xcy xjh xdy
 have g0:¬ (1099511627649:Int)<a:=by omega
 have v1:IntKind.u64.wrap (1099511627776 - (127+a))=1099511627776 - (127+a):=by rw[IntKind.wrap_u64];omega
 have g1:¬ (1099511627776 - (127+a):Int)<b:=by omega
 have v2:IntKind.u64.wrap (1099511627776 - (127+a+b))=1099511627776 - (127+a+b):=by rw[IntKind.wrap_u64];omega
 have g2:(1099511627776 - (127+a+b):Int)<c:=by omega
 have w1:IntKind.u64.wrap (127+a)=127+a:=by rw[IntKind.wrap_u64];omega
 have w2:IntKind.u64.wrap (127+a+b)=127+a+b:=by rw[IntKind.wrap_u64];omega
 have HE0:=lH (fun W=>xaJ (127) a (127+a) W w1)
 have HE1:=lH (fun W=>xaJ (127+a) b (127+a+b) W w2)
 clear ha hb hs hx
 have i0:=fun W=>(xcf (.int .u64 a) (.int .u64 b) (.int .u64 c) (.int .u64 d) W).1
 have i1:=fun W=>(xcf (.int .u64 a) (.int .u64 b) (.int .u64 c) (.int .u64 d) W).2.1
 have i2:=fun W=>(xcf (.int .u64 a) (.int .u64 b) (.int .u64 c) (.int .u64 d) W).2.2.1
 have i3:=fun W=>(xcf (.int .u64 a) (.int .u64 b) (.int .u64 c) (.int .u64 d) W).2.2.2
 go_enter Tryz.func141,Tryz.ntmps141
 go_wp2_with fail
 refine wp_loop_rounds 5 ?_
 rw[rounds_succ]
 go_wp2_with fail
 refine(HE0.out _).mono ?_
 rintro e w' ⟨rfl,rfl⟩
 go_wp2_with fail
 rw[rounds_succ]
 go_wp2_with fail
 refine(HE1.out _).mono ?_
 rintro e w' ⟨rfl,rfl⟩
 go_wp2_with fail
 rw[rounds_succ]
 go_wp2_with fail
 refine bodyPost_ret (v:=.tuple #[.agg #[.int .u64 0,.int .u64 0,.int .u64 0,.int .u64 0,.int .u64 0,.int .u64 0,.int .u64 0,.int .u64 0],.int .u64 0,.int .i64 8]) (by simp[results,Tryz.results141,go_sem]) rfl ⟨rfl,by go_grown⟩
theorem xlq (a b c d:Int) (w:World) (ha:0≤a) (hb:0≤b) (hc:0≤c) (hs:127+a+b+c≤1099511627776) (hx:1099511627776<127+a+b+c+d) :
  Calls Tryz.prog 141 #[.agg #[.int .u64 a,.int .u64 b,.int .u64 c,.int .u64 d]] w (xcy ⟨xdy,0,8⟩ w):=by
 unfold xcy xjh xdy
 have g0:¬ (1099511627649:Int)<a:=by omega
 have v1:IntKind.u64.wrap (1099511627776 - (127+a))=1099511627776 - (127+a):=by rw[IntKind.wrap_u64];omega
 have g1:¬ (1099511627776 - (127+a):Int)<b:=by omega
 have v2:IntKind.u64.wrap (1099511627776 - (127+a+b))=1099511627776 - (127+a+b):=by rw[IntKind.wrap_u64];omega
 have g2:¬ (1099511627776 - (127+a+b):Int)<c:=by omega
 have v3:IntKind.u64.wrap (1099511627776 - (127+a+b+c))=1099511627776 - (127+a+b+c):=by rw[IntKind.wrap_u64];omega
 have g3:(1099511627776 - (127+a+b+c):Int)<d:=by omega
 have w1:IntKind.u64.wrap (127+a)=127+a:=by rw[IntKind.wrap_u64];omega
 have w2:IntKind.u64.wrap (127+a+b)=127+a+b:=by rw[IntKind.wrap_u64];omega
 have w3:IntKind.u64.wrap (127+a+b+c)=127+a+b+c:=by rw[IntKind.wrap_u64];omega
 have HE0:=lH (fun W=>xaJ (127) a (127+a) W w1)
 have HE1:=lH (fun W=>xaJ (127+a) b (127+a+b) W w2)
 have HE2:=lH (fun W=>xaJ (127+a+b) c (127+a+b+c) W w3)
 clear ha hb hc hs hx
 have i0:=fun W=>(xcf (.int .u64 a) (.int .u64 b) (.int .u64 c) (.int .u64 d) W).1
 have i1:=fun W=>(xcf (.int .u64 a) (.int .u64 b) (.int .u64 c) (.int .u64 d) W).2.1
 have i2:=fun W=>(xcf (.int .u64 a) (.int .u64 b) (.int .u64 c) (.int .u64 d) W).2.2.1
 have i3:=fun W=>(xcf (.int .u64 a) (.int .u64 b) (.int .u64 c) (.int .u64 d) W).2.2.2
 go_enter Tryz.func141,Tryz.ntmps141
 go_wp2_with fail
 refine wp_loop_rounds 5 ?_
 rw[rounds_succ]
 go_wp2_with fail
 refine(HE0.out _).mono ?_
 rintro e w' ⟨rfl,rfl⟩
 go_wp2_with fail
 rw[rounds_succ]
 go_wp2_with fail
 refine(HE1.out _).mono ?_
 rintro e w' ⟨rfl,rfl⟩
 go_wp2_with fail
 rw[rounds_succ]
 go_wp2_with fail
 refine(HE2.out _).mono ?_
 rintro e w' ⟨rfl,rfl⟩
 go_wp2_with fail
 rw[rounds_succ]
 go_wp2_with fail
 refine bodyPost_ret (v:=.tuple #[.agg #[.int .u64 0,.int .u64 0,.int .u64 0,.int .u64 0,.int .u64 0,.int .u64 0,.int .u64 0,.int .u64 0],.int .u64 0,.int .i64 8]) (by simp[results,Tryz.results141,go_sem]) rfl ⟨rfl,by go_grown⟩
theorem xra (a b c d:Int) (w:World) (ha:0≤a) (hb:0≤b) (hc:0≤c) (hd:0≤d) (hs:127+a+b+c+d≤1099511627776) :
  Calls Tryz.prog 141 #[.agg #[.int .u64 a,.int .u64 b,.int .u64 c,.int .u64 d]] w (xcy ⟨⟨127,a,127+a,b,127+a+b,c,127+a+b+c,d⟩,127+a+b+c+d,0⟩ w):=by
 unfold xcy xjh
 have g0:¬ (1099511627649:Int)<a:=by omega
 have v1:IntKind.u64.wrap (1099511627776 - (127+a))=1099511627776 - (127+a):=by rw[IntKind.wrap_u64];omega
 have g1:¬ (1099511627776 - (127+a):Int)<b:=by omega
 have v2:IntKind.u64.wrap (1099511627776 - (127+a+b))=1099511627776 - (127+a+b):=by rw[IntKind.wrap_u64];omega
 have g2:¬ (1099511627776 - (127+a+b):Int)<c:=by omega
 have v3:IntKind.u64.wrap (1099511627776 - (127+a+b+c))=1099511627776 - (127+a+b+c):=by rw[IntKind.wrap_u64];omega
 have g3:¬ (1099511627776 - (127+a+b+c):Int)<d:=by omega
 have w1:IntKind.u64.wrap (127+a)=127+a:=by rw[IntKind.wrap_u64];omega
 have w2:IntKind.u64.wrap (127+a+b)=127+a+b:=by rw[IntKind.wrap_u64];omega
 have w3:IntKind.u64.wrap (127+a+b+c)=127+a+b+c:=by rw[IntKind.wrap_u64];omega
 have w4:IntKind.u64.wrap (127+a+b+c+d)=127+a+b+c+d:=by rw[IntKind.wrap_u64];omega
 have HE0:=lH (fun W=>xaJ (127) a (127+a) W w1)
 have HE1:=lH (fun W=>xaJ (127+a) b (127+a+b) W w2)
 have HE2:=lH (fun W=>xaJ (127+a+b) c (127+a+b+c) W w3)
 have HE3:=lH (fun W=>xaJ (127+a+b+c) d (127+a+b+c+d) W w4)
 clear ha hb hc hd hs
 have i0:=fun W=>(xcf (.int .u64 a) (.int .u64 b) (.int .u64 c) (.int .u64 d) W).1
 have i1:=fun W=>(xcf (.int .u64 a) (.int .u64 b) (.int .u64 c) (.int .u64 d) W).2.1
 have i2:=fun W=>(xcf (.int .u64 a) (.int .u64 b) (.int .u64 c) (.int .u64 d) W).2.2.1
 have i3:=fun W=>(xcf (.int .u64 a) (.int .u64 b) (.int .u64 c) (.int .u64 d) W).2.2.2
 go_enter Tryz.func141,Tryz.ntmps141
 go_wp2_with fail
 refine wp_loop_rounds 5 ?_
 rw[rounds_succ]
 go_wp2_with fail
 refine(HE0.out _).mono ?_
 rintro e w' ⟨rfl,rfl⟩
 go_wp2_with fail
 rw[rounds_succ]
 go_wp2_with fail
 refine(HE1.out _).mono ?_
 rintro e w' ⟨rfl,rfl⟩
 go_wp2_with fail
 rw[rounds_succ]
 go_wp2_with fail
 refine(HE2.out _).mono ?_
 rintro e w' ⟨rfl,rfl⟩
 go_wp2_with fail
 rw[rounds_succ]
 go_wp2_with fail
 refine(HE3.out _).mono ?_
 rintro e w' ⟨rfl,rfl⟩
 go_wp2_with fail
 rw[rounds_succ]
 go_wp2_with fail
 refine bodyPost_ret (v:=.tuple #[.agg #[.int .u64 127,.int .u64 a,.int .u64 (127+a),.int .u64 b,.int .u64 (127+a+b),.int .u64 c,.int .u64 (127+a+b+c),.int .u64 d],.int .u64 (127+a+b+c+d),.int .i64 0]) (by simp[results,Tryz.results141,go_sem]) rfl ⟨rfl,by go_grown⟩
theorem xfT (a b c d:Int) (w:World) (ha:U64 a) (hb:U64 b) (hc:U64 c) (hd:U64 d):Calls Tryz.prog 141 #[.agg #[.int .u64 a,.int .u64 b,.int .u64 c,.int .u64 d]] w (xcy (xn0 a b c d) w):=by
 unfold U64 at ha hb hc hd
 unfold xn0
 by_cases h:xfb a b c d
 ·rw[if_pos h]
  unfold xfb at h
  by_cases h1:1099511627776<127+a
  ·exact xlI a b c d w h1
  by_cases h2:1099511627776<127+a+b
  ·exact xk1 a b c d w (by omega) (by omega) h2
  by_cases h3:1099511627776<127+a+b+c
  ·exact xlz a b c d w (by omega) (by omega) (by omega) h3
  exact xlq a b c d w (by omega) (by omega) (by omega) (by omega) (by omega)
 ·rw[if_neg h]
  unfold xfb at h
  exact xra a b c d w (by omega) (by omega) (by omega) (by omega) (by omega)
end Go.Proofs.YtjinnigjfopbcaaGreatDoor
namespace Go.Proofs.YtjinnigjfopbcaaGreatDoor
set_option linter.unusedVariables false
set_option linter.unusedSimpArgs false
open Go.RowKit
set_option maxRecDepth 20000
instance:DecidableEq Hd:=fun a b=>decidable_of_iff _ (Hd.eq_iff a b).symm
def hA:Hd:={ xac with knd:=2,z1:=3,lo0:=-1 }
theorem xu0 (l:List Int) (h:xkI l):xbO (str l)=l:=by
 unfold xbO
 rw[xbE,List.map_map]
 conv=>rhs;rw[← List.map_id l]
 apply List.map_congr_left
 intro c hc
 have:=h c hc
 simp only[Function.comp,id]
 rw[UInt8.toNat_ofNat',Nat.mod_eq_of_lt (by omega)]
 omega
theorem xmA (s t:ByteArray):xbO (s++t)=xbO s++xbO t:=by
 unfold xbO
 rw[ByteArray.data_append,Array.toList_append,List.map_append]
end Go.Proofs.YtjinnigjfopbcaaGreatDoor
namespace Go.Proofs.YtjinnigjfopbcaaGreatDoor
set_option linter.unusedVariables false
set_option linter.unusedSimpArgs false
open Go.RowKit
set_option maxRecDepth 100000
theorem HAt.secs {w:World} {b:Nat} {T:TypeId} {h:Hd} (H:HAt w b T h) (s:Sc):HAt ((((((((w.setCell ⟨b,0,none⟩ (.int .u64 s.rf)).setCell ⟨b,1,none⟩ (.int .u64 s.rl)).setCell ⟨b,2,none⟩ (.int .u64 s.mf)).setCell ⟨b,3,none⟩ (.int .u64 s.ml)).setCell ⟨b,4,none⟩ (.int .u64 s.lf)).setCell ⟨b,5,none⟩ (.int .u64 s.ll)).setCell ⟨b,6,none⟩ (.int .u64 s.df)).setCell ⟨b,7,none⟩ (.int .u64 s.dl)) b T (xcB h s):=by
 unfold HAt at H ⊢
 have:=hset (hset (hset (hset (hset (hset (hset (hset H 0 (.int .u64 s.rf)) 1 (.int .u64 s.rl)) 2 (.int .u64 s.mf)) 3 (.int .u64 s.ml)) 4 (.int .u64 s.lf)) 5 (.int .u64 s.ll)) 6 (.int .u64 s.df)) 7 (.int .u64 s.dl)
 simp only[cH,List.setIfInBounds_toArray,List.set_cons_zero,List.set_cons_succ] at this
 exact this
theorem HAt.secs_far {w:World} {b b':Nat} {T:TypeId} {h:Hd} (H:HAt w b T h) (hn:b≠b') (s:Sc):HAt ((((((((w.setCell ⟨b',0,none⟩ (.int .u64 s.rf)).setCell ⟨b',1,none⟩ (.int .u64 s.rl)).setCell ⟨b',2,none⟩ (.int .u64 s.mf)).setCell ⟨b',3,none⟩ (.int .u64 s.ml)).setCell ⟨b',4,none⟩ (.int .u64 s.lf)).setCell ⟨b',5,none⟩ (.int .u64 s.ll)).setCell ⟨b',6,none⟩ (.int .u64 s.df)).setCell ⟨b',7,none⟩ (.int .u64 s.dl)) b T h:=by
 unfold HAt at H ⊢
 exact xdB (xdB (xdB (xdB (xdB (xdB (xdB (xdB H hn _ _) hn _ _) hn _ _) hn _ _) hn _ _) hn _ _) hn _ _) hn _ _
theorem xl7 {w0 w:World} {B b':Nat} (H:Below B w0 w) (hn:B≤b') (s:Sc):Below B w0 ((((((((w.setCell ⟨b',0,none⟩ (.int .u64 s.rf)).setCell ⟨b',1,none⟩ (.int .u64 s.rl)).setCell ⟨b',2,none⟩ (.int .u64 s.mf)).setCell ⟨b',3,none⟩ (.int .u64 s.ml)).setCell ⟨b',4,none⟩ (.int .u64 s.lf)).setCell ⟨b',5,none⟩ (.int .u64 s.ll)).setCell ⟨b',6,none⟩ (.int .u64 s.df)).setCell ⟨b',7,none⟩ (.int .u64 s.dl)) :=
 (((((((H.setCell (p:=⟨b',0,none⟩) hn _).setCell (p:=⟨b',1,none⟩) hn _).setCell (p:=⟨b',2,none⟩) hn _).setCell (p:=⟨b',3,none⟩) hn _).setCell (p:=⟨b',4,none⟩) hn _).setCell (p:=⟨b',5,none⟩) hn _).setCell (p:=⟨b',6,none⟩) hn _).setCell (p:=⟨b',7,none⟩) hn _
theorem xlR (h:Hd) (s:Sc) (w:World):Calls Tryz.prog 144 #[.agg (cH h),.agg (xjh s)] w fun e w'=>e=.returned (.agg (cH (xcB h s)))∧Below w.heap.size w w':=by
 obtain⟨W,hW⟩:∃ W,((w.alloc (.cells (cH h) 124)).alloc (.cells (xjh s) 199)).alloc (.cells (cH xac) 124)=W:=⟨_,rfl⟩
 have h0:HAt W w.heap.size 124 h:=by
  rw[← hW]
  exact(xab (by simp;omega)).trans ((xab (by simp)).trans (HAt.made w h _))
 have h1:Box W (w.heap.size+1) (xjh s):=by
  have:=xjn (w.alloc (.cells (cH h) 124)) (xjh s) 199
  rw[World.size_alloc] at this
  rw[← hW]
  exact this.below ((Below.refl _ _).alloc (Nat.le_refl _) _)
 have h2:HAt W (w.heap.size+1+1) 124 xac:=by
  have:=HAt.made ((w.alloc (.cells (cH h) 124)).alloc (.cells (xjh s) 199)) xac 124
  simp only[World.size_alloc] at this
  rw[← hW]
  exact this
 have hbw:Below w.heap.size w W:=by rw[← hW];exact(((Below.refl _ w).alloc (Nat.le_refl _) _).alloc (by simp) _).alloc (by simp;omega) _
 have s0:=h1.cell 0
 have s1:=h1.cell 1
 have s2:=h1.cell 2
 have s3:=h1.cell 3
 have s4:=h1.cell 4
 have s5:=h1.cell 5
 have s6:=h1.cell 6
 have s7:=h1.cell 7
 simp[xjh] at s0 s1 s2 s3 s4 s5 s6 s7
 have c0:=xai h0 0
 have c1:=xai h0 1
 have c2:=xai h0 2
 have c3:=xai h0 3
 have c4:=xai h0 4
 have c5:=xai h0 5
 have c6:=xai h0 6
 have c7:=xai h0 7
 simp[cH] at c0 c1 c2 c3 c4 c5 c6 c7
 have f0:∀ j,W.frozen? ⟨w.heap.size,j,none⟩=false:=fun j=>by unfold HAt at h0;simp[World.frozen?,h0]
 have H0:=lH h0
 have H2:=lH h2
 have HBW:=lH hbw
 clear h0 h1 h2 hbw
 have hz:cH xac=#[.int .u64 0,.int .u64 0,.int .u64 0,.int .u64 0,.int .u64 0,.int .u64 0,.int .u64 0,.int .u64 0,.int .u64 0,.int .u64 0,.int .u64 0,.bool false,.int .u8 0,.int .u8 0,.int .u8 0,.int .i64 0,.int .i64 0,.int .i64 0,.int .i64 0,.int .i64 0,.int .i64 0,.int .i64 0,.int .i64 0,.int .i64 0]:=rfl
 rw[hz] at hW
 clear hz
 generalize hc:cH (xcB h s)=R
 have HR:=lH hc
 clear hc
 generalize hk:cH h=Hc at *
 have HK:=lH hk
 clear hk
 unfold xjh at hW ⊢
 go_enter Tryz.func144,Tryz.ntmps144
 go_upto_region 1 with fail
 try rw[hW]
 clear hW
 go_cut [] (fun wx=>HAt wx w.heap.size 124 (xcB h s)∧HAt wx (w.heap.size+1+1) 124 xac∧Below w.heap.size w wx)
 case first =>
  go_region
  all_goals
   go_wp2_with fail
   go_meet
   case rel=>exact⟨HAt.later (HAt.secs H0.out s) (Below.drew (Below.refl _ _)),HAt.later (HAt.secs_far H2.out (by omega) s) (Below.drew (Below.refl _ _)),Below.drew (xl7 HBW.out (Nat.le_refl _) s)⟩
 case rest =>
  obtain⟨hA,hZ,hB⟩:=hcut
  generalize wc=W2 at *
  have HA:=lH hA
  have HZ:=lH hZ
  have HB:=lH hB
  clear hA hZ hB s0 s1 s2 s3 s4 s5 s6 s7 c0 c1 c2 c3 c4 c5 c6 c7 f0 H0 H2 HBW
  generalize hx:xcB h s=X at *
  go_wp2_with (first|(refine wpList_load_row rfl 124 _ rfl w.heap.size rfl 124 (cH X) (0,0) _ HA.out Tryz.underlying124 rfl xar ?_)|(refine wpList_store_row rfl 124 _ _ rfl (w.heap.size+1+1) (cH X) rfl rfl 124 (cH xac) HZ.out xar rfl (xdY X) ?_)|fail)
  have hp:=xh1 W2 (w.heap.size+1+1) _ xac X HZ.out
  refine bodyPost_ret (results_cell_row rfl _ _ (w.heap.size+1+1) 124 (cH X) (0,0) _ rfl hp.1 Tryz.underlying124 rfl xar) rfl ⟨by rw[HR.out],hp.2.2.1 _ _ (by omega) HB.out⟩
theorem xfr (s:ByteArray):s.data.toList.length=s.size:=rfl
theorem Box.later {w w':World} {B b:Nat} {arr:Array Value} (h:Box w b arr) (hb:Below B w w') (hB:b<B):Box w' b arr:=by
 obtain⟨T,h⟩:=h
 exact⟨T,(hb.block b hB).trans h⟩
theorem xxi (a b c d f:ByteArray):(⟨(a.data.toList++b.data.toList++c.data.toList++d.data.toList++f.data.toList).toArray⟩:ByteArray)=a++b++c++d++f:=by
 apply ByteArray.ext
 simp
theorem xln (h:Hd) (p:Pt) (w:World) (hm:xeJ h) (hp:Few p 200000000):Calls Tryz.prog 70 #[.agg (cH h),.agg (xiF p)] w fun e w'=>e=.returned (.tuple #[.string (xbe h p).1,.int .i64 (xbe h p).2])∧Below w.heap.size w w':=by
 have hsf:=xff hp
 have hmx:=xkx hm (xkd hp)
 have hg:xbe h p=if (xfp (xcB h (xcD p).sec)).2≠0 then (xbs,(xfp (xcB h (xcD p).sec)).2) else (str (xfp (xcB h (xcD p).sec)).1++p.p0++p.p1++p.p2++p.p3,0):=by
  unfold xbe
  rw[if_neg (by rw[hsf];simp)]
 have HLN:=lH (fun X=>xlu p X hp)
 obtain⟨p0,p1,p2,p3⟩:=p
 obtain⟨l0,l1,l2,l3⟩:=hp
 dsimp only at l0 l1 l2 l3 HLN
 obtain⟨W,hW⟩:∃ W,(w.alloc (.cells (cH h) 124)).alloc (.cells #[.string p0,.string p1,.string p2,.string p3] 125)=W:=⟨_,rfl⟩
 have h0:HAt W w.heap.size 124 h:=by
  rw[← hW]
  exact(xab (by simp)).trans (HAt.made w h _)
 have h1:Box W (w.heap.size+1) #[.string p0,.string p1,.string p2,.string p3]:=by
  have:=xjn (w.alloc (.cells (cH h) 124)) #[.string p0,.string p1,.string p2,.string p3] 125
  rw[World.size_alloc] at this
  rw[← hW]
  exact this
 have hbw:Below w.heap.size w W:=by rw[← hW];exact((Below.refl _ w).alloc (Nat.le_refl _) _).alloc (by simp) _
 have s0:=h1.cell 0
 have s1:=h1.cell 1
 have s2:=h1.cell 2
 have s3:=h1.cell 3
 simp at s0 s1 s2 s3
 have HSC:=lH (fun X=>xfT p0.size p1.size p2.size p3.size X (by unfold U64;omega) (by unfold U64;omega) (by unfold U64;omega) (by unfold U64;omega))
 have hso:xn0 p0.size p1.size p2.size p3.size=xcD ⟨p0,p1,p2,p3⟩:=rfl
 rw[hso] at HSC
 have hse:(xcD ⟨p0,p1,p2,p3⟩).err=0:=by rw[hsf]
 obtain⟨n,hn,hn2⟩:∃ n:Nat,(xcD ⟨p0,p1,p2,p3⟩).all=n∧n≤1000000000:=⟨127+p0.size+p1.size+p2.size+p3.size,by rw[hsf];simp,by omega⟩
 have hwn:IntKind.i64.wrap (n:Int)=(n:Int):=by rw[IntKind.wrap_i64];omega
 unfold xcy at HSC
 rw[hse,hn] at HSC
 generalize xcD ⟨p0,p1,p2,p3⟩=S at *
 have HEN:=lH (fun X=>xl1 (xcB h S.sec) X hmx)
 have HWI:=lH (fun X=>xlR h S.sec X)
 rw[hg]
 generalize xcB h S.sec=hx at *
 obtain⟨R,hR⟩:∃ R,(if (xfp hx).2≠0 then (xbs,(xfp hx).2) else (str (xfp hx).1++p0++p1++p2++p3,0))=R:=⟨_,rfl⟩
 rw[hR]
 have HR:=lH hR
 have H0:=lH h0
 have P1:=lH h1
 have B1:=lH hbw
 clear hR h0 h1 hbw hg hsf hso hse hn
 generalize hk:cH h=Hc at *
 have HK:=lH hk
 clear hk
 unfold xiF at HLN ⊢
 have i0:=fun W=>(xh0 (.string p0) (.string p1) (.string p2) (.string p3) W).1
 have i1:=fun W=>(xh0 (.string p0) (.string p1) (.string p2) (.string p3) W).2.1
 have i2:=fun W=>(xh0 (.string p0) (.string p1) (.string p2) (.string p3) W).2.2.1
 have i3:=fun W=>(xh0 (.string p0) (.string p1) (.string p2) (.string p3) W).2.2.2
 go_enter Tryz.func70,Tryz.ntmps70
 go_wp2_with fail
 try rw[hW]
 clear hW
 refine(HLN.out _).mono ?_
 rintro e w1 ⟨rfl,hb1⟩
 have H1:=lH (H0.out.later hb1)
 have P2:=lH (P1.out.below hb1)
 have B2:=lH (B1.out.trans (hb1.mono B1.out.size))
 clear hb1 s0 s1 s2 s3 H0 P1 B1
 go_wp2_with fail
 refine(HSC.out _).mono ?_
 rintro e w2 ⟨rfl,hb2⟩
 unfold xjh
 have hba:Below w2.heap.size w2 (w2.alloc (.cells #[.int .u64 S.sec.rf,.int .u64 S.sec.rl,.int .u64 S.sec.mf,.int .u64 S.sec.ml,.int .u64 S.sec.lf,.int .u64 S.sec.ll,.int .u64 S.sec.df,.int .u64 S.sec.dl] 199)):=(Below.refl _ _).alloc (Nat.le_refl _) _
 have hb3:=hb2.trans (hba.mono hb2.size)
 have HA2:=H1.out.later hb3
 have P3:=lH (P2.out.below hb3)
 have B3:=lH (B2.out.trans (hb3.mono B2.out.size))
 unfold HAt at HA2
 rw[HK.out] at HA2
 have hsz:(Tryz.prog.info? 124).map (·.size)=some Hc.size:=by rw[← HK.out];exact xar
 have HA2:=lH HA2
 unfold xjh at HWI
 clear hb2 hba hb3 H1 P2 B2
 go_wp2_with (first|(refine wpList_load_row rfl 124 _ rfl w.heap.size rfl 124 Hc (0,0) _ HA2.out Tryz.underlying124 rfl hsz ?_)|fail)
 refine(HWI.out _).mono ?_
 rintro e w3 ⟨rfl,hb3⟩
 have P4:=lH (P3.out.below hb3)
 have B4:=lH (B3.out.trans (hb3.mono B3.out.size))
 clear hb3 P3 B3 HA2
 go_wp2_with fail
 refine(HEN.out _).mono ?_
 rintro e w5 ⟨rfl,hb5⟩
 have P5:=lH (P4.out.below hb5)
 have B5:=lH (B4.out.trans (hb5.mono B4.out.size))
 have hsl:(str (xfp hx).1).size≤200:=by
  rw[xa9]
  unfold xfp
  split
  ·rename_i hc
   rw[xd6 hx hmx hc]
   omega
  ·simp
 clear hb5 P4 B4
 by_cases hz:(xfp hx).2=0
 ·rw[hz]
  have HR2:=HR.out
  rw[if_neg (by simpa using hz)] at HR2
  have HR2:=lH HR2
  clear hz
  generalize str (xfp hx).1=st at *
  have hP5:=P5.out.lt
  have HGW:=lH (xhK w5.heap.size w5.heap.size n (w5.alloc (.cells #[.pointer none,.slice none 0 0] 254)) (Nat.le_refl _) (xcg w5 _) (by simp) (by omega))
  have HQ:=lH (P5.out.later ((Below.refl w5.heap.size w5).alloc (Nat.le_refl _) (.cells #[.pointer none,.slice none 0 0] 254)) hP5)
  go_wp2_with fail
  refine HGW.out.mono ?_
  rintro e y0 ⟨rfl,hA0,hb0⟩
  have P6:=lH (HQ.out.later hb0 hP5)
  have A0:=lH hA0
  have z0:w5.heap.size≤y0.heap.size:=Nat.le_trans (by simp) hb0.size
  have D0:=lH (((Below.refl w5.heap.size w5).alloc (Nat.le_refl _) (.cells #[.pointer none,.slice none 0 0] 254)).trans hb0)
  clear hA0 hb0 HGW HQ
  go_wp2_with fail
  refine(xbJ w5.heap.size w5.heap.size [] st y0 A0.out (by simp only[List.length_append,List.length_nil,xfr];omega) z0).mono ?_
  rintro e y1 ⟨rfl,hA1,hb1⟩
  rw[List.nil_append] at hA1
  have A1:=lH hA1
  have z1:w5.heap.size≤y1.heap.size:=Nat.le_trans z0 hb1.size
  have D1:=lH (D0.out.trans hb1)
  have P7:=P6.out.later hb1 hP5
  have q0:=P7.cell 0
  have q1:=P7.cell 1
  have q2:=P7.cell 2
  have q3:=P7.cell 3
  simp at q0 q1 q2 q3
  clear P7
  clear hA1 hb1 A0 D0
  go_wp2_with fail
  refine wp_loop_rounds 5 ?_
  rw[rounds_succ]
  go_wp2_with fail
  refine(xbJ w5.heap.size w5.heap.size (st.data.toList) p0 y1 A1.out (by simp only[List.length_append,List.length_nil,xfr];omega) z1).mono ?_
  rintro e y2 ⟨rfl,hA2,hb2⟩
  have A2:=lH hA2
  have z2:w5.heap.size≤y2.heap.size:=Nat.le_trans z1 hb2.size
  have D2:=lH (D1.out.trans hb2)
  clear hA2 hb2 A1 D1
  go_wp2_with fail
  rw[rounds_succ]
  go_wp2_with fail
  refine(xbJ w5.heap.size w5.heap.size (st.data.toList++p0.data.toList) p1 y2 A2.out (by simp only[List.length_append,List.length_nil,xfr];omega) z2).mono ?_
  rintro e y3 ⟨rfl,hA3,hb3⟩
  have A3:=lH hA3
  have z3:w5.heap.size≤y3.heap.size:=Nat.le_trans z2 hb3.size
  have D3:=lH (D2.out.trans hb3)
  clear hA3 hb3 A2 D2
  go_wp2_with fail
  rw[rounds_succ]
  go_wp2_with fail
  refine(xbJ w5.heap.size w5.heap.size (st.data.toList++p0.data.toList++p1.data.toList) p2 y3 A3.out (by simp only[List.length_append,List.length_nil,xfr];omega) z3).mono ?_
  rintro e y4 ⟨rfl,hA4,hb4⟩
  have A4:=lH hA4
  have z4:w5.heap.size≤y4.heap.size:=Nat.le_trans z3 hb4.size
  have D4:=lH (D3.out.trans hb4)
  clear hA4 hb4 A3 D3
  go_wp2_with fail
  rw[rounds_succ]
  go_wp2_with fail
  refine(xbJ w5.heap.size w5.heap.size (st.data.toList++p0.data.toList++p1.data.toList++p2.data.toList) p3 y4 A4.out (by simp only[List.length_append,List.length_nil,xfr];omega) z4).mono ?_
  rintro e y5 ⟨rfl,hA5,hb5⟩
  have A5:=lH hA5
  have z5:w5.heap.size≤y5.heap.size:=Nat.le_trans z4 hb5.size
  have D5:=lH (D4.out.trans hb5)
  clear hA5 hb5 A4 D4
  go_wp2_with fail
  rw[rounds_succ]
  go_wp2_with fail
  refine(xkn w5.heap.size w5.heap.size (st.data.toList++p0.data.toList++p1.data.toList++p2.data.toList++p3.data.toList) y5 A5.out z5).mono ?_
  rintro e y6 ⟨rfl,hb6⟩
  have D6:=lH (D5.out.trans hb6)
  clear hb6
  rw[xxi]
  go_wp2_with fail
  refine bodyPost_ret (results_tmp2 rfl _ _ _) rfl ⟨by rw[← HR2.out];rfl,B5.out.trans (D6.out.mono B5.out.size)⟩
 ·have HR2:=HR.out
  rw[if_pos hz] at HR2
  have HR2:=lH HR2
  have hzn:((xfp hx).2 != 0)=true:=by simpa using hz
  generalize (xfp hx).2=er at *
  clear hz
  go_wp2_with fail
  refine bodyPost_ret (results_tmp2 rfl _ _ _) rfl ⟨by rw[← HR2.out];rfl,B5.out⟩
def xiE (t:ByteArray) (h:Hd) (k:Nat):ByteArray:=xmn t (frK h k) (lnK h k)
def prA (t:ByteArray) (h:Hd) (k:Nat):Array Value:=#[.string (if 0<k then xiE t h 0 else xbs),.string (if 1<k then xiE t h 1 else xbs),.string (if 2<k then xiE t h 2 else xbs),.string (if 3<k then xiE t h 3 else xbs)]
theorem xuk (t:ByteArray) (h:Hd) (k:Nat) (hk:k<4):(prA t h k).setIfInBounds k (.string (xiE t h k))=prA t h (k+1):=by
 rcases(by omega:k=0∨k=1∨k=2∨k=3) with rfl|rfl|rfl|rfl <;> simp[prA]
theorem xvH (t:ByteArray) (h:Hd) (k:Nat) (hk:k<4):(prA t h k)[k]?=some (.string xbs):=by
 rcases(by omega:k=0∨k=1∨k=2∨k=3) with rfl|rfl|rfl|rfl <;> simp[prA]
theorem xvR {h:Hd} {n:Int} {k:Nat} (hk:k<4) (ho:n<frK h k+lnK h k):xeP h n:=by
 unfold xeP
 rcases(by omega:k=0∨k=1∨k=2∨k=3) with rfl|rfl|rfl|rfl <;> simp[frK,lnK] at ho <;> omega
theorem xtI {h:Hd} {n:Int} (ha:∀ j,j<4→¬ n<frK h j+lnK h j):¬ xeP h n:=by
 unfold xeP
 have h0:=ha 0 (by omega)
 have h1:=ha 1 (by omega)
 have h2:=ha 2 (by omega)
 have h3:=ha 3 (by omega)
 simp[frK,lnK] at h0 h1 h2 h3
 omega
theorem xcj {fn:Func} {p q r:Tmp} {ty ty2:TypeId} (h:fn.results=#[.cell p ty,.cell q ty2,.tmp r]) (tmps:Array Value) (w:World) (g g2:Nat) (cs cs2:Array Value) (v:Value)
  (hp:tmps.getD p undef=.pointer (some ⟨g,0,none⟩)) (hq:tmps.getD q undef=.pointer (some ⟨g2,0,none⟩)) (hr:tmps.getD r undef=v)
  (hl:(loadVar ty ⟨g,0,none⟩).run Tryz.prog w=.ok (.agg cs) w) (hl2:(loadVar ty2 ⟨g2,0,none⟩).run Tryz.prog w=.ok (.agg cs2) w) :
  (results fn tmps).run Tryz.prog w=.ok (.tuple #[.agg cs,.agg cs2,v]) w:=by
 have hp':tmps[p]?.getD undef=.pointer (some ⟨g,0,none⟩):=by simpa using hp
 have hq':tmps[q]?.getD undef=.pointer (some ⟨g2,0,none⟩):=by simpa using hq
 have hr':tmps[r]?.getD undef=v:=by simpa using hr
 simp[results,h,hp',hq',hr',asAddr,hl,hl2]
theorem xfk:(Tryz.prog.info? 125).map (·.size)=some 4:=by kernel_rfl
def xop (C:Ct) (w:World) (e:Ending) (w':World):Prop:=e=.returned (.tuple #[.agg (cH C.h),.agg (xiF C.p),.int .i64 C.err])∧Below w.heap.size w w'
theorem xmJ {w:World} {g:Nat} {T:TypeId} {a b c d:ByteArray} (H:w.heap[g]?=some (.cells #[.string a,.string b,.string c,.string d] T (0,0))):(loadVar 125 ⟨g,0,none⟩).run Tryz.prog w=.ok (.agg #[.string a,.string b,.string c,.string d]) w:=run_loadVar_row w g T _ _ (0,0) _ H Tryz.underlying125 rfl xfk
theorem xtW {t:ByteArray} (h:(xch (xbO t)).2≠0):xaV t=⟨xac,xj7,(xch (xbO t)).2⟩:=by unfold xaV;rw[if_pos h]
theorem xtr {t:ByteArray} {X:Hd} (h:xch (xbO t)=(X,0)) (ho:xeP X t.size):xaV t=⟨xac,xj7,8⟩:=by unfold xaV;rw[h,if_neg (by simp),if_pos ho]
theorem xrW {t:ByteArray} {X:Hd} (h:xch (xbO t)=(X,0)) (ho:¬ xeP X t.size):xaV t=⟨X,⟨xiE t X 0,xiE t X 1,xiE t X 2,xiE t X 3⟩,0⟩:=by unfold xaV;rw[h,if_neg (by simp),if_neg ho];rfl
structure CutW (w W:World) (X:Hd) (b5:Nat):Prop where
 rh:HAt W w.heap.size 103 xac
 rp:W.heap[w.heap.size+1]?=some (.cells #[.string xbs,.string xbs,.string xbs,.string xbs] 125 (0,0))
 hd:HAt W b5 103 X
 lt:w.heap.size+2≤b5
 bel:Below w.heap.size w W
def Z24:Array Value:=#[.int .u64 0,.int .u64 0,.int .u64 0,.int .u64 0,.int .u64 0,.int .u64 0,.int .u64 0,.int .u64 0,.int .u64 0,.int .u64 0,.int .u64 0,.bool false,.int .u8 0,.int .u8 0,.int .u8 0,.int .i64 0,.int .i64 0,.int .i64 0,.int .i64 0,.int .i64 0,.int .i64 0,.int .i64 0,.int .i64 0,.int .i64 0]
def P4:Array Value:=#[.string { data:=#[] },.string { data:=#[] },.string { data:=#[] },.string { data:=#[] }]
theorem xmG:Z24.all (·.oneCell')=true:=by simp[Z24,Value.oneCell']
theorem xrU:P4.all (·.oneCell')=true:=by simp[P4,Value.oneCell']
theorem xom:(Tryz.prog.info? 125).map (·.size)=some P4.size:=xfk
def xuK (W:World) (b:Nat) (arr:Array Value):Prop:=W.heap[b]?=some (.cells arr 125 (0,0))
theorem CutW.later {w W W':World} {X:Hd} {b5 B:Nat} (h:CutW w W X b5) (hb:Below B W W') (hB:b5<B):CutW w W' X b5:=by
 have hl:=h.lt
 refine⟨(hb.block _ (by omega)).trans h.rh,(hb.block _ (by omega)).trans h.rp,(hb.block _ hB).trans h.hd,hl,h.bel.trans (hb.mono (by omega))⟩
structure CutWp (w W:World) (X:Hd) (b5:Nat):Prop where
 rh:HAt W w.heap.size 124 xac
 rp:W.heap[w.heap.size+1]?=some (.cells #[.string xbs,.string xbs,.string xbs,.string xbs] 125 (0,0))
 hd:HAt W b5 124 X
 lt:w.heap.size+2≤b5
 bel:Below w.heap.size w W
theorem xhy:(Tryz.prog.info? 124).map (·.size)=some Z24.size:=xar
structure ZeroWp (w W:World) (b:Nat):Prop where
 s1:W.heap[b]?=some (.cells Z24 124 (0,0))
 s2:(W.setRow b Z24).heap[b+1]?=some (.cells P4 125 (0,0))
 e1:HAt ((W.setRow b Z24).setRow (b+1) P4) b 124 xac
 e2:((W.setRow b Z24).setRow (b+1) P4).heap[b+1]?=some (.cells P4 125 (0,0))
 e3:Below w.heap.size w ((W.setRow b Z24).setRow (b+1) P4)
theorem xhN {w W:World} (h1:HAt W w.heap.size 124 xac) (h2:W.heap[w.heap.size+1]?=some (.cells P4 125 (0,0))) (hb:Below w.heap.size w W):ZeroWp w W w.heap.size:=by
 have hz:cH xac=Z24:=rfl
 have hp:=xh1 W w.heap.size 124 xac xac h1
 rw[hz] at hp
 have g2:(W.setRow w.heap.size Z24).heap[w.heap.size+1]?=some (.cells P4 125 (0,0)):=(hp.2.2.2 _ (by omega)).trans h2
 refine⟨h1,g2,(setRow_other _ _ _ _ (by omega)).trans hp.1,hrow g2 rfl,below_setRow (hp.2.2.1 _ _ (Nat.le_refl _) hb) (by omega) _⟩
structure FullWp (w W:World) (g:Nat) (Hc P:Array Value):Prop where
 s1:W.heap[w.heap.size]?=some (.cells Z24 124 (0,0))
 p0:W.heap[g]?=some (.cells P 125 (0,0))
 s2:(W.setRow w.heap.size Hc).heap[w.heap.size+1]?=some (.cells P4 125 (0,0))
 p1:(W.setRow w.heap.size Hc).heap[g]?=some (.cells P 125 (0,0))
 e1:((W.setRow w.heap.size Hc).setRow (w.heap.size+1) P).heap[w.heap.size]?=some (.cells Hc 124 (0,0))
 e2:P.size=4→((W.setRow w.heap.size Hc).setRow (w.heap.size+1) P).heap[w.heap.size+1]?=some (.cells P 125 (0,0))
 e3:Below w.heap.size w ((W.setRow w.heap.size Hc).setRow (w.heap.size+1) P)
theorem xmC {w W:World} {X:Hd} {g:Nat} {P:Array Value} (h1:HAt W w.heap.size 124 xac) (h2:W.heap[w.heap.size+1]?=some (.cells P4 125 (0,0))) (hb:Below w.heap.size w W) (hg:w.heap.size+1<g)
  (hP:xuK W g P):FullWp w W g (cH X) P:=by
 have hz:cH xac=Z24:=rfl
 have hp:=xh1 W w.heap.size 124 xac X h1
 have g2:(W.setRow w.heap.size (cH X)).heap[w.heap.size+1]?=some (.cells P4 125 (0,0)):=(hp.2.2.2 _ (by omega)).trans h2
 refine⟨h1,hP,g2,(hp.2.2.2 _ (by omega)).trans hP,(setRow_other _ _ _ _ (by omega)).trans hp.1,fun hs=>hrow g2 (by rw[hs];rfl),below_setRow (hp.2.2.1 _ _ (Nat.le_refl _) hb) (by omega) _⟩
theorem CutWp.later {w W W':World} {X:Hd} {b5 B:Nat} (h:CutWp w W X b5) (hb:Below B W W') (hB:b5<B):CutWp w W' X b5:=by
 have hl:=h.lt
 refine⟨(hb.block _ (by omega)).trans h.rh,(hb.block _ (by omega)).trans h.rp,(hb.block _ hB).trans h.hd,hl,h.bel.trans (hb.mono (by omega))⟩
theorem xki {w:World} {g:Nat} {T:TypeId} {h:Hd} (H:HAt w g T h):(loadVar 124 ⟨g,0,none⟩).run Tryz.prog w=.ok (.agg (cH h)) w:=run_loadVar_row w g T _ (cH h) (0,0) _ H Tryz.underlying124 rfl xar
end Go.Proofs.YtjinnigjfopbcaaGreatDoor
