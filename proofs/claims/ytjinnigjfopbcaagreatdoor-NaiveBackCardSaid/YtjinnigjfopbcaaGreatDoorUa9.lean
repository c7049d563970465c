/- aLo aLu aLr13. -/
import Derived.Test.YtjinnigjfopbcaaGreatDoorUs
import Derived.Test.YtjinnigjfopbcaaGreatDoorUa7
import Derived.Lib.SmallJoins
import Derived.Deep.SlicePairs
set_option maxHeartbeats 16000000
namespace Go.Proofs.YtjinnigjfopbcaaGreatDoor
set_option linter.unusedVariables false
set_option linter.unusedSimpArgs false
open Go.RowKit
set_option maxRecDepth 20000
def xn7:List It→List It→List It
 | acc,[]=>acc
 | acc,t :: r=>xn7 (xdh acc t.1 t.2) r
def xvW (l:List It):List It:=xn7 [] l
theorem xpH (l acc:List It) (k:Nat) (t:It) (h:l[k]?=some t):xn7 acc (l.drop k)=xn7 (xdh acc t.1 t.2) (l.drop (k+1)):=by
 rw[xdK l k t h,xn7]
set_option maxRecDepth 20000 in
theorem xw6 (v:Value) (l:List It) (w:World) (hv:ItsAt w v l) (hl:l.length≤10000) (hid:∀ t ∈ l,t.1<18446744073709551616) (hsz:∀ t ∈ l,t.2.size≤maxLen) :
  Calls Tryz.prog 27 #[v] w fun e w'=>∃ s d,e=.returned (.tuple #[.agg #[s],d])∧ChS w' s (xvW l)∧ItsAt w' d (xvW l)∧Below w.heap.size w w':=by
 obtain⟨al,cap,rfl,hcap,hmx,hc⟩:=hv
 have HC:=lH hc
 have hmx':l.length≤maxLen:=by omega
 unfold maxLen at hmx'
 clear hc
 have b1:=xae w (.cells #[.slice none 0 0] 36)
 have b2:=xae (w.alloc (.cells #[.slice none 0 0] 36)) (.cells #[.slice none 0 0] 36)
 have o1:=(xaX w (.slice none 0 0) 36).below b2
 have o2:=xaX (w.alloc (.cells #[.slice none 0 0] 36)) (.slice none 0 0) 36
 have hz:(w.alloc (.cells #[.slice none 0 0] 36)).heap.size=w.heap.size+1:=by simp
 rw[hz] at o2
 have HST:=lH (And.intro o1 (And.intro o2 (b1.trans (b2.mono (by omega)))))
 clear b1 b2 o1 o2 hz
 go_enter Tryz.func27,Tryz.ntmps27
 go_wp2_with fail
 go_loopw [5,6] (fun d i wr=>∃ (k:Nat) (acc:List It) (s:Value),k≤l.length∧i=.int .i64 k∧One wr (w.heap.size+1) s∧One wr w.heap.size (.slice none 0 0)∧ChS wr s acc∧ItsAt wr d acc∧xvW l=xn7 acc (l.drop k)∧Below w.heap.size w wr) (fun _ i _=>l.length - (intOf i).toNat)
 case atStart=>exact⟨0,[],_,Nat.zero_le _,rfl,HST.out.2.1,HST.out.1,xgz _,xfa _,rfl,HST.out.2.2⟩
 case round =>
  obtain⟨k,acc,s,hk,rfl,hone,hres,hch,hd,how,hbw⟩:=hrel
  by_cases hlt:k<l.length
  ·obtain⟨⟨x,t⟩,htk⟩:∃ t,l[k]?=some t:=⟨_,List.getElem?_eq_getElem hlt⟩
   obtain⟨g,off,rfl,hg,c0,c1⟩:=HC.out k _ htk
   have hx:=hid _ (List.mem_of_getElem? htk)
   have ht:=hsz _ (List.mem_of_getElem? htk)
   simp only at hx ht
   rw[xpH l acc k _ htk] at how
   have hki:(k:Int)<(l.length:Int):=by omega
   have HOW:=lH how
   have d0:=(hbw.cell (p:=⟨g,off+k*2,none⟩) hg).trans c0
   have d1:=(hbw.cell (p:=⟨g,off+k*2+1,none⟩) hg).trans c1
   have HPU:=lH (fun X (hX:Below wr.heap.size wr X)=>xw5 s acc x t X (hch.below hX) hx ht)
   have HALL:=lH (And.intro hone (And.intro hres (And.intro hch (And.intro hd hbw))))
   have e0:=hone.cell
   have e1:=hone.frz
   have hlen:=hch.good.few
   have hgr:=Nat.lt_of_lt_of_le hg hbw.size
   have dA:∀ O,(wr.alloc O).cell? ⟨g,off+k*2,none⟩=_:=fun O=>((xae wr O).cell (p:=⟨g,off+k*2,none⟩) hgr).trans d0
   have dB:∀ O,(wr.alloc O).cell? ⟨g,off+k*2+1,none⟩=_:=fun O=>((xae wr O).cell (p:=⟨g,off+k*2+1,none⟩) hgr).trans d1
   have HKP:Hid (∀ X,Below wr.heap.size wr X→X.cell? ⟨w.heap.size+1,0,none⟩=some s∧X.cell? ⟨g,off+k*2,none⟩=some (.int .u64 x)∧X.cell? ⟨g,off+k*2+1,none⟩=some (.string t)∧Below wr.heap.size wr X):=lH (fun X hX=>⟨(hX.cell (p:=⟨w.heap.size+1,0,none⟩) hone.lt).trans hone.cell,(hX.cell (p:=⟨g,off+k*2,none⟩) hgr).trans d0,(hX.cell (p:=⟨g,off+k*2+1,none⟩) hgr).trans d1,hX⟩)
   have dC:∀ O,(wr.alloc O).cell? ⟨w.heap.size+1,0,none⟩=_:=fun O=>(hone.alloc O).cell
   clear how hres hch hd hbw c0 c1
   go_upto_region 6 with fail
   go_cut [7,8] (fun p e wx=>∃ g7 s',p=.pointer (some ⟨g7,0,none⟩)∧e=.int .i64 (putE acc x t:Nat)∧One wx g7 s'∧wr.heap.size≤g7∧ChS wx s' (xdh acc x t)∧Below wr.heap.size wr wx)
   case first =>
    go_region_held3 (fun w'=>w'.cell? ⟨w.heap.size+1,0,none⟩=some s∧w'.cell? ⟨g,off+k*2,none⟩=some (.int .u64 x)∧w'.cell? ⟨g,off+k*2+1,none⟩=some (.string t)∧Below wr.heap.size wr w') (first|exact HKP.out _ (by assumption)|exact HKP.out _ (hbb.alloc hbb.size _)|exact HKP.out _ (hbb.setCell (p:=⟨wr.heap.size,0,none⟩) (Nat.le_refl _) _)|exact HKP.out _ ((hbb.alloc hbb.size _).setCell (p:=⟨w1.heap.size,0,none⟩) hbb.size _)|exact HKP.out _ (by go_grown)) ((go_at_call 64;refine(HPU.out _ (by go_grown)).mono ?_;rintro e w1 ⟨s',rfl,hc1,hb⟩;obtain⟨a7,n7,p7,rfl⟩:=hc1.form;have hbb:Below wr.heap.size wr w1:=(by go_grown:Below wr.heap.size wr _).trans (hb.mono (by simp));try (have o7:One w1 wr.heap.size (.slice none 0 0):=(xaX wr.drew (.slice none 0 0) 36).below hb;have f0:=o7.cell;have f1:=o7.frz)))
    all_goals
     go_wp2_with fail
     go_meet
     case rel=>first|exact⟨_,_,rfl,rfl,xaX _ _ _,hbb.size,hc1.below (xae _ _),hbb.trans ((xae _ _).mono hbb.size)⟩|exact⟨_,_,rfl,rfl,o7.set _,Nat.le_refl _,hc1.set o7 _,hbb.setCell (p:=⟨wr.heap.size,0,none⟩) (Nat.le_refl _) _⟩
   case rest =>
    obtain⟨g7,s',rfl,rfl,h7,hl7,hch7,hb7⟩:=hcut
    generalize wc=W7 at *
    obtain⟨a7,n7,p7,rfl⟩:=hch7.form
    have hgc:=hone.lt
    have hsz7:=hb7.size
    have HC7:=lH (And.intro (hone.below hb7) (And.intro (HALL.out.2.1.below hb7) (And.intro (HALL.out.2.2.1.below hb7) (And.intro (HALL.out.2.2.2.1.below hb7) (HALL.out.2.2.2.2.trans (hb7.mono HALL.out.2.2.2.2.size))))))
    have H7:=lH (And.intro h7 hch7)
    have k7:=h7.cell
    have k8:=HC7.out.1.cell
    have k9:=HC7.out.1.frz
    clear dA dB dC HKP HPU d0 d1 e0 e1 h7 hch7 hb7 hone
    go_upto_if 33 with fail
    go_cut [] (fun wx=>∃ s2,One wx (w.heap.size+1) s2∧ChS wx s2 (xdh acc x t)∧One wx w.heap.size (.slice none 0 0)∧ItsAt wx u5 acc∧Below w.heap.size w wx)
    case first =>
     by_cases h0:putE acc x t=0
     ·have hb0:(((putE acc x t:Nat):Int) == 0)=true:=by rw[h0];rfl
      clear h0
      go_wp2_with fail
      go_meet
      case rel=>exact⟨_,HC7.out.1.set _,H7.out.2.set HC7.out.1 _,HC7.out.2.1.set_other (by omega) _,HC7.out.2.2.2.1.set HC7.out.1 _,HC7.out.2.2.2.2.setCell (p:=⟨w.heap.size+1,0,none⟩) (Nat.le_succ _) _⟩
     ·have hb0:(((putE acc x t:Nat):Int) == 0)=false:=by rw[beq_eq_false_iff_ne];omega
      have hpl:xdh acc x t=acc:=by unfold xdh;rw[if_neg h0]
      have HPL:=lH hpl
      clear h0 hpl
      go_wp2_with fail
      go_meet
      case rel=>exact⟨_,HC7.out.1,by rw[HPL.out];exact HC7.out.2.2.1,HC7.out.2.1,HC7.out.2.2.2.1,HC7.out.2.2.2.2⟩
    case rest =>
     obtain⟨s2,h1,h2,h3,h4,h5⟩:=hcut
     generalize wc=W8 at *
     have hg8:=Nat.lt_of_lt_of_le hg h5.size
     obtain⟨c0,c1⟩:w.cell? ⟨g,off+k*2,none⟩=some (.int .u64 x)∧w.cell? ⟨g,off+k*2+1,none⟩=some (.string t):=by
      obtain⟨g2,off2,e,_,q0,q1⟩:=HC.out k _ htk
      cases e
      exact⟨q0,q1⟩
     have d0:=(h5.cell (p:=⟨g,off+k*2,none⟩) hg).trans c0
     have d1:=(h5.cell (p:=⟨g,off+k*2+1,none⟩) hg).trans c1
     have HKP:Hid (∀ X,Below W8.heap.size W8 X→X.cell? ⟨g,off+k*2,none⟩=some (.int .u64 x)∧X.cell? ⟨g,off+k*2+1,none⟩=some (.string t)∧Below W8.heap.size W8 X):=lH (fun X hX=>⟨(hX.cell (p:=⟨g,off+k*2,none⟩) hg8).trans d0,(hX.cell (p:=⟨g,off+k*2+1,none⟩) hg8).trans d1,hX⟩)
     have HRP:=lH (fun X (hX:Below W8.heap.size W8 X)=>xuc u5 acc x t X (h4.below hX) (by omega) hx)
     have H8:=lH (And.intro h1 (And.intro h2 (And.intro h3 h5)))
     have H4:=lH h4
     clear HC7 H7 k7 k8 k9 h1 h2 h3 h4 h5 c0 c1 HALL
     go_upto_region 9 with fail
     go_cut [9,10] (fun d f wx=>f=.int .i64 (putE acc x t:Nat)∧ItsAt wx d (xdh acc x t)∧Below W8.heap.size W8 wx)
     case first =>
      go_region_held3 (fun w'=>w'.cell? ⟨g,off+k*2,none⟩=some (.int .u64 x)∧w'.cell? ⟨g,off+k*2+1,none⟩=some (.string t)∧Below W8.heap.size W8 w') (first|exact HKP.out _ (by assumption)|exact HKP.out _ (by go_grown)) ((go_at_call 65;refine(HRP.out _ (by go_grown)).mono ?_;rintro e w1 ⟨d',rfl,hd1,hb⟩;have hbb:Below W8.heap.size W8 w1:=(by go_grown:Below W8.heap.size W8 _).trans (hb.mono (by simp))))
      all_goals
       go_wp2_with fail
       go_meet
       case rel=>exact⟨rfl,hd1,hbb⟩
     case rest =>
      obtain⟨rfl,hd9,hb9⟩:=hcut
      generalize wc=W9 at *
      have H9:=lH (And.intro hd9 (And.intro (H8.out.1.below hb9) (And.intro (H8.out.2.1.below hb9) (And.intro (H8.out.2.2.1.below hb9) (H8.out.2.2.2.trans (hb9.mono H8.out.2.2.2.size))))))
      have H9b:=lH hb9
      clear hd9 hb9
      by_cases h0:putE acc x t=0
      ·have hb0:(((putE acc x t:Nat):Int) == 0)=true:=by rw[h0];rfl
       clear h0
       go_wp2_with fail
       go_roundw
       case rel=>exact⟨k+1,xdh acc x t,_,by omega,by go_num,H9.out.2.1,H9.out.2.2.2.1,H9.out.2.2.1,H9.out.1,HOW.out,H9.out.2.2.2.2⟩
       case measure=>simp[intOf];omega
      ·have hb0:(((putE acc x t:Nat):Int) == 0)=false:=by rw[beq_eq_false_iff_ne];omega
       have hpl:xdh acc x t=acc:=by unfold xdh;rw[if_neg h0]
       have HPL:=lH hpl
       clear h0 hpl
       go_wp2_with fail
       go_roundw
       case rel=>exact⟨k+1,xdh acc x t,_,by omega,by go_num,H9.out.2.1,H9.out.2.2.2.1,H9.out.2.2.1,by rw[HPL.out];exact H4.out.below H9b.out,HOW.out,H9.out.2.2.2.2⟩
       case measure=>simp[intOf];omega
  ·obtain rfl:k=l.length:=by omega
   rw[List.drop_length,xn7] at how
   have HOW:=lH how
   have HF:=lH (And.intro hone (And.intro hres (And.intro hch (And.intro hd hbw))))
   obtain⟨a7,n7,p7,rfl⟩:=hch.form
   have e0:=hone.cell
   have r0:=hres.cell
   have r1:=hres.frz
   clear how hone hres hch hd hbw
   go_wp2_with fail
   refine bodyPost_ret (xa6 rfl _ _ w.heap.size _ _ _ rfl rfl (HF.out.2.1.set _).cell Tryz.underlying36 rfl xa5) rfl ⟨_,_,rfl,?_,?_,HF.out.2.2.2.2.setCell (p:=⟨w.heap.size,0,none⟩) (Nat.le_refl _) _⟩
   ·rw[HOW.out];exact HF.out.2.2.1.set HF.out.2.1 _
   ·rw[HOW.out];exact HF.out.2.2.2.1.set HF.out.2.1 _
end Go.Proofs.YtjinnigjfopbcaaGreatDoor
namespace Go.Proofs.YtjinnigjfopbcaaGreatDoor
set_option linter.unusedVariables false
set_option linter.unusedSimpArgs false
def kT:ByteArray:={ data:=#[116] }
def bl (n:Nat):List It:=(List.range n).map (fun i=>(3*i,kT))
theorem xpY (id:Nat) (s:ByteArray) (l:List It):xat (xfY id s l)=xat (xdc id l)+s.size:=by
 have h:=congrArg xat (xc3 id (xdc id l))
 rw[xbD] at h
 unfold xfY
 rw[xbD,xat]
 show xat (xhh id (xdc id l))+(s.size+xat (xiA id (xdc id l)))=_
 omega
end Go.Proofs.YtjinnigjfopbcaaGreatDoor
namespace Go.Proofs.YtjinnigjfopbcaaGreatDoor
set_option linter.unusedVariables false
set_option linter.unusedSimpArgs false
open Go.ChangeShapes Go.WideShapes Go.ChangeAt Go.RowKit Go.Joins Go.Deep
set_option maxRecDepth 100000
theorem lLaid:laidOutB Tryz.prog=true:=by kernel_rfl
theorem nat_of {a:Int} (h:0≤a):∃ n:Nat,a=(n:Int):=⟨a.toNat,by omega⟩
theorem xm3:Tryz.prog.cellsOf 64=2:=by kernel_rfl
theorem xrr {H:Type} {enc:TypeId × Value→H} {W:World} {base n:Nat} {spare:Nat→Bool} {held:Bool} {cs:List Value} {z:DataW H × List MemPlace}
  (h:DataW.trod enc Tryz.prog W base spare held n 64 cs=some z):∃ e:It,cs=[.int .u64 e.1,.string e.2]∧e.1<18446744073709551616∧e.2.size≤maxLen:=by
 have cu:Tryz.prog.cellsOf 26=1:=by kernel_rfl
 have cw:Tryz.prog.cellsOf 9=1:=by kernel_rfl
 obtain⟨xs,k,_,_,hl,hxl,hfs⟩:=DataW.trod_struct Tryz.underlying64 h
 rw[xm3] at hl
 match cs,hl,xs,hxl,hfs with
 | [x0,x1],_,[y0,y1],_,hfs =>
  have g0:=hfs 0 _ rfl
  have g1:=hfs 1 _ rfl
  simp[cu,cw] at g0 g1
  obtain⟨b0,e0,_,w0⟩:=DataW.trod_int Tryz.underlying26 g0
  obtain⟨a0,rfl⟩:=nat_of (bounds_u64 w0).1
  obtain⟨a1,e1,_,w1⟩:=DataW.trod_string Tryz.underlying9 g1
  simp at e0 e1
  subst e0 e1
  exact⟨⟨a0,a1⟩,rfl,(by have:=(bounds_u64 w0).2;show a0<18446744073709551616;omega),w1⟩
theorem its_opened {H:Type} {enc:TypeId × Value→H} {W:World} {base b0:Nat} {r:Reach} {spare:Nat→Bool} {held:Bool} {v:Value} {d:DataW H} {p:List MemPlace}
  (hv:Value.okWide Tryz.prog W r b0 39 v) (h:DataW.Trod enc Tryz.prog W base spare held 39 v d p) :
  ∃ l,ItsAt W v l∧∀ e ∈ l,e.1<18446744073709551616∧e.2.size≤maxLen:=by
 obtain⟨a,len,cap,rfl⟩:=okWide_slice Tryz.underlying39 hv
 obtain⟨fuel,hf⟩:=h
 rcases open_slice Tryz.underlying39 hf with ⟨hcs,_⟩|⟨x,l,c,m,n,D,Pl,hcs,_,hl,hm,hmm,hxe,hx⟩
 ·simp[Value.cells] at hcs
  obtain⟨rfl,rfl,rfl⟩:=hcs
  exact⟨[],⟨none,0,rfl,Nat.le_refl _,by simp,fun k t h=>by simp at h⟩,fun e he=>by simp at he⟩
 ·simp[Value.cells] at hcs
  obtain⟨rfl,rfl,rfl⟩:=hcs
  have hlm:len≤m:=by rw[hmm];split <;> omega
  have hint:∀ i,i<len→∃ e:It,(W.cell? (x.add (i*2))=some (.int .u64 e.1)∧W.cell? (x.add (i*2+1))=some (.string e.2))∧(e.1<18446744073709551616∧e.2.size≤maxLen):=by
   intro i hi
   obtain⟨cs',q1,q2⟩:=hx i (by omega)
   rw[xm3] at q1
   obtain⟨_,hlen,hcell⟩:=World.cells?_some q1
   obtain⟨e,rfl,hme⟩:=xrr q2
   have e0:=hcell 0 (by simp)
   have e1:=hcell 1 (by simp)
   rw[add_add] at e0 e1
   exact⟨e,⟨by simpa using e0,by simpa using e1⟩,hme⟩
  have hspot:0<len→x.spot=none:=by
   intro h0
   obtain⟨_,⟨q,_⟩,_⟩:=hint 0 h0
   have:x.add (0*2)=x:=by simp[Addr.add]
   rw[this] at q
   unfold World.cell? at q
   split at q
   ·split at q
    ·cases q
    ·rename_i hs
     cases hx:x.spot with
     | none=>rfl
     | some k=>rw[hx] at hs;simp at hs
   ·cases q
  obtain⟨q,hq⟩:=@choose_lt It ⟨(0,{ data:=#[] })⟩ len (fun i e=>(W.cell? (x.add (i*2))=some (.int .u64 e.1)∧W.cell? (x.add (i*2+1))=some (.string e.2))∧(e.1<18446744073709551616∧e.2.size≤maxLen)) hint
  let L:=(List.range len).map q
  have hlen:L.length=len:=by simp[L]
  have hat:∀ k t,L[k]?=some t→k<len∧t=q k:=by
   intro k t ht
   have hk:k<L.length:=(List.getElem?_eq_some_iff.1 ht).1
   rw[hlen] at hk
   refine⟨hk,?_⟩
   simp only[L,List.getElem?_map,List.getElem?_range hk,Option.map_some,Option.some.injEq] at ht
   exact ht.symm
  refine⟨L,⟨some x,cap,by rw[hlen],by omega,hm,fun k t ht=>?_⟩,fun t ht=>?_⟩
  ·obtain⟨hk,rfl⟩:=hat k t ht
   obtain⟨⟨q0,q1⟩,_⟩:=hq k hk
   have hsp:=hspot (by omega)
   obtain⟨g,off,sp⟩:=x
   simp only at hsp
   subst hsp
   have ad:∀ j,(⟨g,off,none⟩:Addr).add j=⟨g,off+j,none⟩:=fun j=>by simp[Addr.add]
   rw[ad] at q0 q1
   exact⟨g,off,rfl,xa4 q0,q0,by rw[Nat.add_assoc];exact q1⟩
  ·obtain⟨k,hk,hkt⟩:=List.getElem_of_mem ht
   obtain⟨hk2,rfl⟩:=hat k t (by rw[List.getElem?_eq_getElem hk,hkt])
   exact(hq k hk2).2
theorem it_opened {H:Type} {enc:TypeId × Value→H} {W:World} {base b0:Nat} {r:Reach} {spare:Nat→Bool} {held:Bool} {v:Value} {d:DataW H} {p:List MemPlace}
  (hv:Value.okWide Tryz.prog W r b0 64 v) (h:DataW.Trod enc Tryz.prog W base spare held 64 v d p) :
  ∃ e:It,v=.agg #[.int .u64 e.1,.string e.2]∧(e.1<18446744073709551616∧e.2.size≤maxLen):=by
 obtain⟨cs,rfl,hsz⟩:=okWide_struct Tryz.underlying64 hv
 obtain⟨fuel,hf⟩:=h
 obtain⟨e,he,hm⟩:=xrr hf
 refine⟨e,?_,hm⟩
 obtain⟨l⟩:=cs
 have he':l=[.int .u64 e.1,.string e.2]:=he
 rw[he']
end Go.Proofs.YtjinnigjfopbcaaGreatDoor
