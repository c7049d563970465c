/- aHl aPb aLr13. -/
import Derived.Test.YtjinnigjfopbcaaGreatDoorJs
import Derived.Test.YtjinnigjfopbcaaGreatDoorJa8
import Derived.Lib.SmallJoins
import Derived.Deep.SlicePairs
set_option maxHeartbeats 16000000
namespace Go.Proofs.YtjinnigjfopbcaaGreatDoor
set_option linter.unusedVariables false
set_option linter.unusedSimpArgs false
open Go.RowKit
set_option maxRecDepth 20000
theorem xiT (v u:Value) (a b:List It) (w:World) (hv:ItsAt w v a) (hu:ItsAt w u b) :
  Calls Tryz.prog 72 #[v,u] w fun e w'=>e=.returned (.bool (decide (a=b)))∧Below w.heap.size w w':=by
 obtain⟨al,cap,rfl,hcap,hmx,hc⟩:=hv
 obtain⟨bl,cbp,rfl,hcbp,hmy,hd⟩:=hu
 have HC:=lH hc
 have HD:=lH hd
 have hmx':a.length≤maxLen:=by omega
 have hmy':b.length≤maxLen:=by omega
 unfold maxLen at hmx' hmy'
 clear hc hd
 go_enter Tryz.func72,Tryz.ntmps72
 by_cases hl:a.length=b.length
 ·have hle:((a.length:Int) != (b.length:Int))=false:=by simp;omega
  have HLn:=lH hl
  clear hl
  go_wp2_with fail
  go_loopw [13] (fun i wr=>∃ k:Nat,k≤a.length∧i=.int .i64 k∧a.take k=b.take k∧Below w.heap.size w wr) (fun i _=>a.length - (intOf i).toNat)
  case atStart=>exact⟨0,Nat.zero_le _,rfl,by simp,Below.refl _ _⟩
  case round =>
   obtain⟨k,hk,rfl,hq,hbw⟩:=hrel
   by_cases hlt:k<a.length
   ·obtain⟨⟨x,s⟩,hsk⟩:∃ t,a[k]?=some t:=⟨_,List.getElem?_eq_getElem hlt⟩
    obtain⟨⟨y,t⟩,htk⟩:∃ t,b[k]?=some t:=⟨_,List.getElem?_eq_getElem (by have:=HLn.out;omega)⟩
    obtain⟨g,off,rfl,hg,c0,c1⟩:=HC.out k _ hsk
    obtain⟨h,oh,rfl,hh,d0,d1⟩:=HD.out k _ htk
    have c0:=(hbw.cell (p:=⟨g,off+k*2,none⟩) hg).trans c0
    have c1:=(hbw.cell (p:=⟨g,off+k*2+1,none⟩) hg).trans c1
    have c2:=Nat.lt_of_lt_of_le hg hbw.size
    have d0:=(hbw.cell (p:=⟨h,oh+k*2,none⟩) hh).trans d0
    have d1:=(hbw.cell (p:=⟨h,oh+k*2+1,none⟩) hh).trans d1
    have d2:=Nat.lt_of_lt_of_le hh hbw.size
    have HB:=lH (fun n=>hbw.trans (show Below w.heap.size wr (wr.drewN n) from ⟨rfl,rfl,rfl,Nat.le_refl _,fun _ _=>rfl⟩))
    have hk1:(k:Int)<(a.length:Int):=by omega
    have hk2:(k:Int)<(b.length:Int):=by have:=HLn.out;omega
    clear hbw
    by_cases hxy:x=y
    ·subst hxy
     by_cases hst:s=t
     ·have HQ:=lH (xoY a b k _ _ hsk htk hq (by rw[hst]))
      have hy:=xiZ hst
      clear hq
      go_wp2_with fail
      go_quiet (fail)
      go_wp2_with fail
      go_roundw
      case rel=>exact⟨k+1,by omega,by go_num,HQ.out,HB.out _⟩
      case measure=>simp[intOf];omega
     ·have HQ:=lH (show decide (a=b)=false from decide_eq_false (xj1 a b k _ _ hsk htk (fun e=>hst (by injection e))))
      have hy:=xj5 hst
      clear hq
      go_wp2_with fail
      go_quiet (fail)
      go_wp2_with fail
      go_ret
      exact⟨by rw[HQ.out];rfl,HB.out _⟩
    ·have HQ:=lH (show decide (a=b)=false from decide_eq_false (xj1 a b k _ _ hsk htk (fun e=>hxy (by injection e))))
     have hy:¬ (x:Int)=(y:Int):=by omega
     clear hq
     go_wp2_with fail
     go_quiet (fail)
     go_wp2_with fail
     go_ret
     exact⟨by rw[HQ.out];rfl,HB.out _⟩
   ·have hkl:k=a.length:=by omega
    subst hkl
    rw[List.take_length,HLn.out,List.take_length] at hq
    have HQ:=lH (show decide (a=b)=true from decide_eq_true hq)
    clear hq
    go_wp2_with fail
    go_ret
    exact⟨by rw[HQ.out];rfl,hbw⟩
 ·have hle:((a.length:Int) != (b.length:Int))=true:=by simp;omega
  have HQ:=lH (show decide (a=b)=false from decide_eq_false (fun e=>hl (by rw[e])))
  go_wp2_with fail
  go_ret
  exact⟨by rw[HQ.out];rfl,Below.refl _ _⟩
theorem xpy (s t:Value) (a b:List It) (w:World) (h:ChS w s a) (h':ChS w t b) :
  Calls Tryz.prog 29 #[.agg #[s],.agg #[t]] w fun e w'=>e=.returned (.bool (decide (a=b)))∧Below w.heap.size w w':=by
 have HC:=lH (fun W (hb:Below w.heap.size w W)=>xiT s t a b W (h.its.below hb) (h'.its.below hb))
 obtain⟨a1,n1,c1,rfl⟩:=h.form
 obtain⟨a2,n2,c2,rfl⟩:=h'.form
 clear h h'
 go_enter Tryz.func29,Tryz.ntmps29
 go_wp2_with fail
 refine(HC.out _ (by go_grown)).mono ?_
 rintro e w1 ⟨rfl,hb⟩
 have H1:=lH (((Below.refl w.heap.size w).alloc (Nat.le_refl _) _).alloc (by simp) _ |>.trans (hb.mono (by simp;omega)))
 clear hb
 go_wp2_with fail
 go_ret
 exact⟨rfl,H1.out⟩
set_option maxRecDepth 20000 in
theorem xqQ (e:En) (q:Int) (w:World) (hm:xaO e):Calls Tryz.prog 35 #[.agg (eC e),.int .u64 q] w fun x w'=>x=.returned (.bool (xlf e q))∧Below w.heap.size w w':=by
 have HL:=lH (fun W=>xfB e W hm)
 have HC:=lH (fun W=>xc8 e W hm)
 have HP:=lH (fun W=>xgV e W)
 have H0:=EAt.made w e 74
 have HB:Below w.heap.size w (w.alloc (.cells (eC e) 74)):=(Below.refl _ _).alloc (Nat.le_refl _) _
 have hz:Hid (0≤e.rn):=lH hm.2.2.2.1
 obtain⟨r,hr⟩:∃ r,ckN e=r:=⟨_,rfl⟩
 obtain⟨la,hla⟩:∃ la,laN e=la:=⟨_,rfl⟩
 have hh:Hid ((decide (r=0) && (decide (0<e.rn) && (decide (e.id≤q) && decide (q≤la))))=xlf e q):=lH (by unfold xlf;rw[hr,hla])
 obtain⟨b,hb⟩:∃ b,xlf e q=b:=⟨_,rfl⟩
 rw[hb] at hh ⊢
 rw[hr] at HC
 rw[hla] at HL
 clear hb hr hla hm
 unfold eC at HB HC HL HP ⊢
 obtain⟨c0,c1,c2,c3⟩:=H0
 unfold eC at c0 c1 c2 c3
 by_cases h0:r=0
 ·subst h0
  by_cases h1:e.rn=0
  ·have d1:decide (0<e.rn)=false:=by simp;omega
   have d0:decide (e.rn=0)=true:=by simpa using h1
   rw[d0] at HP
   clear h1 d0
   go_enter Tryz.func35,Tryz.ntmps35
   go_wp2_with fail
   refine(HC.out _).mono ?_
   rintro x w1 ⟨rfl,hb⟩
   obtain⟨⟨k0,k1,k2,k3⟩,hU⟩:=xbF hb ⟨⟨c0,c1,c2,c3⟩,HB⟩
   have HU:=lH hU
   clear hb c0 c1 c2 c3 HB hU
   go_wp2_with fail
   refine(HP.out _).mono ?_
   rintro x w2 ⟨rfl,hb⟩
   obtain⟨⟨c0,c1,c2,c3⟩,hU⟩:=xbF hb ⟨⟨k0,k1,k2,k3⟩,HU.out⟩
   have HU2:=lH hU
   clear hb k0 k1 k2 k3 HU hU
   go_wp2_with fail
   go_ret
   exact⟨xin (by rw[← hh.out,d1];simp),HU2.out⟩
  ·have d1:decide (0<e.rn)=true:=by have:=hz.out;simp;omega
   have d0:decide (e.rn=0)=false:=by simpa using h1
   rw[d0] at HP
   clear h1 d0
   by_cases h2:e.id≤q
   ·have d2:decide (e.id≤q)=true:=by simpa using h2
    clear h2
    go_enter Tryz.func35,Tryz.ntmps35
    go_wp2_with fail
    refine(HC.out _).mono ?_
    rintro x w1 ⟨rfl,hb⟩
    obtain⟨⟨k0,k1,k2,k3⟩,hU⟩:=xbF hb ⟨⟨c0,c1,c2,c3⟩,HB⟩
    have HU:=lH hU
    clear hb c0 c1 c2 c3 HB hU
    go_wp2_with fail
    refine(HP.out _).mono ?_
    rintro x w2 ⟨rfl,hb⟩
    obtain⟨⟨c0,c1,c2,c3⟩,hU⟩:=xbF hb ⟨⟨k0,k1,k2,k3⟩,HU.out⟩
    have HU2:=lH hU
    clear hb k0 k1 k2 k3 HU hU
    go_wp2_with fail
    refine(HL.out _).mono ?_
    rintro x w3 ⟨rfl,hb⟩
    have HU3:=lH (HU2.out.trans (hb.mono HU2.out.size))
    clear hb c0 c1 c2 c3
    go_wp2_with fail
    go_ret
    exact⟨xin (by rw[← hh.out,d1,d2];simp),HU3.out⟩
   ·have d2:decide (e.id≤q)=false:=by simpa using h2
    clear h2
    go_enter Tryz.func35,Tryz.ntmps35
    go_wp2_with fail
    refine(HC.out _).mono ?_
    rintro x w1 ⟨rfl,hb⟩
    obtain⟨⟨k0,k1,k2,k3⟩,hU⟩:=xbF hb ⟨⟨c0,c1,c2,c3⟩,HB⟩
    have HU:=lH hU
    clear hb c0 c1 c2 c3 HB hU
    go_wp2_with fail
    refine(HP.out _).mono ?_
    rintro x w2 ⟨rfl,hb⟩
    obtain⟨⟨c0,c1,c2,c3⟩,hU⟩:=xbF hb ⟨⟨k0,k1,k2,k3⟩,HU.out⟩
    have HU2:=lH hU
    clear hb k0 k1 k2 k3 HU hU
    go_wp2_with fail
    go_ret
    exact⟨xin (by rw[← hh.out,d1,d2];simp),HU2.out⟩
 ·have hne:(r == 0)=false:=by simpa using h0
  have hne2:decide (r=0)=false:=by simpa using h0
  clear h0
  go_enter Tryz.func35,Tryz.ntmps35
  go_wp2_with fail
  refine(HC.out _).mono ?_
  rintro x w1 ⟨rfl,hb⟩
  obtain⟨⟨k0,k1,k2,k3⟩,hU⟩:=xbF hb ⟨⟨c0,c1,c2,c3⟩,HB⟩
  have HU:=lH hU
  clear hb c0 c1 c2 c3 HB hU
  go_wp2_with fail
  go_ret
  exact⟨xin (by rw[← hh.out,hne2];simp),HU.out⟩
end Go.Proofs.YtjinnigjfopbcaaGreatDoor
namespace Go.Proofs.YtjinnigjfopbcaaGreatDoor
set_option linter.unusedVariables false
set_option linter.unusedSimpArgs false
open Go.ChangeShapes Go.WideShapes Go.ChangeAt Go.RowKit Go.Joins Go.Deep
set_option maxRecDepth 100000
theorem lLaid:laidOutB Tryz.prog=true:=by kernel_rfl
theorem nat_of {a:Int} (h:0≤a):∃ n:Nat,a=(n:Int):=⟨a.toNat,by omega⟩
theorem xka:Tryz.prog.cellsOf 64=2:=by kernel_rfl
theorem xoq {H:Type} {enc:TypeId × Value→H} {W:World} {base n:Nat} {spare:Nat→Bool} {held:Bool} {cs:List Value} {z:DataW H × List MemPlace}
  (h:DataW.trod enc Tryz.prog W base spare held n 64 cs=some z):∃ e:It,cs=[.int .u64 e.1,.string e.2]∧e.1<18446744073709551616∧e.2.size≤maxLen:=by
 have cu:Tryz.prog.cellsOf 26=1:=by kernel_rfl
 have cw:Tryz.prog.cellsOf 9=1:=by kernel_rfl
 obtain⟨xs,k,_,_,hl,hxl,hfs⟩:=DataW.trod_struct Tryz.underlying64 h
 rw[xka] at hl
 match cs,hl,xs,hxl,hfs with
 | [x0,x1],_,[y0,y1],_,hfs =>
  have g0:=hfs 0 _ rfl
  have g1:=hfs 1 _ rfl
  simp[cu,cw] at g0 g1
  obtain⟨b0,e0,_,w0⟩:=DataW.trod_int Tryz.underlying26 g0
  obtain⟨a0,rfl⟩:=nat_of (bounds_u64 w0).1
  obtain⟨a1,e1,_,w1⟩:=DataW.trod_string Tryz.underlying9 g1
  simp at e0 e1
  subst e0 e1
  exact⟨⟨a0,a1⟩,rfl,(by have:=(bounds_u64 w0).2;show a0<18446744073709551616;omega),w1⟩
theorem its_opened {H:Type} {enc:TypeId × Value→H} {W:World} {base b0:Nat} {r:Reach} {spare:Nat→Bool} {held:Bool} {v:Value} {d:DataW H} {p:List MemPlace}
  (hv:Value.okWide Tryz.prog W r b0 39 v) (h:DataW.Trod enc Tryz.prog W base spare held 39 v d p) :
  ∃ l,ItsAt W v l∧∀ e ∈ l,e.1<18446744073709551616∧e.2.size≤maxLen:=by
 obtain⟨a,len,cap,rfl⟩:=okWide_slice Tryz.underlying39 hv
 obtain⟨fuel,hf⟩:=h
 rcases open_slice Tryz.underlying39 hf with ⟨hcs,_⟩|⟨x,l,c,m,n,D,Pl,hcs,_,hl,hm,hmm,hxe,hx⟩
 ·simp[Value.cells] at hcs
  obtain⟨rfl,rfl,rfl⟩:=hcs
  exact⟨[],⟨none,0,rfl,Nat.le_refl _,by simp,fun k t h=>by simp at h⟩,fun e he=>by simp at he⟩
 ·simp[Value.cells] at hcs
  obtain⟨rfl,rfl,rfl⟩:=hcs
  have hlm:len≤m:=by rw[hmm];split <;> omega
  have hint:∀ i,i<len→∃ e:It,(W.cell? (x.add (i*2))=some (.int .u64 e.1)∧W.cell? (x.add (i*2+1))=some (.string e.2))∧(e.1<18446744073709551616∧e.2.size≤maxLen):=by
   intro i hi
   obtain⟨cs',q1,q2⟩:=hx i (by omega)
   rw[xka] at q1
   obtain⟨_,hlen,hcell⟩:=World.cells?_some q1
   obtain⟨e,rfl,hme⟩:=xoq q2
   have e0:=hcell 0 (by simp)
   have e1:=hcell 1 (by simp)
   rw[add_add] at e0 e1
   exact⟨e,⟨by simpa using e0,by simpa using e1⟩,hme⟩
  have hspot:0<len→x.spot=none:=by
   intro h0
   obtain⟨_,⟨q,_⟩,_⟩:=hint 0 h0
   have:x.add (0*2)=x:=by simp[Addr.add]
   rw[this] at q
   unfold World.cell? at q
   split at q
   ·split at q
    ·cases q
    ·rename_i hs
     cases hx:x.spot with
     | none=>rfl
     | some k=>rw[hx] at hs;simp at hs
   ·cases q
  obtain⟨q,hq⟩:=@choose_lt It ⟨(0,{ data:=#[] })⟩ len (fun i e=>(W.cell? (x.add (i*2))=some (.int .u64 e.1)∧W.cell? (x.add (i*2+1))=some (.string e.2))∧(e.1<18446744073709551616∧e.2.size≤maxLen)) hint
  let L:=(List.range len).map q
  have hlen:L.length=len:=by simp[L]
  have hat:∀ k t,L[k]?=some t→k<len∧t=q k:=by
   intro k t ht
   have hk:k<L.length:=(List.getElem?_eq_some_iff.1 ht).1
   rw[hlen] at hk
   refine⟨hk,?_⟩
   simp only[L,List.getElem?_map,List.getElem?_range hk,Option.map_some,Option.some.injEq] at ht
   exact ht.symm
  refine⟨L,⟨some x,cap,by rw[hlen],by omega,hm,fun k t ht=>?_⟩,fun t ht=>?_⟩
  ·obtain⟨hk,rfl⟩:=hat k t ht
   obtain⟨⟨q0,q1⟩,_⟩:=hq k hk
   have hsp:=hspot (by omega)
   obtain⟨g,off,sp⟩:=x
   simp only at hsp
   subst hsp
   have ad:∀ j,(⟨g,off,none⟩:Addr).add j=⟨g,off+j,none⟩:=fun j=>by simp[Addr.add]
   rw[ad] at q0 q1
   exact⟨g,off,rfl,xa3 q0,q0,by rw[Nat.add_assoc];exact q1⟩
  ·obtain⟨k,hk,hkt⟩:=List.getElem_of_mem ht
   obtain⟨hk2,rfl⟩:=hat k t (by rw[List.getElem?_eq_getElem hk,hkt])
   exact(hq k hk2).2
theorem it_opened {H:Type} {enc:TypeId × Value→H} {W:World} {base b0:Nat} {r:Reach} {spare:Nat→Bool} {held:Bool} {v:Value} {d:DataW H} {p:List MemPlace}
  (hv:Value.okWide Tryz.prog W r b0 64 v) (h:DataW.Trod enc Tryz.prog W base spare held 64 v d p) :
  ∃ e:It,v=.agg #[.int .u64 e.1,.string e.2]∧(e.1<18446744073709551616∧e.2.size≤maxLen):=by
 obtain⟨cs,rfl,hsz⟩:=okWide_struct Tryz.underlying64 hv
 obtain⟨fuel,hf⟩:=h
 obtain⟨e,he,hm⟩:=xoq hf
 refine⟨e,?_,hm⟩
 obtain⟨l⟩:=cs
 have he':l=[.int .u64 e.1,.string e.2]:=he
 rw[he']
end Go.Proofs.YtjinnigjfopbcaaGreatDoor
