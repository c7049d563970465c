/- Wo Wp. -/
import Derived.Test.YtjkgkmmkehnggaaGreatDoorYs
import Derived.Test.YtjkgkmmkehnggaaGreatDoorYZ5
set_option maxHeartbeats 16000000
namespace Go.Proofs.YtjkgkmmkehnggaaGreatDoor
set_option linter.unusedVariables false
set_option linter.unusedSimpArgs false
open Go.RowKit Go.Maps
set_option maxRecDepth 20000
theorem xkE {e:En} {d:ByteArray} {k:List En} (h:xfm e d=some k):k=(xco (xwm e d)).1∧(xco (xwm e d)).2.2=0:=by
 unfold xfm at h
 split at h
 ·cases h
 split at h
 ·cases h
 rename_i h2
 split at h
 ·cases h
 exact⟨(Option.some.inj h).symm,Classical.not_not.1 h2⟩
theorem xmZ {e:En} {d:ByteArray} {k:List En} (h:xfm e d=some k):k.length≤4096:=by
 rw[(xkE h).1];exact xmK _
theorem xnA (t:List UInt8):(∀ e ∈ (xco t).1,xa1 e)∧∀ e ∈ (xco t).1,ckN e=0:=by
 by_cases h:(xco t).2.2=0
 ·obtain⟨h1,h2,_⟩:=xjj t h
  exact⟨h2,fun e he=>(xfr _ _ h2 (xtt h1).1 e he).2⟩
 ·rw[(xnX t).1 h];simp
def xeF (l:List En):Prop:=xaT l∧∀ e ∈ l,ckN e=0
theorem xeF.app {a b:List En} (ha:xeF a) (hb:xeF b):xeF (a++b) :=
 ⟨fun e he=>(List.mem_append.1 he).elim (ha.1 e) (hb.1 e),fun e he=>(List.mem_append.1 he).elim (ha.2 e) (hb.2 e)⟩
theorem xsz {e:En} {d:ByteArray} {k:List En} (h:xfm e d=some k):xeF k:=by
 rw[(xkE h).1];exact xnA _
def xf8 (d:ByteArray) (l:List En) (k:Nat):Asked:=(l.take k).foldl (xip d) ⟨[],false,false⟩
theorem xgu (d:ByteArray) (l:List En) (k:Nat) (e:En) (h:l[k]?=some e):xf8 d l (k+1)=xip d (xf8 d l k) e:=by
 unfold xf8
 rw[List.take_add_one,h,List.foldl_append]
 rfl
theorem xiq (d:ByteArray) (l:List En):xf8 d l l.length=xjd d l:=by unfold xf8 xjd;rw[List.take_length]
theorem xiP (d:ByteArray) (l:List En):∀ k,k≤l.length→(xf8 d l k).l.length≤4096*k
 | 0,_=>by simp[xf8]
 | k+1,hk=>by
  obtain⟨e,he⟩:∃ e,l[k]?=some e:=⟨_,List.getElem?_eq_getElem (by omega)⟩
  have ih:=xiP d l k (by omega)
  rw[xgu d l k e he]
  unfold xip
  split
  ·simp;omega
  ·split
   ·simp;omega
   ·rename_i m hm
    have:=xmZ hm
    simp;omega
theorem xj0 (d:ByteArray) (l:List En) (hg:xeF l):∀ k,k≤l.length→xeF (xf8 d l k).l
 | 0,_=>⟨fun e he=>by simp[xf8] at he,fun e he=>by simp[xf8] at he⟩
 | k+1,hk=>by
  obtain⟨e,he⟩:∃ e,l[k]?=some e:=⟨_,List.getElem?_eq_getElem (by omega)⟩
  have ih:=xj0 d l hg k (by omega)
  have hm:=List.mem_of_getElem? he
  rw[xgu d l k e he]
  unfold xip
  split
  ·exact ih.app ⟨fun x hx=>by rw[List.mem_singleton.1 hx];exact hg.1 e hm,fun x hx=>by rw[List.mem_singleton.1 hx];exact hg.2 e hm⟩
  ·split
   ·exact ih
   ·rename_i m hm
    exact ih.app (xsz hm)
def xeS (R0:List Int) (a:Asked) (R:List Int):Prop:=∀ x,x ∈ R↔x ∈ R0∨(x=8∧a.lf=true)∨(x=9∧a.dp=true)
theorem xeS.start (R:List Int):xeS R ⟨[],false,false⟩ R:=fun x=>by simp
theorem xeS.row {R0 R:List Int} {a:Asked} {d:ByteArray} {e:En} (h:xeS R0 a R) (hr:e.rn≠0):xeS R0 (xip d a e) R:=by
 unfold xip;rw[if_pos hr];exact h
theorem xeS.bad {R0 R:List Int} {a:Asked} {d:ByteArray} {e:En} (h:xeS R0 a R) (hr:e.rn=0) (hl:xfm e d=none):xeS R0 (xip d a e) (R++[8]):=by
 unfold xip;rw[if_neg (by simpa using hr),hl]
 intro x
 simp only[List.mem_append,List.mem_singleton,h x]
 constructor
 ·rintro((h|⟨h,_⟩|h)|h)
  ·exact .inl h
  ·exact .inr (.inl ⟨h,trivial⟩)
  ·exact .inr (.inr h)
  ·exact .inr (.inl ⟨h,trivial⟩)
 ·rintro(h|⟨h,_⟩|h)
  ·exact .inl (.inl h)
  ·exact .inr h
  ·exact .inl (.inr (.inr h))
theorem xeS.leaf {R0 R:List Int} {a:Asked} {d:ByteArray} {e:En} {k:List En} (h:xeS R0 a R) (hr:e.rn=0) (hl:xfm e d=some k):xeS R0 (xip d a e) (xcW (xrr k) 9 R):=by
 unfold xip;rw[if_neg (by simpa using hr),hl]
 intro x
 unfold xcW
 show _↔x ∈ R0∨(x=8∧a.lf=true)∨(x=9∧(a.dp || xrr k)=true)
 generalize xrr k=c
 cases c with
 | false=>rw[if_neg (by simp),h x];simp
 | true =>
  rw[if_pos rfl]
  simp only[List.mem_append,List.mem_singleton,h x,Bool.or_true,and_true]
  constructor
  ·rintro((h|h|⟨h,_⟩)|h)
   ·exact .inl h
   ·exact .inr (.inl h)
   ·exact .inr (.inr h)
   ·exact .inr (.inr h)
  ·rintro(h|h|h)
   ·exact .inl (.inl h)
   ·exact .inl (.inr (.inl h))
   ·exact .inr h
theorem xbm (c:Bool) (x:Int) (R:List Int):(xcW c x R).length≤R.length+1:=by
 unfold xcW;split <;> simp
theorem xa5.grown {W X:World} {B b:Nat} {E:TypeId} {v:Value} {l:List En} (h:xa5 W B E v l) (hg:W.grownBy X (some b)) (hb:∃ es c,W.heap[b]?=some (.map es c)):xa5 X B E v l:=by
 obtain⟨es,c,hm⟩:=hb
 refine World.ownsRow.kept h hg ?_
 rcases h.2 with ⟨rfl,_⟩|⟨g,cap,cur,rfl,_,hh,_⟩
 ·exact .inl rfl
 ·refine .inr (fun e=>?_)
  have hgb:g=b:=Option.some.inj e
  subst hgb
  rw[hh] at hm
  cases hm
theorem xbr.kept {W X:World} {b:Nat} {R:List Int} {row:Option Nat} (h:xbr W b R) (hg:W.grownBy X row) (hne:some b≠row):xbr X b R:=⟨h.1,h.2.kept hg hne⟩
theorem xbd {A W X:World} {row:Option Nat} (h:A.grownBy W row) (hb:Below W.heap.size W X):A.grownBy X row:=Lib.grownBy_below h hb
theorem xdl (W:World) (B:Nat) (TS E ty:TypeId) (z:Value) (ht:Tryz.prog.underlying TS=some (.slice E)) (hI:(Tryz.prog.info? E).map (fun i=>(i.zero,i.size,i.bytes))=some (some z,4,24)) (hzs:z.cells.size=4)
  (v x:Value) (L m:List En) (hown:xa5 W B E v L) (hx:xam W x m) (hl:L.length+m.length≤40000000) (hb:B≤W.heap.size) :
  ∃ v' w',(Builtin.append_ #[TS,TS] ty #[v,x]).run Tryz.prog W=.ok v' w'∧xa5 w' B E v' (L++m)∧W.grownBy w' v.ownBlock:=by
 obtain⟨a,cap,rfl,h1,h2,hc⟩:=hx
 have fin:∀ {w':World} {v':Value},w'.ownsRow B E 4 v' (L.length+m.length) (xaw L++xaw m)→xa5 w' B E v' (L++m):=by
  intro w' v' h
  unfold xa5
  rw[xbX,List.length_append]
  exact h
 cases a with
 | none =>
  have hl0:m=[]:=by
   cases m with
   | nil=>rfl
   | cons t l=>obtain⟨g,off,ha,_⟩:=hc 0 t rfl;cases ha
  subst hl0
  refine⟨v,W,?_,by rw[List.append_nil];exact hown,World.grownBy.refl _ _⟩
  obtain⟨i0,hi,hz0,hz1,hz2⟩:=xao hI
  rcases hown.2 with ⟨rfl,hn⟩|⟨g,cap2,cur,rfl,hbg,hg,hnc,hcm,hcs,htake⟩
  ·simp[Builtin.append_,run_underlying ht,sizeOf,typeInfo,hi,Builtin.lenOf,Builtin.firstCells,loadCells,loadCellsFrom]
  ·simp[Builtin.append_,run_underlying ht,sizeOf,typeInfo,hi,Builtin.lenOf,Builtin.firstCells,loadCells,loadCellsFrom,hnc,storeCells]
 | some ad =>
  have hnews:∀ j u,(xaw m)[j]?=some u→W.cell? (ad.add j)=some u:=by
   intro j u hu
   have hj:j<m.length*4:=by rw[← xbt];exact(List.getElem?_eq_some_iff.1 hu).1
   obtain⟨t,ht⟩:∃ t,m[j / 4]?=some t:=⟨_,List.getElem?_eq_getElem (by omega)⟩
   obtain⟨g,off,ha,_,c0,c1,c2,c3⟩:=hc (j / 4) t ht
   obtain⟨f0,f1,f2,f3⟩:=xeY m (j / 4) t ht
   injection ha with ha
   subst ha
   have hadd:(⟨g,off,none⟩:Addr).add j=⟨g,off+j,none⟩:=by simp[Addr.add]
   rw[hadd]
   rcases(by omega:j=j / 4*4∨j=j / 4*4+1∨j=j / 4*4+2∨j=j / 4*4+3) with e|e|e|e
   ·rw[e,f0] at hu;rw[← hu];rw[show off+j=off+j / 4*4 from by omega];exact c0
   ·rw[e,f1] at hu;rw[← hu];rw[show off+j=off+j / 4*4+1 from by omega];exact c1
   ·rw[e,f2] at hu;rw[← hu];rw[show off+j=off+j / 4*4+2 from by omega];exact c2
   ·rw[e,f3] at hu;rw[← hu];rw[show off+j=off+j / 4*4+3 from by omega];exact c3
  obtain⟨i0,hi,hz0,hz1,hz2⟩:=xao hI
  obtain⟨v',w',hr,h2,h3,h4⟩:=run_append_own (P:=Tryz.prog) W B TS ty E i0 _ 4 24 ht hi hz0 hz1 hz2 hzs (by omega) v L.length (xaw L) hown ad m.length cap (xaw m) (xbt m) hnews (xc3 m) (by unfold maxLen;omega) (by omega) hb
  exact⟨v',w',hr,fin h2,h3⟩
def xBy (b:Nat) (R:List Int) (A:Asked) (w:World) (e:Ending) (w':World):Prop :=
 ∃ v R',e=.returned v∧xa5 w' w.heap.size 147 v A.l∧xbr w' b R'∧xeS R A R'∧R'.length≤R.length+5000∧w.grownBy w' (some b)
theorem xmd (b:Nat) (v:Value) (root:List En) (d:ByteArray) (R:List Int) (w:World) (hB:xbr w b R) (hv:xam w v root) (hg:xeF root) (hl:root.length≤4096) (hd:d.size≤1000000) (hR:R.length≤100) :
  Calls Tryz.prog 45 #[.map (some b),v,.string d] w (xBy b R (xjd d root) w):=by
 have HV:=lH (fun X (hX:w.grownBy X (some b))=>hv.grown hX hB.map)
 have HG:=lH hg
 have HB:=lH hB
 have hbw0:=hB.lt
 obtain⟨av,cv,rfl⟩:=xak hv
 rw[← xiq]
 unfold xBy
 clear hv hg hB
 go_enter Tryz.func45,Tryz.ntmps45
 go_wp2_with fail
 go_loopw [7,14] (fun vo i wr=>∃ (k:Nat) (R':List Int),k≤root.length∧i=.int .i64 k∧R'.length≤R.length+k∧Hid (xa5 wr w.heap.size 147 vo (xf8 d root k).l)∧Hid (xbr wr b R')∧Hid (xeS R (xf8 d root k) R')∧Hid (w.grownBy wr (some b))) (fun _ i _=>root.length - (intOf i).toNat)
 case atStart=>exact⟨0,R,Nat.zero_le _,rfl,Nat.le_refl _,lH (xbw _ _ _),HB,lH (xeS.start R),lH (World.grownBy.refl _ _)⟩
 case round =>
  clear HB
  obtain⟨k,R',hk,rfl,hRl,HO,HB,HI,HW⟩:=hrel
  by_cases hlt:k<root.length
  ·obtain⟨e,he⟩:∃ e,root[k]?=some e:=⟨_,List.getElem?_eq_getElem hlt⟩
   have hme:=HG.out.1 e (List.mem_of_getElem? he)
   have hck:=HG.out.2 e (List.mem_of_getElem? he)
   obtain⟨g,off,cap,hv2,hle,hgl,hc⟩:=xh0 (HV.out wr HW.out) k hlt
   cases hv2
   obtain⟨k0,k1,k2,k3⟩:=hc k e he
   have hki:(k:Int)<(root.length:Int):=by omega
   have HS:=lH (xgu d root k e he)
   have HF:=lH (xiP d root k (by omega))
   have HLF:=lH (fun X=>xqS e d X hme hck hd)
   have HPT:=lH (fun X=>xnG e X)
   have HEA:=lH (EAt.made wr e 147)
   have hb1:Below wr.heap.size wr (wr.alloc (.cells (eC e) 147)):=(Below.refl _ _).alloc (Nat.le_refl _) _
   have HB1:=lH hb1
   obtain⟨av9,cv9,rfl⟩:=xak HO.out.ensAt
   clear hc he hme hck hb1
   unfold eC at HLF HPT HEA HB1
   by_cases hr:e.rn=0
   ·have HRN:=lH hr
    rw[decide_eq_true hr] at HPT
    clear hr
    go_wp2_with fail
    refine(HPT.out _).mono ?_
    rintro x w1 ⟨rfl,hb2⟩
    obtain⟨e0,e1,e2,e3⟩:=HEA.out.later hb2
    have HW1:=lH (And.intro (HB1.out.trans (hb2.mono HB1.out.size)) (xbd HW.out (HB1.out.trans (hb2.mono HB1.out.size))))
    clear hb2 k0 k1 k2 k3 HPT HEA HB1
    go_wp2_with fail
    refine(HLF.out _).mono ?_
    unfold xls
    rintro x w2 ⟨vu,rfl,ho2,hb2⟩
    have hb02:=HW1.out.1.trans (hb2.mono HW1.out.1.size)
    have HW2:=lH (And.intro hb02 (xbd HW.out hb02))
    have HB2:=lH (HB.out.below hb02 HB.out.lt)
    have HO2:=lH (HO.out.below hb02)
    have HU2:=lH (ho2.mono HW1.out.1.size)
    obtain⟨au,cu,rfl⟩:=xak ho2.ensAt
    clear hb2 ho2 hb02 e0 e1 e2 e3 HLF HW1
    cases hlf:xfm e d with
    | none =>
     have HST:=lH (HI.out.bad HRN.out hlf)
     have HSE:Hid ((xf8 d root (k+1)).l=(xf8 d root k).l):=lH (by rw[HS.out];unfold xip;rw[if_neg (by simpa using HRN.out),hlf])
     rw[hlf] at HU2
     simp only[Option.isSome_none,Option.getD_none] at HU2 ⊢
     have HA:=lH (xaZ b 8 true R' w2 HB2.out (by omega) (by unfold maxLen;omega))
     unfold xkC at HA
     go_wp2_with fail
     refine HA.out.mono ?_
     rintro x w3 ⟨rfl,hB3,hg3⟩
     have HB3:=lH hB3
     have HO3:=lH (HO2.out.grown hg3 HB2.out.map)
     have HU3:=lH (HU2.out.grown hg3 HB2.out.map)
     have HG3:=lH (Lib.grownBy_trans HW2.out.2 hg3)
     have hf:=HF.out
     obtain⟨v5,w5q,hr5,ho5,hg5⟩:=xdl w3 w.heap.size 84 147 84 _ Tryz.underlying84 xl6 rfl (.slice av9 (xf8 d root k).l.length cv9) (.slice au 0 cu) (xf8 d root k).l [] HO3.out HU3.out.ensAt (by (try simp only[List.length_nil,Nat.add_zero]);omega) HG3.out.size
     have HO5:=lH ho5
     have HB5:=lH (HB3.out.kept hg5 (fun e=>by have:=(HO3.out.lt b e.symm).1;omega))
     have HW5:=lH (World.grownBy.andThen HG3.out hg5 (fun j hj=>.inl (HO3.out.lt j hj).1))
     clear hB3 hg3 ho5 hg5 HA hf
     go_wp2_with (first|(at_builtin;refine Lib.wpList_append_run _ rfl _ _ _ _ rfl _ _ rfl rfl _ _ hr5 ?_)|fail)
     go_roundw
     case rel=>exact⟨k+1,_,by omega,by go_num,by have:=xbm true 8 R';omega,lH (by rw[HSE.out];simpa using HO5.out),HB5,lH (by rw[HS.out];exact HST.out),HW5⟩
     case measure=>simp[intOf];omega
    | some m =>
     have HST:=lH (HI.out.leaf HRN.out hlf)
     have HSE:Hid ((xf8 d root (k+1)).l=(xf8 d root k).l++m):=lH (by rw[HS.out];unfold xip;rw[if_neg (by simpa using HRN.out),hlf])
     have hmf:=xmZ hlf
     rw[hlf] at HU2
     simp only[Option.isSome_some,Option.getD_some] at HU2 ⊢
     have HA:=lH (xaZ b 8 false R' w2 HB2.out (by omega) (by unfold maxLen;omega))
     unfold xkC xcW at HA
     rw[if_neg (by simp)] at HA
     go_wp2_with fail
     refine HA.out.mono ?_
     rintro x w3 ⟨rfl,hB3,hg3⟩
     have HB3:=lH hB3
     have HO3:=lH (HO2.out.grown hg3 HB2.out.map)
     have HU3:=lH (HU2.out.grown hg3 HB2.out.map)
     have HG3:=lH (Lib.grownBy_trans HW2.out.2 hg3)
     have HC:=lH (xrS (.slice au m.length cu) m w3 HU3.out.ensAt (by omega))
     clear hB3 hg3 HA HB2 HO2 HU2
     go_wp2_with fail
     refine HC.out.mono ?_
     rintro x w4 ⟨rfl,hb4⟩
     have HB4:=lH (HB3.out.below hb4 HB3.out.lt)
     have HO4:=lH (HO3.out.below hb4)
     have HU4:=lH (HU3.out.below hb4)
     have HG4:=lH (xbd HG3.out hb4)
     have HA:=lH (xaZ b 9 (xrr m) R' w4 HB4.out (by omega) (by unfold maxLen;omega))
     unfold xkC at HA
     clear hb4 HB3 HO3 HU3 HG3 HC
     generalize xrr m=pm at *
     go_wp2_with fail
     refine HA.out.mono ?_
     rintro x w5 ⟨rfl,hB3,hg3⟩
     have HB3:=lH hB3
     have HO3:=lH (HO4.out.grown hg3 HB4.out.map)
     have HU3:=lH (HU4.out.grown hg3 HB4.out.map)
     have HG3:=lH (Lib.grownBy_trans HG4.out hg3)
     have hf:=HF.out
     obtain⟨v5,w5q,hr5,ho5,hg5⟩:=xdl w5 w.heap.size 84 147 84 _ Tryz.underlying84 xl6 rfl (.slice av9 (xf8 d root k).l.length cv9) (.slice au m.length cu) (xf8 d root k).l m HO3.out HU3.out.ensAt (by (try simp only[List.length_nil,Nat.add_zero]);omega) HG3.out.size
     have HO5:=lH ho5
     have HB5:=lH (HB3.out.kept hg5 (fun e=>by have:=(HO3.out.lt b e.symm).1;omega))
     have HW5:=lH (World.grownBy.andThen HG3.out hg5 (fun j hj=>.inl (HO3.out.lt j hj).1))
     clear hB3 hg3 ho5 hg5 HA hf
     go_wp2_with (first|(at_builtin;refine Lib.wpList_append_run _ rfl _ _ _ _ rfl _ _ rfl rfl _ _ hr5 ?_)|fail)
     go_roundw
     case rel=>exact⟨k+1,_,by omega,by go_num,by have:=xbm pm 9 R';omega,lH (by rw[HSE.out];exact HO5.out),HB5,lH (by rw[HS.out];exact HST.out),HW5⟩
     case measure=>simp[intOf];omega
   ·have HRN:=lH hr
    rw[decide_eq_false hr] at HPT
    have HST:=lH (HI.out.row (d:=d) hr)
    have HSE:Hid ((xf8 d root (k+1)).l=(xf8 d root k).l++[e]):=lH (by rw[HS.out];unfold xip;rw[if_pos hr])
    clear hr
    go_wp2_with fail
    refine(HPT.out _).mono ?_
    rintro x w1 ⟨rfl,hb2⟩
    have HE1:=lH (HEA.out.later hb2)
    obtain⟨e0,e1,e2,e3⟩:=HE1.out
    have hb01:=HB1.out.trans (hb2.mono HB1.out.size)
    have hb3:Below w1.heap.size w1 (w1.alloc (.cells (eC e) 147)):=(Below.refl _ _).alloc (Nat.le_refl _) _
    have hb03:=hb01.trans (hb3.mono hb01.size)
    have hf:=HF.out
    have hsz:=Nat.le_trans HW.out.size hb03.size
    obtain⟨v5,w5,hr5,ho5,hg5⟩:=xdl (w1.alloc (.cells (eC e) 147)) w.heap.size 84 147 84 _ Tryz.underlying84 xl6 rfl (.slice av9 (xf8 d root k).l.length cv9) (.slice (some ⟨w1.heap.size,0,none⟩) 1 1) (xf8 d root k).l [e] (HO.out.below hb03) (xj8 w1 e _) (by simp;omega) hsz
    have hown:=HO.out.below hb03
    have HO5:=lH ho5
    have HB5:=lH ((HB.out.below hb03 HB.out.lt).kept hg5 (fun e=>by have:=(hown.lt b e.symm).1;omega))
    have HW5:=lH (World.grownBy.andThen (xbd HW.out hb03) hg5 (fun j hj=>.inl (hown.lt j hj).1))
    clear hb2 hb01 hb3 hb03 hsz hown ho5 hg5 k0 k1 k2 k3 HPT HEA HB1 hf
    rw[HS.out] at HSE
    have HSQ:=HSE.out
    rw[← HS.out] at HSQ
    unfold eC at hr5
    go_wp2_with (first|(at_builtin;refine Lib.wpList_append_run _ rfl _ _ _ _ rfl _ _ rfl rfl _ _ hr5 ?_)|fail)
    go_roundw
    case rel=>exact⟨k+1,R',by omega,by go_num,by omega,lH (by rw[HSQ];exact HO5.out),HB5,lH (by rw[HS.out];exact HST.out),HW5⟩
    case measure=>simp[intOf];omega
  ·obtain rfl:k=root.length:=by omega
   obtain⟨av9,cv9,rfl⟩:=xak HO.out.ensAt
   go_wp2_with fail
   go_ret
   exact⟨_,R',rfl,HO.out,HB.out,HI.out,by omega,HW.out⟩
end Go.Proofs.YtjkgkmmkehnggaaGreatDoor
namespace Go.Proofs.YtjkgkmmkehnggaaGreatDoor
set_option linter.unusedVariables false
set_option linter.unusedSimpArgs false
open Go.RowKit
set_option maxRecDepth 20000
def xky (R0:List Int) (l:List En) (i:Nat) (R:List Int):Prop:=∀ x,x ∈ R↔x ∈ R0∨(x=10∧xpF l i=false)∨(x=12∧xpn l i=false)
theorem xky.start (R:List Int) (l:List En):xky R l 1 R:=fun x=>by simp[xpF,xpn]
theorem xbG (c:Bool) (y x:Int) (R:List Int):x ∈ xcW c y R↔x ∈ R∨(x=y∧c=true):=by
 unfold xcW
 cases c <;> simp
theorem xky.step {R0 R:List Int} {l:List En} {i:Nat} (h:xky R0 l i R) (hi:1≤i) :
  xky R0 l (i+1) (xcW (xAs (gS l (i - 1)) (gS l i)) 12 (xcW (decide ((gS l i).id≤laN (gS l (i - 1)))) 10 R)):=by
 intro x
 rw[xbG,xbG,h x]
 have e1:xpF l (i+1)=(xpF l i && !decide ((gS l i).id≤laN (gS l (i - 1)))):=by
  rw[xpF,decide_eq_false (show ¬ i=0 by omega),Bool.false_or]
  congr 1
  rw[Bool.eq_iff_iff]
  simp
 have e2:xpn l (i+1)=(xpn l i && !xAs (gS l (i - 1)) (gS l i)):=by
  rw[xpn,decide_eq_false (show ¬ i=0 by omega),Bool.false_or]
 rw[e1,e2]
 generalize decide ((gS l i).id≤laN (gS l (i - 1)))=c1
 generalize xAs (gS l (i - 1)) (gS l i)=c2
 generalize (x ∈ R0)=P0
 generalize (x=10)=P1
 generalize (x=12)=P2
 generalize xpF l i=c3
 generalize xpn l i=c4
 cases c1 <;> cases c2 <;> cases c3 <;> cases c4 <;> simp <;> by_cases h0:P0 <;> by_cases h1:P1 <;> by_cases h2:P2 <;> simp[h0,h1,h2]
theorem xBU {l:List En}:xpF l (max 1 l.length)=xpF l l.length∧xpn l (max 1 l.length)=xpn l l.length:=by
 cases l with
 | nil=>exact⟨rfl,rfl⟩
 | cons e r=>rw[show max 1 (e :: r).length=(e :: r).length by simp];exact⟨rfl,rfl⟩
theorem xtV (l:List En) (e:En):enN (l++[e])=if ckN e=0 then max (enN l) (e.off+e.ln) else enN l:=by simp[enN]
theorem xuB {l:List En} (hc:∀ e ∈ l,ckN e=0):xlW l=xu9 l l.length:=by
 have:=xim l hc l.length (Nat.le_refl _)
 rw[List.take_length] at this
 exact this.symm
theorem xBG {l:List En} (hc:∀ e ∈ l,ckN e=0) (hm:xaT l) (n:Int) (hn:0≤n):∀ k,k≤l.length→(inT l n k=decide (enN (l.take k)≤n))
 | 0,_=>by simp[inT,enN,hn]
 | k+1,hk=>by
  have hk':=xdZ l k (by omega)
  rw[inT,xBG hc hm n hn k (by omega),List.take_add_one,hk']
  show _=decide (enN (l.take k++[gS l k])≤n)
  rw[xtV,if_pos (hc _ (xcO l k (by omega))),Bool.eq_iff_iff]
  simp only[Bool.and_eq_true,decide_eq_true_eq]
  omega
theorem xAP {l:List En} (hg:xeF l) (n:Int) (hn:0≤n):inT l n l.length=decide (enN l≤n):=by
 have:=xBG hg.2 hg.1 n hn l.length (Nat.le_refl _)
 rw[List.take_length] at this
 exact this
theorem xr7 {l:List En} {n:Int}:∀ k,inT l n k=true→∀ i,i<k→(gS l i).off+(gS l i).ln≤n
 | 0,_,i,h=>by omega
 | k+1,h,i,hi=>by
  rw[inT,Bool.and_eq_true,decide_eq_true_eq] at h
  by_cases e:i=k
  ·rw[e];exact h.2
  ·exact xr7 k h.1 i (by omega)
theorem xAT {l:List En} {n:Int} (hm:xaT l) (h:inT l n l.length=true):InD ((xje l).map prE) n:=fun p hp=>by
 obtain⟨k,hk,e⟩:=xix.1 ((xf2 l).2.1 p |>.1 hp)
 have h1:=xr7 l.length h k hk
 have h2:=hm _ (xcO l k hk)
 unfold xa1 at h2
 rw[← e]
 unfold prE
 simp only
 omega
theorem xaV (x k:Int) (b:Bool) (r:List Bool):x ∈ xbq k (b :: r)↔(x=k∧b=false)∨x ∈ xbq (k+1) r:=by
 rw[xbq]
 cases b <;> simp
theorem xCA (x:Int) (b0 b1 b2 b3 b4 b5:Bool):x ∈ xbq 10 [b0,b1,b2,b3,b4,b5]↔(x=10∧b0=false)∨(x=11∧b1=false)∨(x=12∧b2=false)∨(x=13∧b3=false)∨(x=14∧b4=false)∨(x=15∧b5=false):=by
 rw[xaV,xaV,xaV,xaV,xaV,xaV]
 simp[xbq]
theorem xCb {R0 R:List Int} {h:Hd} {l:List En} {d:ByteArray} {c13 c14 c15:Bool} (hr:xky R0 l (max 1 l.length) R)
  (h13:inT l d.size l.length=true→c13=!xeq d 0 [] ((xje l).map prE)) (h14:c14=!(decide (h.ad=xu9 l l.length) && (decide (h.en=(l.length:Int)) && decide (h.co=((xje l).length:Int))))) (h15:c15=!(decide (h.z0=xtN l) && decide (h.z1=xvm l))) :
  ∀ x,x ∈ xcW c15 15 (xcW c14 14 (if inT l d.size l.length=true then xcW c13 13 R else R++[11]))↔x ∈ R0∨x ∈ xbq 10 (xj6 h l d):=by
 intro x
 obtain⟨e1,e2⟩:=xBU (l:=l)
 have hr:=hr x
 rw[e1,e2] at hr
 unfold xj6
 rw[xbG,xbG,h14,h15]
 generalize (decide (h.ad=xu9 l l.length) && (decide (h.en=(l.length:Int)) && decide (h.co=((xje l).length:Int))))=b14
 generalize (decide (h.z0=xtN l) && decide (h.z1=xvm l))=b15
 generalize xeq d 0 [] ((xje l).map prE)=b13 at *
 generalize inT l d.size l.length=bi at *
 generalize xpF l l.length=br at *
 generalize xpn l l.length=bu at *
 rw[xCA]
 cases bi with
 | true =>
  rw[if_pos rfl,xbG,hr,h13 rfl]
  cases b13 <;> cases b14 <;> cases b15 <;> simp <;> by_cases h0:x ∈ R0 <;> by_cases h1:x=10∧br=false <;> by_cases h2:x=12∧bu=false <;> simp[h0,h1,h2] <;> omega
 | false =>
  rw[if_neg (by simp),List.mem_append,List.mem_singleton,hr]
  cases b14 <;> cases b15 <;> simp <;> by_cases h0:x ∈ R0 <;> by_cases h1:x=10∧br=false <;> by_cases h2:x=12∧bu=false <;> simp[h0,h1,h2] <;> omega
end Go.Proofs.YtjkgkmmkehnggaaGreatDoor
