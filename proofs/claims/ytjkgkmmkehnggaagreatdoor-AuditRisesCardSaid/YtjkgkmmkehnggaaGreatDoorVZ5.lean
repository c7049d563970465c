/- Wo Wp. -/
import Derived.Test.YtjkgkmmkehnggaaGreatDoorVZ4
namespace Go.Proofs.YtjkgkmmkehnggaaGreatDoor
set_option linter.unusedVariables false
set_option linter.unusedSimpArgs false
open Go.RowKit Go.Maps
set_option maxRecDepth 20000
theorem leaf_some {e:En} {d:ByteArray} {k:List En} (h:leafA e d=some k):k=(decD (bitE e d)).1∧(decD (bitE e d)).2.2=0:=by
 unfold leafA at h
 split at h
 ·cases h
 split at h
 ·cases h
 rename_i h2
 split at h
 ·cases h
 exact⟨(Option.some.inj h).symm,Classical.not_not.1 h2⟩
theorem leaf_few {e:En} {d:ByteArray} {k:List En} (h:leafA e d=some k):k.length≤4096:=by
 rw[(leaf_some h).1];exact decD_few _
theorem dec_good (t:List UInt8):(∀ e ∈ (decD t).1,MayN e)∧∀ e ∈ (decD t).1,ckN e=0:=by
 by_cases h:(decD t).2.2=0
 ·obtain⟨h1,h2,_⟩:=decD_back t h
  exact⟨h2,fun e he=>(rowG_above _ _ h2 (row_G h1).1 e he).2⟩
 ·rw[(decD_bad t).1 h];simp
def GoodL (l:List En):Prop:=MaysN l∧∀ e ∈ l,ckN e=0
theorem GoodL.app {a b:List En} (ha:GoodL a) (hb:GoodL b):GoodL (a++b) :=
 ⟨fun e he=>(List.mem_append.1 he).elim (ha.1 e) (hb.1 e),fun e he=>(List.mem_append.1 he).elim (ha.2 e) (hb.2 e)⟩
theorem leaf_good {e:En} {d:ByteArray} {k:List En} (h:leafA e d=some k):GoodL k:=by
 rw[(leaf_some h).1];exact dec_good _
def askK (d:ByteArray) (l:List En) (k:Nat):Asked:=(l.take k).foldl (askS d) ⟨[],false,false⟩
theorem askK_succ (d:ByteArray) (l:List En) (k:Nat) (e:En) (h:l[k]?=some e):askK d l (k+1)=askS d (askK d l k) e:=by
 unfold askK
 rw[List.take_add_one,h,List.foldl_append]
 rfl
theorem askK_all (d:ByteArray) (l:List En):askK d l l.length=askA d l:=by unfold askK askA;rw[List.take_length]
theorem askK_few (d:ByteArray) (l:List En):∀ k,k≤l.length→(askK d l k).l.length≤4096*k
 | 0,_=>by simp[askK]
 | k+1,hk=>by
  obtain⟨e,he⟩:∃ e,l[k]?=some e:=⟨_,List.getElem?_eq_getElem (by omega)⟩
  have ih:=askK_few d l k (by omega)
  rw[askK_succ d l k e he]
  unfold askS
  split
  ·simp;omega
  ·split
   ·simp;omega
   ·rename_i m hm
    have:=leaf_few hm
    simp;omega
theorem askK_good (d:ByteArray) (l:List En) (hg:GoodL l):∀ k,k≤l.length→GoodL (askK d l k).l
 | 0,_=>⟨fun e he=>by simp[askK] at he,fun e he=>by simp[askK] at he⟩
 | k+1,hk=>by
  obtain⟨e,he⟩:∃ e,l[k]?=some e:=⟨_,List.getElem?_eq_getElem (by omega)⟩
  have ih:=askK_good d l hg k (by omega)
  have hm:=List.mem_of_getElem? he
  rw[askK_succ d l k e he]
  unfold askS
  split
  ·exact ih.app ⟨fun x hx=>by rw[List.mem_singleton.1 hx];exact hg.1 e hm,fun x hx=>by rw[List.mem_singleton.1 hx];exact hg.2 e hm⟩
  ·split
   ·exact ih
   ·rename_i m hm
    exact ih.app (leaf_good hm)
def LvInv (R0:List Int) (a:Asked) (R:List Int):Prop:=∀ x,x ∈ R↔x ∈ R0∨(x=8∧a.lf=true)∨(x=9∧a.dp=true)
theorem LvInv.start (R:List Int):LvInv R ⟨[],false,false⟩ R:=fun x=>by simp
theorem LvInv.row {R0 R:List Int} {a:Asked} {d:ByteArray} {e:En} (h:LvInv R0 a R) (hr:e.rn≠0):LvInv R0 (askS d a e) R:=by
 unfold askS;rw[if_pos hr];exact h
theorem LvInv.bad {R0 R:List Int} {a:Asked} {d:ByteArray} {e:En} (h:LvInv R0 a R) (hr:e.rn=0) (hl:leafA e d=none):LvInv R0 (askS d a e) (R++[8]):=by
 unfold askS;rw[if_neg (by simpa using hr),hl]
 intro x
 simp only[List.mem_append,List.mem_singleton,h x]
 constructor
 ·rintro((h|⟨h,_⟩|h)|h)
  ·exact .inl h
  ·exact .inr (.inl ⟨h,trivial⟩)
  ·exact .inr (.inr h)
  ·exact .inr (.inl ⟨h,trivial⟩)
 ·rintro(h|⟨h,_⟩|h)
  ·exact .inl (.inl h)
  ·exact .inr h
  ·exact .inl (.inr (.inr h))
theorem LvInv.leaf {R0 R:List Int} {a:Asked} {d:ByteArray} {e:En} {k:List En} (h:LvInv R0 a R) (hr:e.rn=0) (hl:leafA e d=some k):LvInv R0 (askS d a e) (addR (ptrA k) 9 R):=by
 unfold askS;rw[if_neg (by simpa using hr),hl]
 intro x
 unfold addR
 show _↔x ∈ R0∨(x=8∧a.lf=true)∨(x=9∧(a.dp || ptrA k)=true)
 generalize ptrA k=c
 cases c with
 | false=>rw[if_neg (by simp),h x];simp
 | true =>
  rw[if_pos rfl]
  simp only[List.mem_append,List.mem_singleton,h x,Bool.or_true,and_true]
  constructor
  ·rintro((h|h|⟨h,_⟩)|h)
   ·exact .inl h
   ·exact .inr (.inl h)
   ·exact .inr (.inr h)
   ·exact .inr (.inr h)
  ·rintro(h|h|h)
   ·exact .inl (.inl h)
   ·exact .inl (.inr (.inl h))
   ·exact .inr h
theorem addR_len (c:Bool) (x:Int) (R:List Int):(addR c x R).length≤R.length+1:=by
 unfold addR;split <;> simp
theorem OwnE.grown {W X:World} {B b:Nat} {E:TypeId} {v:Value} {l:List En} (h:OwnE W B E v l) (hg:W.grownBy X (some b)) (hb:∃ es c,W.heap[b]?=some (.map es c)):OwnE X B E v l:=by
 obtain⟨es,c,hm⟩:=hb
 refine World.ownsRow.kept h hg ?_
 rcases h.2 with ⟨rfl,_⟩|⟨g,cap,cur,rfl,_,hh,_⟩
 ·exact .inl rfl
 ·refine .inr (fun e=>?_)
  have hgb:g=b:=Option.some.inj e
  subst hgb
  rw[hh] at hm
  cases hm
theorem BrkAt.kept {W X:World} {b:Nat} {R:List Int} {row:Option Nat} (h:BrkAt W b R) (hg:W.grownBy X row) (hne:some b≠row):BrkAt X b R:=⟨h.1,h.2.kept hg hne⟩
theorem grown_below {A W X:World} {row:Option Nat} (h:A.grownBy W row) (hb:Below W.heap.size W X):A.grownBy X row:=Lib.grownBy_below h hb
theorem enappend_big (W:World) (B:Nat) (TS E ty:TypeId) (z:Value) (ht:Tryz.prog.underlying TS=some (.slice E)) (hI:(Tryz.prog.info? E).map (fun i=>(i.zero,i.size,i.bytes))=some (some z,4,24)) (hzs:z.cells.size=4)
  (v x:Value) (L m:List En) (hown:OwnE W B E v L) (hx:EnsAt W x m) (hl:L.length+m.length≤40000000) (hb:B≤W.heap.size) :
  ∃ v' w',(Builtin.append_ #[TS,TS] ty #[v,x]).run Tryz.prog W=.ok v' w'∧OwnE w' B E v' (L++m)∧W.grownBy w' v.ownBlock:=by
 obtain⟨a,cap,rfl,h1,h2,hc⟩:=hx
 have fin:∀ {w':World} {v':Value},w'.ownsRow B E 4 v' (L.length+m.length) (flat4 L++flat4 m)→OwnE w' B E v' (L++m):=by
  intro w' v' h
  unfold OwnE
  rw[flat4_append,List.length_append]
  exact h
 cases a with
 | none =>
  have hl0:m=[]:=by
   cases m with
   | nil=>rfl
   | cons t l=>obtain⟨g,off,ha,_⟩:=hc 0 t rfl;cases ha
  subst hl0
  refine⟨v,W,?_,by rw[List.append_nil];exact hown,World.grownBy.refl _ _⟩
  obtain⟨i0,hi,hz0,hz1,hz2⟩:=info_parts hI
  rcases hown.2 with ⟨rfl,hn⟩|⟨g,cap2,cur,rfl,hbg,hg,hnc,hcm,hcs,htake⟩
  ·simp[Builtin.append_,run_underlying ht,sizeOf,typeInfo,hi,Builtin.lenOf,Builtin.firstCells,loadCells,loadCellsFrom]
  ·simp[Builtin.append_,run_underlying ht,sizeOf,typeInfo,hi,Builtin.lenOf,Builtin.firstCells,loadCells,loadCellsFrom,hnc,storeCells]
 | some ad =>
  have hnews:∀ j u,(flat4 m)[j]?=some u→W.cell? (ad.add j)=some u:=by
   intro j u hu
   have hj:j<m.length*4:=by rw[← flat4_len];exact(List.getElem?_eq_some_iff.1 hu).1
   obtain⟨t,ht⟩:∃ t,m[j / 4]?=some t:=⟨_,List.getElem?_eq_getElem (by omega)⟩
   obtain⟨g,off,ha,_,c0,c1,c2,c3⟩:=hc (j / 4) t ht
   obtain⟨f0,f1,f2,f3⟩:=flat4_at m (j / 4) t ht
   injection ha with ha
   subst ha
   have hadd:(⟨g,off,none⟩:Addr).add j=⟨g,off+j,none⟩:=by simp[Addr.add]
   rw[hadd]
   rcases(by omega:j=j / 4*4∨j=j / 4*4+1∨j=j / 4*4+2∨j=j / 4*4+3) with e|e|e|e
   ·rw[e,f0] at hu;rw[← hu];rw[show off+j=off+j / 4*4 from by omega];exact c0
   ·rw[e,f1] at hu;rw[← hu];rw[show off+j=off+j / 4*4+1 from by omega];exact c1
   ·rw[e,f2] at hu;rw[← hu];rw[show off+j=off+j / 4*4+2 from by omega];exact c2
   ·rw[e,f3] at hu;rw[← hu];rw[show off+j=off+j / 4*4+3 from by omega];exact c3
  obtain⟨i0,hi,hz0,hz1,hz2⟩:=info_parts hI
  obtain⟨v',w',hr,h2,h3,h4⟩:=run_append_own (P:=Tryz.prog) W B TS ty E i0 _ 4 24 ht hi hz0 hz1 hz2 hzs (by omega) v L.length (flat4 L) hown ad m.length cap (flat4 m) (flat4_len m) hnews (flat4_cells m) (by unfold maxLen;omega) (by omega) hb
  exact⟨v',w',hr,fin h2,h3⟩
def LvEnd (b:Nat) (R:List Int) (A:Asked) (w:World) (e:Ending) (w':World):Prop :=
 ∃ v R',e=.returned v∧OwnE w' w.heap.size 147 v A.l∧BrkAt w' b R'∧LvInv R A R'∧R'.length≤R.length+5000∧w.grownBy w' (some b)
set_option maxHeartbeats 8000000 in
theorem aleaves_any (b:Nat) (v:Value) (root:List En) (d:ByteArray) (R:List Int) (w:World) (hB:BrkAt w b R) (hv:EnsAt w v root) (hg:GoodL root) (hl:root.length≤4096) (hd:d.size≤1000000) (hR:R.length≤100) :
  Calls Tryz.prog 45 #[.map (some b),v,.string d] w (LvEnd b R (askA d root) w):=by
 have HV:=Lib.hid (fun X (hX:w.grownBy X (some b))=>hv.grown hX hB.map)
 have HG:=Lib.hid hg
 have HB:=Lib.hid hB
 have hbw0:=hB.lt
 obtain⟨av,cv,rfl⟩:=ensAt_form hv
 rw[← askK_all]
 unfold LvEnd
 clear hv hg hB
 go_enter Tryz.func45,Tryz.ntmps45
 go_wp2_with fail
 go_loopw [7,14] (fun vo i wr=>∃ (k:Nat) (R':List Int),k≤root.length∧i=.int .i64 k∧R'.length≤R.length+k∧Hid (OwnE wr w.heap.size 147 vo (askK d root k).l)∧Hid (BrkAt wr b R')∧Hid (LvInv R (askK d root k) R')∧Hid (w.grownBy wr (some b))) (fun _ i _=>root.length - (intOf i).toNat)
 case atStart=>exact⟨0,R,Nat.zero_le _,rfl,Nat.le_refl _,Lib.hid (ownE_nil _ _ _),HB,Lib.hid (LvInv.start R),Lib.hid (World.grownBy.refl _ _)⟩
 case round =>
  clear HB
  obtain⟨k,R',hk,rfl,hRl,HO,HB,HI,HW⟩:=hrel
  by_cases hlt:k<root.length
  ·obtain⟨e,he⟩:∃ e,root[k]?=some e:=⟨_,List.getElem?_eq_getElem hlt⟩
   have hme:=HG.out.1 e (List.mem_of_getElem? he)
   have hck:=HG.out.2 e (List.mem_of_getElem? he)
   obtain⟨g,off,cap,hv2,hle,hgl,hc⟩:=ens_at (HV.out wr HW.out) k hlt
   cases hv2
   obtain⟨k0,k1,k2,k3⟩:=hc k e he
   have hki:(k:Int)<(root.length:Int):=by omega
   have HS:=Lib.hid (askK_succ d root k e he)
   have HF:=Lib.hid (askK_few d root k (by omega))
   have HLF:=Lib.hid (fun X=>aleaf_any e d X hme hck hd)
   have HPT:=Lib.hid (fun X=>aptr_any e X)
   have HEA:=Lib.hid (EAt.made wr e 147)
   have hb1:Below wr.heap.size wr (wr.alloc (.cells (eC e) 147)):=(Below.refl _ _).alloc (Nat.le_refl _) _
   have HB1:=Lib.hid hb1
   obtain⟨av9,cv9,rfl⟩:=ensAt_form HO.out.ensAt
   clear hc he hme hck hb1
   unfold eC at HLF HPT HEA HB1
   by_cases hr:e.rn=0
   ·have HRN:=Lib.hid hr
    rw[decide_eq_true hr] at HPT
    clear hr
    go_wp2_with fail
    refine(HPT.out _).mono ?_
    rintro x w1 ⟨rfl,hb2⟩
    obtain⟨e0,e1,e2,e3⟩:=HEA.out.later hb2
    have HW1:=Lib.hid (And.intro (HB1.out.trans (hb2.mono HB1.out.size)) (grown_below HW.out (HB1.out.trans (hb2.mono HB1.out.size))))
    clear hb2 k0 k1 k2 k3 HPT HEA HB1
    go_wp2_with fail
    refine(HLF.out _).mono ?_
    unfold LeafEnd
    rintro x w2 ⟨vu,rfl,ho2,hb2⟩
    have hb02:=HW1.out.1.trans (hb2.mono HW1.out.1.size)
    have HW2:=Lib.hid (And.intro hb02 (grown_below HW.out hb02))
    have HB2:=Lib.hid (HB.out.below hb02 HB.out.lt)
    have HO2:=Lib.hid (HO.out.below hb02)
    have HU2:=Lib.hid (ho2.mono HW1.out.1.size)
    obtain⟨au,cu,rfl⟩:=ensAt_form ho2.ensAt
    clear hb2 ho2 hb02 e0 e1 e2 e3 HLF HW1
    cases hlf:leafA e d with
    | none =>
     have HST:=Lib.hid (HI.out.bad HRN.out hlf)
     have HSE:Hid ((askK d root (k+1)).l=(askK d root k).l):=Lib.hid (by rw[HS.out];unfold askS;rw[if_neg (by simpa using HRN.out),hlf])
     rw[hlf] at HU2
     simp only[Option.isSome_none,Option.getD_none] at HU2 ⊢
     have HA:=Lib.hid (ask_any b 8 true R' w2 HB2.out (by omega) (by unfold maxLen;omega))
     unfold AskEnd at HA
     go_wp2_with fail
     refine HA.out.mono ?_
     rintro x w3 ⟨rfl,hB3,hg3⟩
     have HB3:=Lib.hid hB3
     have HO3:=Lib.hid (HO2.out.grown hg3 HB2.out.map)
     have HU3:=Lib.hid (HU2.out.grown hg3 HB2.out.map)
     have HG3:=Lib.hid (Lib.grownBy_trans HW2.out.2 hg3)
     have hf:=HF.out
     obtain⟨v5,w5q,hr5,ho5,hg5⟩:=enappend_big w3 w.heap.size 84 147 84 _ Tryz.underlying84 pinfoRe rfl (.slice av9 (askK d root k).l.length cv9) (.slice au 0 cu) (askK d root k).l [] HO3.out HU3.out.ensAt (by (try simp only[List.length_nil,Nat.add_zero]);omega) HG3.out.size
     have HO5:=Lib.hid ho5
     have HB5:=Lib.hid (HB3.out.kept hg5 (fun e=>by have:=(HO3.out.lt b e.symm).1;omega))
     have HW5:=Lib.hid (World.grownBy.andThen HG3.out hg5 (fun j hj=>.inl (HO3.out.lt j hj).1))
     clear hB3 hg3 ho5 hg5 HA hf
     go_wp2_with (first|(at_builtin;refine Lib.wpList_append_run _ rfl _ _ _ _ rfl _ _ rfl rfl _ _ hr5 ?_)|fail)
     go_roundw
     case rel=>exact⟨k+1,_,by omega,by go_num,by have:=addR_len true 8 R';omega,Lib.hid (by rw[HSE.out];simpa using HO5.out),HB5,Lib.hid (by rw[HS.out];exact HST.out),HW5⟩
     case measure=>simp[intOf];omega
    | some m =>
     have HST:=Lib.hid (HI.out.leaf HRN.out hlf)
     have HSE:Hid ((askK d root (k+1)).l=(askK d root k).l++m):=Lib.hid (by rw[HS.out];unfold askS;rw[if_neg (by simpa using HRN.out),hlf])
     have hmf:=leaf_few hlf
     rw[hlf] at HU2
     simp only[Option.isSome_some,Option.getD_some] at HU2 ⊢
     have HA:=Lib.hid (ask_any b 8 false R' w2 HB2.out (by omega) (by unfold maxLen;omega))
     unfold AskEnd addR at HA
     rw[if_neg (by simp)] at HA
     go_wp2_with fail
     refine HA.out.mono ?_
     rintro x w3 ⟨rfl,hB3,hg3⟩
     have HB3:=Lib.hid hB3
     have HO3:=Lib.hid (HO2.out.grown hg3 HB2.out.map)
     have HU3:=Lib.hid (HU2.out.grown hg3 HB2.out.map)
     have HG3:=Lib.hid (Lib.grownBy_trans HW2.out.2 hg3)
     have HC:=Lib.hid (acont_any (.slice au m.length cu) m w3 HU3.out.ensAt (by omega))
     clear hB3 hg3 HA HB2 HO2 HU2
     go_wp2_with fail
     refine HC.out.mono ?_
     rintro x w4 ⟨rfl,hb4⟩
     have HB4:=Lib.hid (HB3.out.below hb4 HB3.out.lt)
     have HO4:=Lib.hid (HO3.out.below hb4)
     have HU4:=Lib.hid (HU3.out.below hb4)
     have HG4:=Lib.hid (grown_below HG3.out hb4)
     have HA:=Lib.hid (ask_any b 9 (ptrA m) R' w4 HB4.out (by omega) (by unfold maxLen;omega))
     unfold AskEnd at HA
     clear hb4 HB3 HO3 HU3 HG3 HC
     generalize ptrA m=pm at *
     go_wp2_with fail
     refine HA.out.mono ?_
     rintro x w5 ⟨rfl,hB3,hg3⟩
     have HB3:=Lib.hid hB3
     have HO3:=Lib.hid (HO4.out.grown hg3 HB4.out.map)
     have HU3:=Lib.hid (HU4.out.grown hg3 HB4.out.map)
     have HG3:=Lib.hid (Lib.grownBy_trans HG4.out hg3)
     have hf:=HF.out
     obtain⟨v5,w5q,hr5,ho5,hg5⟩:=enappend_big w5 w.heap.size 84 147 84 _ Tryz.underlying84 pinfoRe rfl (.slice av9 (askK d root k).l.length cv9) (.slice au m.length cu) (askK d root k).l m HO3.out HU3.out.ensAt (by (try simp only[List.length_nil,Nat.add_zero]);omega) HG3.out.size
     have HO5:=Lib.hid ho5
     have HB5:=Lib.hid (HB3.out.kept hg5 (fun e=>by have:=(HO3.out.lt b e.symm).1;omega))
     have HW5:=Lib.hid (World.grownBy.andThen HG3.out hg5 (fun j hj=>.inl (HO3.out.lt j hj).1))
     clear hB3 hg3 ho5 hg5 HA hf
     go_wp2_with (first|(at_builtin;refine Lib.wpList_append_run _ rfl _ _ _ _ rfl _ _ rfl rfl _ _ hr5 ?_)|fail)
     go_roundw
     case rel=>exact⟨k+1,_,by omega,by go_num,by have:=addR_len pm 9 R';omega,Lib.hid (by rw[HSE.out];exact HO5.out),HB5,Lib.hid (by rw[HS.out];exact HST.out),HW5⟩
     case measure=>simp[intOf];omega
   ·have HRN:=Lib.hid hr
    rw[decide_eq_false hr] at HPT
    have HST:=Lib.hid (HI.out.row (d:=d) hr)
    have HSE:Hid ((askK d root (k+1)).l=(askK d root k).l++[e]):=Lib.hid (by rw[HS.out];unfold askS;rw[if_pos hr])
    clear hr
    go_wp2_with fail
    refine(HPT.out _).mono ?_
    rintro x w1 ⟨rfl,hb2⟩
    have HE1:=Lib.hid (HEA.out.later hb2)
    obtain⟨e0,e1,e2,e3⟩:=HE1.out
    have hb01:=HB1.out.trans (hb2.mono HB1.out.size)
    have hb3:Below w1.heap.size w1 (w1.alloc (.cells (eC e) 147)):=(Below.refl _ _).alloc (Nat.le_refl _) _
    have hb03:=hb01.trans (hb3.mono hb01.size)
    have hf:=HF.out
    have hsz:=Nat.le_trans HW.out.size hb03.size
    obtain⟨v5,w5,hr5,ho5,hg5⟩:=enappend_big (w1.alloc (.cells (eC e) 147)) w.heap.size 84 147 84 _ Tryz.underlying84 pinfoRe rfl (.slice av9 (askK d root k).l.length cv9) (.slice (some ⟨w1.heap.size,0,none⟩) 1 1) (askK d root k).l [e] (HO.out.below hb03) (ens_lit14 w1 e _) (by simp;omega) hsz
    have hown:=HO.out.below hb03
    have HO5:=Lib.hid ho5
    have HB5:=Lib.hid ((HB.out.below hb03 HB.out.lt).kept hg5 (fun e=>by have:=(hown.lt b e.symm).1;omega))
    have HW5:=Lib.hid (World.grownBy.andThen (grown_below HW.out hb03) hg5 (fun j hj=>.inl (hown.lt j hj).1))
    clear hb2 hb01 hb3 hb03 hsz hown ho5 hg5 k0 k1 k2 k3 HPT HEA HB1 hf
    rw[HS.out] at HSE
    have HSQ:=HSE.out
    rw[← HS.out] at HSQ
    unfold eC at hr5
    go_wp2_with (first|(at_builtin;refine Lib.wpList_append_run _ rfl _ _ _ _ rfl _ _ rfl rfl _ _ hr5 ?_)|fail)
    go_roundw
    case rel=>exact⟨k+1,R',by omega,by go_num,by omega,Lib.hid (by rw[HSQ];exact HO5.out),HB5,Lib.hid (by rw[HS.out];exact HST.out),HW5⟩
    case measure=>simp[intOf];omega
  ·obtain rfl:k=root.length:=by omega
   obtain⟨av9,cv9,rfl⟩:=ensAt_form HO.out.ensAt
   go_wp2_with fail
   go_ret
   exact⟨_,R',rfl,HO.out,HB.out,HI.out,by omega,HW.out⟩
end Go.Proofs.YtjkgkmmkehnggaaGreatDoor
namespace Go.Proofs.YtjkgkmmkehnggaaGreatDoor
set_option linter.unusedVariables false
set_option linter.unusedSimpArgs false
open Go.RowKit
set_option maxRecDepth 20000
def RrInv (R0:List Int) (l:List En) (i:Nat) (R:List Int):Prop:=∀ x,x ∈ R↔x ∈ R0∨(x=10∧rowT l i=false)∨(x=12∧runT l i=false)
theorem RrInv.start (R:List Int) (l:List En):RrInv R l 1 R:=fun x=>by simp[rowT,runT]
theorem mem_addR (c:Bool) (y x:Int) (R:List Int):x ∈ addR c y R↔x ∈ R∨(x=y∧c=true):=by
 unfold addR
 cases c <;> simp
theorem RrInv.step {R0 R:List Int} {l:List En} {i:Nat} (h:RrInv R0 l i R) (hi:1≤i) :
  RrInv R0 l (i+1) (addR (oneA (gS l (i - 1)) (gS l i)) 12 (addR (decide ((gS l i).id≤laN (gS l (i - 1)))) 10 R)):=by
 intro x
 rw[mem_addR,mem_addR,h x]
 have e1:rowT l (i+1)=(rowT l i && !decide ((gS l i).id≤laN (gS l (i - 1)))):=by
  rw[rowT,decide_eq_false (show ¬ i=0 by omega),Bool.false_or]
  congr 1
  rw[Bool.eq_iff_iff]
  simp
 have e2:runT l (i+1)=(runT l i && !oneA (gS l (i - 1)) (gS l i)):=by
  rw[runT,decide_eq_false (show ¬ i=0 by omega),Bool.false_or]
 rw[e1,e2]
 generalize decide ((gS l i).id≤laN (gS l (i - 1)))=c1
 generalize oneA (gS l (i - 1)) (gS l i)=c2
 generalize (x ∈ R0)=P0
 generalize (x=10)=P1
 generalize (x=12)=P2
 generalize rowT l i=c3
 generalize runT l i=c4
 cases c1 <;> cases c2 <;> cases c3 <;> cases c4 <;> simp <;> by_cases h0:P0 <;> by_cases h1:P1 <;> by_cases h2:P2 <;> simp[h0,h1,h2]
theorem rr_end {l:List En}:rowT l (max 1 l.length)=rowT l l.length∧runT l (max 1 l.length)=runT l l.length:=by
 cases l with
 | nil=>exact⟨rfl,rfl⟩
 | cons e r=>rw[show max 1 (e :: r).length=(e :: r).length by simp];exact⟨rfl,rfl⟩
theorem enA_snoc (l:List En) (e:En):enN (l++[e])=if ckN e=0 then max (enN l) (e.off+e.ln) else enN l:=by simp[enN]
theorem cntA_sum {l:List En} (hc:∀ e ∈ l,ckN e=0):cntN l=sumT l l.length:=by
 have:=sum_rows l hc l.length (Nat.le_refl _)
 rw[List.take_length] at this
 exact this.symm
theorem en_in {l:List En} (hc:∀ e ∈ l,ckN e=0) (hm:MaysN l) (n:Int) (hn:0≤n):∀ k,k≤l.length→(inT l n k=decide (enN (l.take k)≤n))
 | 0,_=>by simp[inT,enN,hn]
 | k+1,hk=>by
  have hk':=gS_get l k (by omega)
  rw[inT,en_in hc hm n hn k (by omega),List.take_add_one,hk']
  show _=decide (enN (l.take k++[gS l k])≤n)
  rw[enA_snoc,if_pos (hc _ (gS_mem l k (by omega))),Bool.eq_iff_iff]
  simp only[Bool.and_eq_true,decide_eq_true_eq]
  omega
theorem en_all {l:List En} (hg:GoodL l) (n:Int) (hn:0≤n):inT l n l.length=decide (enN l≤n):=by
 have:=en_in hg.2 hg.1 n hn l.length (Nat.le_refl _)
 rw[List.take_length] at this
 exact this
theorem in_each {l:List En} {n:Int}:∀ k,inT l n k=true→∀ i,i<k→(gS l i).off+(gS l i).ln≤n
 | 0,_,i,h=>by omega
 | k+1,h,i,hi=>by
  rw[inT,Bool.and_eq_true,decide_eq_true_eq] at h
  by_cases e:i=k
  ·rw[e];exact h.2
  ·exact in_each k h.1 i (by omega)
theorem in_uni {l:List En} {n:Int} (hm:MaysN l) (h:inT l n l.length=true):InD ((uniA l).map prE) n:=fun p hp=>by
 obtain⟨k,hk,e⟩:=mem_prE.1 ((uni_spec l).2.1 p |>.1 hp)
 have h1:=in_each l.length h k hk
 have h2:=hm _ (gS_mem l k hk)
 unfold MayN at h2
 rw[← e]
 unfold prE
 simp only
 omega
theorem mem_tellR (x k:Int) (b:Bool) (r:List Bool):x ∈ tellR k (b :: r)↔(x=k∧b=false)∨x ∈ tellR (k+1) r:=by
 rw[tellR]
 cases b <;> simp
theorem tell6 (x:Int) (b0 b1 b2 b3 b4 b5:Bool):x ∈ tellR 10 [b0,b1,b2,b3,b4,b5]↔(x=10∧b0=false)∨(x=11∧b1=false)∨(x=12∧b2=false)∨(x=13∧b3=false)∨(x=14∧b4=false)∨(x=15∧b5=false):=by
 rw[mem_tellR,mem_tellR,mem_tellR,mem_tellR,mem_tellR,mem_tellR]
 simp[tellR]
theorem en_mem {R0 R:List Int} {h:Hd} {l:List En} {d:ByteArray} {c13 c14 c15:Bool} (hr:RrInv R0 l (max 1 l.length) R)
  (h13:inT l d.size l.length=true→c13=!onceG d 0 [] ((uniA l).map prE)) (h14:c14=!(decide (h.ad=sumT l l.length) && (decide (h.en=(l.length:Int)) && decide (h.co=((uniA l).length:Int))))) (h15:c15=!(decide (h.z0=zloA l) && decide (h.z1=zhiA l))) :
  ∀ x,x ∈ addR c15 15 (addR c14 14 (if inT l d.size l.length=true then addR c13 13 R else R++[11]))↔x ∈ R0∨x ∈ tellR 10 (goodR h l d):=by
 intro x
 obtain⟨e1,e2⟩:=rr_end (l:=l)
 have hr:=hr x
 rw[e1,e2] at hr
 unfold goodR
 rw[mem_addR,mem_addR,h14,h15]
 generalize (decide (h.ad=sumT l l.length) && (decide (h.en=(l.length:Int)) && decide (h.co=((uniA l).length:Int))))=b14
 generalize (decide (h.z0=zloA l) && decide (h.z1=zhiA l))=b15
 generalize onceG d 0 [] ((uniA l).map prE)=b13 at *
 generalize inT l d.size l.length=bi at *
 generalize rowT l l.length=br at *
 generalize runT l l.length=bu at *
 rw[tell6]
 cases bi with
 | true =>
  rw[if_pos rfl,mem_addR,hr,h13 rfl]
  cases b13 <;> cases b14 <;> cases b15 <;> simp <;> by_cases h0:x ∈ R0 <;> by_cases h1:x=10∧br=false <;> by_cases h2:x=12∧bu=false <;> simp[h0,h1,h2] <;> omega
 | false =>
  rw[if_neg (by simp),List.mem_append,List.mem_singleton,hr]
  cases b14 <;> cases b15 <;> simp <;> by_cases h0:x ∈ R0 <;> by_cases h1:x=10∧br=false <;> by_cases h2:x=12∧bu=false <;> simp[h0,h1,h2] <;> omega
end Go.Proofs.YtjkgkmmkehnggaaGreatDoor
