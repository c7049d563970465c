/- Ka Kb Kc Za Zb Zc Zd Ze. -/
import Derived.Test.YtjinnigjfopbcaaGreatDoorUs
import Derived.Test.YtjinnigjfopbcaaGreatDoorUb7
import Derived.Test.YtjinnigjfopbcaaGreatDoorUc5
import Derived.Lib.SlBuf
import Derived.Lib.BufferWrite
import Derived.Test.YtjinnigjfopbcaaGreatDoorUd6
import Derived.Test.YtjinnigjfopbcaaGreatDoorUa8
set_option maxHeartbeats 16000000
namespace Go.Proofs.YtjinnigjfopbcaaGreatDoor
set_option linter.unusedVariables false
set_option linter.unusedSimpArgs false
open Go.RowKit
set_option maxRecDepth 20000
def nvD (s:ByteArray):List En × Nat × Int:=xco (xa0 s).p.p0.data.toList
def nvR (s:ByteArray):List En × ByteArray × Int :=
 if (xa0 s).err≠0 then ([],noB,(xa0 s).err) else if (nvD s).2.2≠0 then ([],noB,(nvD s).2.2) else
 if (xc2 (nvD s).1 (xa0 s).p.p2).2≠0 then ([],noB,(xc2 (nvD s).1 (xa0 s).p.p2).2) else ((xc2 (nvD s).1 (xa0 s).p.p2).1,(xa0 s).p.p3,0)
def nvC (s:ByteArray):List It × Int:=if (nvR s).2.2≠0 then ([],(nvR s).2.2) else xfu (nvR s).1 (nvR s).2.1
def xuC (d:ByteArray) (o:Option En):ByteArray × Bool × Int:=match o with
 | none=>(noB,false,0)
 | some e=>if (d.size:Int)<e.off+e.ln then (noB,false,8) else (d.extract e.off.toNat (e.off+e.ln).toNat,true,0)
def xjl (l:List En) (q:Int):Option En:=l.find? (fun e=>xmD e q)
def nvT (s:ByteArray) (q:Int):ByteArray × Bool × Int:=if (nvR s).2.2≠0 then (noB,false,(nvR s).2.2) else xuC (nvR s).2.1 (xjl (nvR s).1 q)
theorem xle:∀ (l:List En) (d:ByteArray) (out:List En),xaE l→xaE out→xaE (goJ l d out).1
 | [],d,out,_,ho=>by rw[goJ];exact ho
 | e :: l,d,out,hl,ho=>by
  have h:=xmW (e :: l) 0 e d out rfl
  rw[List.drop_zero] at h
  rw[h]
  have hl2:xaE l:=fun x hx=>hl x (List.mem_cons_of_mem _ hx)
  split
  ·exact xle l d _ hl2 (fun x hx=>by rcases List.mem_append.1 hx with h|h;exact ho x h;rw[List.mem_singleton.1 h];exact hl e (by simp))
  ·split
   ·intro x hx;simp at hx
   ·exact xle l d _ hl2 (fun x hx=>by rcases List.mem_append.1 hx with h|h;exact ho x h;exact(xi5 e d).2 x h)
theorem xpA {root:List En} {d:ByteArray} (hm:xaE root):xaE (xc2 root d).1:=by
 unfold xc2
 split
 ·intro x hx;simp at hx
 ·split
  ·intro x hx;simp at hx
  ·split
   ·intro x hx;simp at hx
   ·exact xle root d [] hm (fun x hx=>by simp at hx)
theorem xq9 {root:List En} {d:ByteArray} (h:(xc2 root d).2=0):xaN (xc2 root d).1=0:=by
 unfold xc2 at h ⊢
 split
 ·rfl
 ·rename_i h0
  rw[if_neg h0] at h
  split
  ·rfl
  ·rename_i h1
   rw[if_neg h1] at h
   split
   ·rfl
   ·rename_i h2
    exact Classical.not_not.1 h2
theorem xyY {s:ByteArray} (h:(nvD s).2.2=0):xaE (nvD s).1:=(xdj _ h).2.1
theorem xmI (s:ByteArray):xaE (nvR s).1∧xaN (nvR s).1=0:=by
 unfold nvR
 split
 ·exact⟨fun x hx=>by simp at hx,rfl⟩
 ·split
  ·exact⟨fun x hx=>by simp at hx,rfl⟩
  ·rename_i h1
   split
   ·exact⟨fun x hx=>by simp at hx,rfl⟩
   ·rename_i h2
    exact⟨xpA (xyY (Classical.not_not.1 h1)),xq9 (Classical.not_not.1 h2)⟩
theorem xsy (s:ByteArray) (a b:Int):(xj8 s a b).size≤s.size:=by unfold xj8;simp only[ByteArray.size_extract];omega
theorem xnj (s:ByteArray) (hs:s.size≤1000000):(nvR s).2.1.size≤1000000:=by
 have h0:noB.size≤1000000:=by decide
 unfold nvR
 split
 ·exact h0
 ·split
  ·exact h0
  ·split
   ·exact h0
   ·unfold xa0
    split
    ·exact h0
    ·split
     ·exact h0
     ·exact Nat.le_trans (xsy s _ _) hs
theorem xyL (s:ByteArray):(nvR s).1.length≤4096:=by
 have h:=(xmI s).2
 unfold xaN at h
 split at h <;> omega
theorem xvV {l:List En} (hm:xaE l) (h:xaN l=0):∀ e ∈ l,ckN e=0:=fun e he=>(xcL _ l hm (xrT h).1 e he).2
def xpX (s:ByteArray) (w:World) (e:Ending) (w':World):Prop:=∃ v',e=.returned (.tuple #[v',.string (nvR s).2.1,.int .i64 (nvR s).2.2])∧xam w' v' (nvR s).1∧Below w.heap.size w w'
theorem xrW (s:ByteArray) (hs:s.size≤1000000):Few (xa0 s).p 1000000:=by
 by_cases h1:(xcy (xbG s)).2=0
 ·by_cases h2:xdV (xcy (xbG s)).1 s.size
  ·unfold xa0;rw[if_neg (by simpa using h1),if_pos h2];exact⟨Nat.zero_le _,Nat.zero_le _,Nat.zero_le _,Nat.zero_le _⟩
  ·unfold xa0;rw[if_neg (by simpa using h1),if_neg h2]
   have hb:∀ a b,(xj8 s a b).size≤s.size:=fun a b=>by unfold xj8;simp only[ByteArray.size_extract];omega
   exact⟨Nat.le_trans (hb _ _) hs,Nat.le_trans (hb _ _) hs,Nat.le_trans (hb _ _) hs,Nat.le_trans (hb _ _) hs⟩
 ·unfold xa0;rw[if_pos h1];exact⟨Nat.zero_le _,Nat.zero_le _,Nat.zero_le _,Nat.zero_le _⟩
theorem xnv:(Tryz.prog.info? 125).map (·.size)=some 4:=by kernel_rfl
theorem xeB (s:ByteArray) (w:World) (hs:s.size≤1000000):Calls Tryz.prog 15 #[.string s] w (xpX s w):=by
 unfold xpX
 have HCT:=lH (xpT s w hs)
 unfold xsk at HCT
 have hpz:=xrW s hs
 obtain⟨R,hR⟩:∃ R,nvR s=R:=⟨_,rfl⟩
 rw[hR]
 unfold nvR nvD at hR
 generalize xa0 s=C at *
 obtain⟨X,p,Ce⟩:=C
 dsimp only at HCT hR hpz
 have HR:=lH hR.symm
 have HPZ:=lH hpz
 clear hR hpz
 go_enter Tryz.func15,Tryz.ntmps15
 go_wp2_with fail
 refine HCT.out.mono ?_
 rintro e w6 ⟨rfl,hb6⟩
 have HB6:=lH hb6
 clear hb6 HCT
 have TW:=xzb w6 X p
 have HSX:Hid ((Tryz.prog.info? 124).map (·.size)=some (cH X).size∧24=(cH X).size∧(cH X).all (·.oneCell')=true):=lH ⟨xaB,rfl,xeQ X⟩
 have HSP:Hid ((Tryz.prog.info? 125).map (·.size)=some (xl6 p).size∧4=(xl6 p).size∧(xl6 p).all (·.oneCell')=true):=lH ⟨xnv,rfl,by simp[xl6,Value.oneCell']⟩
 obtain⟨Hc,hHc⟩:∃ Hc,cH X=Hc:=⟨_,rfl⟩
 obtain⟨P,hPc⟩:∃ P,xl6 p=P:=⟨_,rfl⟩
 rw[hHc,hPc] at TW ⊢
 rw[hHc] at HSX
 rw[hPc] at HSP
 have HPc:=lH hPc
 clear hHc hPc
 unfold Z24 P4 at TW
 have HTW:=lH TW
 clear TW
 go_upto_region 2 with (first|(refine wpList_store_row rfl 124 _ _ rfl w6.heap.size Hc rfl rfl 124 _ HTW.out.s1 HSX.out.1 HSX.out.2.1 HSX.out.2.2 ?_)|(refine wpList_store_row rfl 125 _ _ rfl (w6.heap.size+1) P rfl rfl 125 _ HTW.out.s2 HSP.out.1 HSP.out.2.1 HSP.out.2.2 ?_)|fail)
 have HP:=HTW.out.e2
 have HBW:=lH (HB6.out.trans (HTW.out.e3.mono HB6.out.size))
 clear HTW HSX HSP
 generalize (((w6.alloc (.cells #[.int .u64 0,.int .u64 0,.int .u64 0,.int .u64 0,.int .u64 0,.int .u64 0,.int .u64 0,.int .u64 0,.int .u64 0,.int .u64 0,.int .u64 0,.bool false,.int .u8 0,.int .u8 0,.int .u8 0,.int .i64 0,.int .i64 0,.int .i64 0,.int .i64 0,.int .i64 0,.int .i64 0,.int .i64 0,.int .i64 0,.int .i64 0] 124)).alloc (.cells #[.string { data:=#[] },.string { data:=#[] },.string { data:=#[] },.string { data:=#[] }] 125)).setRow w6.heap.size Hc).setRow (w6.heap.size+1) P=w7 at *
 rw[← HPc.out] at HP
 have HP7:Hid (Box w7 (w6.heap.size+1) (xl6 p)):=lH ⟨_,HP⟩
 have HB7:Hid (Below w.heap.size w w7):=HBW
 clear HP HPc HBW HB6
 generalize w6.heap.size=g9 at *
 by_cases h1:Ce=0
 ·subst h1
  have q0:w7.cell? ⟨g9+1,0,none⟩=some (.string p.p0):=by rw[HP7.out.cell];rfl
  have HDC:=lH (xjW p.p0 w7 (by have:=HPZ.out.1;unfold maxLen;omega))
  unfold xjE at HDC
  go_wp2_with fail
  refine HDC.out.mono ?_
  rintro e w8 ⟨v8,rfl,ho8,hb8⟩
  have HP8:=lH (HP7.out.below hb8)
  have HB8:=lH (HB7.out.trans (hb8.mono HB7.out.size))
  have HE8:=lH ho8.ensAt
  obtain⟨a8,c8,hv8⟩:=xag ho8.ensAt
  clear hb8 ho8 HP7 HB7 q0 HDC
  by_cases h2:(xco p.p0.data.toList).2.2=0
  ·have HM:=lH (xdj _ h2).2.1
   have HL:=lH (xvx p.p0.data.toList)
   generalize xco p.p0.data.toList=D at *
   obtain⟨l,n8,z8⟩:=D
   dsimp only at h2 HR HE8 HM HL hv8 ⊢
   subst h2
   subst hv8
   have q2:w8.cell? ⟨g9+1,2,none⟩=some (.string p.p2):=by rw[HP8.out.cell];rfl
   have HJN:=lH (xnO _ l p.p2 w8 HE8.out HM.out HL.out HPZ.out.2.2.1)
   unfold xhR at HJN
   go_wp2_with fail
   refine HJN.out.mono ?_
   rintro e w9 ⟨v9,rfl,he9,hb9⟩
   have HP9:=lH (HP8.out.below hb9)
   have HB9:=lH (HB8.out.trans (hb9.mono HB8.out.size))
   obtain⟨a9,c9,hv9⟩:=xag he9
   have HE9:=lH he9
   clear hb9 he9 HP8 HB8 HE8 q2 HJN HM HL
   generalize xc2 l p.p2=J at *
   obtain⟨m,y⟩:=J
   dsimp only at HR HE9 hv9 ⊢
   subst hv9
   by_cases h3:y=0
   ·subst h3
    have HRR:Hid (R=(m,p.p3,0)):=lH (by rw[HR.out,if_neg (by simp),if_neg (by simp),if_neg (by simp)])
    have q3:w9.cell? ⟨g9+1,3,none⟩=some (.string p.p3):=by rw[HP9.out.cell];rfl
    have q3d:w9.drew.cell? ⟨g9+1,3,none⟩=some (.string p.p3):=q3
    go_wp2_with fail
    go_region
    all_goals
     go_wp2_with fail
     refine bodyPost_ret (results_tmp3 rfl _ _ _) rfl ⟨_,by rw[HRR.out];rfl,by rw[HRR.out];exact HE9.out.below (by go_grown),HB9.out.trans (by go_grown)⟩
   ·have e3:(y == 0)=false:=by simpa using h3
    have HRR:Hid (R=([],noB,y)):=lH (by rw[HR.out,if_neg (by simp),if_neg (by simp),if_pos h3])
    go_wp2_with fail
    refine bodyPost_ret (results_tmp3 rfl _ _ _) rfl ⟨_,by rw[HRR.out];rfl,by rw[HRR.out];exact xbx _,HB9.out⟩
  ·have HRR:Hid (R=([],noB,(xco p.p0.data.toList).2.2)):=lH (by rw[HR.out,if_neg (by simp),if_pos h2])
   generalize (xco p.p0.data.toList).2.2=z8 at *
   have e2:(z8 == 0)=false:=by simpa using h2
   subst hv8
   clear HR
   go_wp2_with fail
   refine bodyPost_ret (results_tmp3 rfl _ _ _) rfl ⟨_,by rw[HRR.out];rfl,by rw[HRR.out];exact xbx _,HB8.out⟩
 ·have e1:(Ce == 0)=false:=by simpa using h1
  have HRR:Hid (R=([],noB,Ce)):=lH (by rw[HR.out,if_pos h1])
  clear HR
  go_wp2_with fail
  refine bodyPost_ret (results_tmp3 rfl _ _ _) rfl ⟨_,by rw[HRR.out];rfl,by rw[HRR.out];exact xbx _,HB7.out⟩
theorem xi3 (s:ByteArray) (w:World) (hs:s.size≤1000000):Calls Tryz.prog 17 #[.string s] w fun e w'=>∃ s',e=.returned (.tuple #[.agg #[s'],.int .i64 (nvC s).2])∧ChS w' s' (nvC s).1∧Below w.heap.size w w':=by
 have HN:=lH (fun W=>xeB s W hs)
 unfold xpX at HN
 obtain⟨hm,hr⟩:=xmI s
 obtain⟨R,hR⟩:∃ R,nvC s=R:=⟨_,rfl⟩
 have hd:=xnj s hs
 rw[hR]
 unfold nvC at hR
 generalize nvR s=D at *
 obtain⟨l,d,z⟩:=D
 dsimp only at *
 have HR:=lH hR.symm
 have HM:=lH (And.intro hm hd)
 have O1:=lH (xaX w (.slice none 0 0) 36)
 have B1:=lH (xae w (.cells #[.slice none 0 0] 36))
 clear hm hr hR hd
 go_enter Tryz.func17,Tryz.ntmps17
 generalize hQQ:bodyPost Tryz.prog _ _=QQ
 have HQQ:=lH hQQ
 clear hQQ
 go_wp2_with fail
 generalize w.alloc (.cells #[.slice none 0 0] 36)=W1 at *
 refine(HN.out _).mono ?_
 rintro e w2 ⟨v2,rfl,he2,hb2⟩
 have HE2:=lH he2
 obtain⟨a2,c2,hv2⟩:=xag he2
 have HO2:=lH (O1.out.below hb2)
 have HB2:=lH (B1.out.trans (hb2.mono B1.out.size))
 clear he2 hb2 O1 B1 HN
 subst hv2
 by_cases h1:z=0
 ·subst h1
  have HBK:=lH (xnz _ l d w2 HE2.out HM.out.1 (by have:=HM.out.2;omega))
  have HRR:Hid (R=xfu l d):=lH (by rw[HR.out,if_neg (by simp)])
  rw[← HRR.out] at HBK
  have f2:=HO2.out.frz
  go_wp2_with fail
  refine HBK.out.mono ?_
  rintro e w3 ⟨s3,rfl,hc3,hb3⟩
  obtain⟨a3,n3,p3,rfl⟩:=hc3.form
  have ho3:=HO2.out.below hb3
  have HC3:=lH (And.intro hc3 (And.intro ho3 (HB2.out.trans (hb3.mono HB2.out.size))))
  have k1:=ho3.cell
  have k2:=ho3.frz
  clear hb3 hc3 ho3 HBK f2
  go_wp2_with fail
  rw[← HQQ.out]
  refine bodyPost_ret (xa6 rfl _ _ w.heap.size _ _ _ rfl rfl (HC3.out.2.1.set _).cell Tryz.underlying36 rfl xa5) rfl ⟨_,rfl,HC3.out.1.set HC3.out.2.1 _,HC3.out.2.2.setCell (p:=⟨w.heap.size,0,none⟩) (Nat.le_refl _) _⟩
 ·have e1:(z == 0)=false:=by simpa using h1
  have HRR:Hid (R=([],z)):=lH (by rw[HR.out,if_pos h1])
  have k1:=HO2.out.cell
  have k2:=HO2.out.frz
  go_wp2_with fail
  rw[← HQQ.out]
  refine bodyPost_ret (xa6 rfl _ _ w.heap.size _ _ _ rfl rfl (HO2.out.set _).cell Tryz.underlying36 rfl xa5) rfl ⟨_,by rw[HRR.out];rfl,by rw[HRR.out];exact⟨xfa _,xgA⟩,HB2.out.setCell (p:=⟨w.heap.size,0,none⟩) (Nat.le_refl _) _⟩
theorem xnw (e:En) (q:Int) (g:Nat) (w:World) (hm:xa2 e) (hc:w.cell? ⟨g,0,none⟩=some (.int .u64 q)):Calls Tryz.prog 60 #[.agg (eC e),.pointer (some ⟨g,0,none⟩)] w fun x w'=>x=.returned (.bool (xmD e q))∧Below w.heap.size w w':=by
 have HP:=lH (fun W=>xu5 e q W hm)
 have H0:=EAt.made w e 74
 have HB:=lH (xae w (.cells (eC e) 74))
 have hc2:=(HB.out.cell (p:=⟨g,0,none⟩) (xa4 hc)).trans hc
 have hlt:=xa4 hc
 obtain⟨k0,k1,k2,k3⟩:=H0
 generalize xmD e q=b at *
 unfold eC at *
 clear hm hc
 go_enter Tryz.func60,Tryz.ntmps60
 go_wp2_with fail
 generalize w.alloc (.cells #[.int .u64 e.id,.int .u64 e.off,.int .u32 e.ln,.int .u32 e.rn] 74)=W at *
 refine(HP.out _).mono ?_
 rintro x w1 ⟨rfl,hb⟩
 have H1:=lH (HB.out.trans (hb.mono HB.out.size))
 clear hb
 go_wp2_with fail
 go_ret
 exact⟨rfl,H1.out⟩
def xBw (l:List En) (q:Int) (w:World) (x:Ending) (w':World):Prop:=∃ r:Int,x=.returned (.int .i64 r)∧((r=-1∧xjl l q=none)∨∃ i:Nat,r=i∧i<l.length∧∃ e,l[i]?=some e∧xjl l q=some e)∧Below w.heap.size w w'
theorem xvv {l:List En} {q:Int} (i:Nat) (e:En) (h:l[i]?=some e):(xjl (l.take i) q=none→xmD e q=false→xjl (l.take (i+1)) q=none)∧(xjl (l.take i) q=none→xmD e q=true→xjl l q=some e):=by
 have hd:l=l.take i++e :: l.drop (i+1):=by
  obtain⟨h1,h2⟩:=List.getElem?_eq_some_iff.1 h
  rw[← h2,← List.drop_eq_getElem_cons h1,List.take_append_drop]
 constructor
 ·intro h1 h2
  unfold xjl at *
  rw[List.take_add_one,h,List.find?_append,h1]
  simp[h2]
 ·intro h1 h2
  unfold xjl at *
  rw[hd,List.find?_append,h1]
  simp[h2]
theorem xsX (v:Value) (l:List En) (q:Int) (g0:Nat) (w:World) (hv:xam w v l) (hm:xaE l) (hl:l.length≤100000) (hq:w.cell? ⟨g0,0,none⟩=some (.int .u64 q)):Calls Tryz.prog 59 #[v,.func (.func 60) #[] #[.pointer (some ⟨g0,0,none⟩)]] w (xBw l q w):=by
 obtain⟨a,cap,rfl,h1,h2,hc⟩:=hv
 have HC:=lH hc
 have HM0:=lH hm
 have HQ:=lH (fun X (hX:Below w.heap.size w X)=>(hX.cell (p:=⟨g0,0,none⟩) (xa4 hq)).trans hq)
 clear hc hm hq
 go_enter Tryz.func59,Tryz.ntmps59
 go_wp2_with fail
 go_loopw [8] (fun s wr=>∃ i:Nat,i≤l.length∧s=.int .i64 i∧Hid (xjl (l.take i) q=none)∧Below w.heap.size w wr) (fun s _=>l.length - (intOf s).toNat)
 case atStart=>exact⟨0,Nat.zero_le _,rfl,lH rfl,Below.refl _ _⟩
 case round =>
  obtain⟨i,hi,rfl,HM,hbw⟩:=hrel
  by_cases hlt:i<l.length
  ·obtain⟨t,ht⟩:∃ t,l[i]?=some t:=⟨_,List.getElem?_eq_getElem hlt⟩
   obtain⟨g,off,rfl,hg,hcs⟩:=HC.out i t ht
   obtain⟨l0,l1,l2,l3⟩:=xdW hbw hcs
   have hi2:(i:Int)<(l.length:Int):=by omega
   have HT:=lH ht
   have HE:=lH (xnw t q g0 wr (HM0.out t (List.mem_of_getElem? ht)) (HQ.out _ hbw))
   have HTK:=lH (xvv (q:=q) i t ht)
   clear ht hcs
   obtain⟨b,hb0⟩:∃ b,xmD t q=b:=⟨_,rfl⟩
   rw[hb0] at HE HTK
   unfold eC at HE
   cases b with
   | true =>
    go_wp2_with fail
    refine HE.out.mono ?_
    rintro e w1 ⟨rfl,hb⟩
    have hbw1:=hbw.trans (hb.mono hbw.size)
    clear hb hbw l0 l1 l2 l3 HE
    go_wp2_with fail
    go_ret
    exact⟨i,rfl,.inr ⟨i,rfl,hlt,t,HT.out,HTK.out.2 HM.out (by first|rfl|trivial)⟩,hbw1⟩
   | false =>
    go_wp2_with fail
    refine HE.out.mono ?_
    rintro e w1 ⟨rfl,hb⟩
    have hbw1:=hbw.trans (hb.mono hbw.size)
    clear hb hbw l0 l1 l2 l3 HE
    go_wp2_with fail
    go_roundw
    case rel=>exact⟨i+1,by omega,by go_num,lH (HTK.out.1 HM.out (by first|rfl|trivial)),hbw1⟩
    case measure=>simp[intOf];omega
  ·obtain rfl:i=l.length:=by omega
   rw[List.take_length] at HM
   go_wp2_with fail
   go_ret
   exact⟨-1,rfl,.inl ⟨rfl,HM.out⟩,hbw⟩
theorem xll (s:ByteArray):(bI s).length=s.size:=by unfold bI;simp
theorem xAi (n:Nat) (W:World) (h:n≤1000100):(Instr.makeSlice 23 (.int .u32 (n:Int)) (.int .u32 (n:Int))).run Tryz.prog W=.ok (.slice (some ⟨W.heap.size,0,none⟩) n n) (W.alloc (.cells (madeCells #[.int .u8 0] n) 5)):=by
 obtain⟨i0,hi⟩:∃ i,Tryz.prog.info? 5=some i:=⟨_,rfl⟩
 have hz:(Tryz.prog.info? 5).map (fun i=>(i.zero,i.size,i.bytes))=some (some (.int .u8 0),1,1):=by kernel_rfl
 rw[hi] at hz
 simp only[Option.map_some,Option.some.injEq,Prod.mk.injEq] at hz
 obtain⟨hz0,hz1,hz2⟩:=hz
 have:=run_make (P:=Tryz.prog) W 23 5 i0 (.int .u8 0) Tryz.underlying23 hi hz0 .u32 .u32 (n:Int) (n:Int) (by omega) (by omega) (by rw[hz2];omega) (by omega)
 simpa[go_sem,hz1] using this
theorem xsC (w:World) (g n:Nat) (s:ByteArray) (ty:TypeId) (hg:w.heap[g]?=some (.cells (madeCells #[.int .u8 0] n) 5 (0,0))) (hs:s.size=n):(Builtin.copy_ #[23,9] ty #[.slice (some ⟨g,0,none⟩) n n,.string s]).run Tryz.prog w=.ok (.int .i64 (n:Nat)) (w.setRow g (Lib.byteCells s.data.toList).toArray):=by
 have hz:(madeCells #[.int .u8 0] n).size=n:=by simp[madeCells]
 have hz1:(Tryz.prog.info? 5).map (·.size)=some 1:=by kernel_rfl
 have h:=Lib.run_copy_row_string (P:=Tryz.prog) w 23 9 ty 5 g 0 n n s _ 5 Tryz.underlying23 hz1 hg (by omega) (by omega)
 have hd:(madeCells #[.int .u8 0] n).toList.drop (0+s.size)=[]:=List.drop_eq_nil_of_le (by rw[Array.length_toList,hz];omega)
 rw[hd,List.take_zero,List.nil_append,List.append_nil,hs] at h
 exact h
theorem xtU (w:World) (g n:Nat) (s:ByteArray) (T:TypeId) (hg:w.heap[g]?=some (.cells (Lib.byteCells s.data.toList).toArray T (0,0))) (hs:s.size=n) (hn:n≤1000000):(convert 23 9 (.slice (some ⟨g,0,none⟩) n n)).run Tryz.prog w=.ok (.string s) w:=by
 have hlt:=(Array.getElem?_eq_some_iff.1 hg).1
 have h:=xgw w (.slice (some ⟨g,0,none⟩) n n) (bI s) ⟨some ⟨g,0,none⟩,n,by rw[xll,hs],by rw[xll,hs];exact Nat.le_refl _,by unfold maxLen;omega,fun _=>⟨⟨g,0,none⟩,rfl,hlt,fun i hi=>?_⟩⟩
 ·rw[h,xmQ]
 ·rw[xll] at hi
  have hi2:i<s.data.toList.length:=by simpa using hi
  have ha:(Addr.mk g 0 none).add i=⟨g,i,none⟩:=by
   unfold Addr.add
   split
   ·rename_i h0;subst h0;rfl
   ·simp
  rw[ha]
  unfold World.cell?
  simp only[hg]
  simp[Lib.byteCells,bI,List.getD_eq_getElem?_getD,hi]
theorem xrt (e:En) (d:ByteArray) (w:World) (hm:xa2 e) (hck:ckN e=0) (hd:d.size≤1000000):Calls Tryz.prog 61 #[.agg (eC e),.string d] w fun x w'=>x=.returned (.tuple #[.string (xuC d (some e)).1,.bool (xuC d (some e)).2.1,.int .i64 (xuC d (some e)).2.2])∧Below w.heap.size w w':=by
 obtain⟨i,o,n,r⟩:=e
 have h2:n≠0∧o+n≤1099511627776:=by
  unfold ckN at hck
  dsimp only at hck
  split at hck
  ·cases hck
  ·split at hck
   ·cases hck
   ·split at hck
    ·cases hck
    ·omega
 unfold xa2 at hm
 dsimp only at hm
 obtain⟨o,rfl⟩:=Int.eq_ofNat_of_zero_le (show 0≤o by omega)
 obtain⟨n,rfl⟩:=Int.eq_ofNat_of_zero_le (show 0≤n by omega)
 have hw1:IntKind.u64.wrap ((o:Int)+(n:Int))=((o+n:Nat):Int):=by rw[IntKind.wrap_u64] <;> omega
 have hw2:IntKind.u64.wrap (d.size:Int)=(d.size:Int):=by rw[IntKind.wrap_u64] <;> omega
 have hw3:IntKind.u64.wrap (n:Int)=(n:Int):=by rw[IntKind.wrap_u64] <;> omega
 unfold eC xuC
 dsimp only
 by_cases h1:(d.size:Int)<(o:Int)+(n:Int)
 ·rw[if_pos h1]
  have h1':(d.size:Int)<((o+n:Nat):Int):=by omega
  clear hck hm h2 h1
  go_enter Tryz.func61,Tryz.ntmps61
  go_wp2_with fail
  refine bodyPost_ret (results_tmp3 rfl _ _ _) rfl ⟨rfl,by go_grown⟩
 ·rw[if_neg h1]
  have h1':¬ (d.size:Int)<((o+n:Nat):Int):=by omega
  have h3:o+n≤d.size:=by omega
  have hmk:=fun W=>xAi n W (by omega)
  have hsz:(d.extract o (o+n)).size=n:=by simp only[ByteArray.size_extract];omega
  obtain⟨W1,hW1⟩:∃ W1,w.alloc (.cells #[.int .u64 i,.int .u64 (o:Nat),.int .u32 (n:Nat),.int .u32 r] 74)=W1:=⟨_,rfl⟩
  have hb1:Below w.heap.size w W1:=by rw[← hW1];exact xae _ _
  have hE:=EAt.made w ⟨i,(o:Nat),(n:Nat),r⟩ 74
  unfold eC at hE
  dsimp only at hE
  rw[hW1] at hE
  have hE2:=hE.later (xae W1 (.cells (madeCells #[.int .u8 0] n) 5))
  have hb2:=xae W1 (.cells (madeCells #[.int .u8 0] n) 5)
  have hg2:=xc0 W1 (.cells (madeCells #[.int .u8 0] n) 5)
  have hcp:=fun ty=>xsC _ _ n (d.extract o (o+n)) ty hg2 hsz
  have hst:=xtU _ _ n _ _ (hrow (cs:=(Lib.byteCells (d.extract o (o+n)).data.toList).toArray) hg2 (by simp[madeCells,Lib.byteCells];omega)) hsz (by omega)
  have hb3:=below_setRow (hb1.trans (hb2.mono hb1.size)) hb1.size (Lib.byteCells (d.extract o (o+n)).data.toList).toArray
  generalize (Lib.byteCells (d.extract o (o+n)).data.toList).toArray=bs at hcp hst hb3
  obtain⟨k0,k1,k2,k3⟩:=hE
  obtain⟨j0,j1,j2,j3⟩:=hE2
  dsimp only at k0 k1 k2 k3 j0 j1 j2 j3
  have hi1:(o:Int)≤((o+n:Nat):Int):=by omega
  have hi2:((o+n:Nat):Int)≤(d.size:Int):=by omega
  have HS:=lH hb3
  clear hck hm h1 hb1 hb2 hg2 hb3
  go_enter Tryz.func61,Tryz.ntmps61
  go_wp2_with fail
  try rw[hW1]
  go_wp2_with (first|(at_builtin;refine Lib.wpList_copy_run _ rfl _ _ _ _ rfl _ _ rfl rfl (hcp _) ?_)|fail)
  refine bodyPost_ret (results_tmp3 rfl _ _ _) rfl ⟨rfl,HS.out⟩
theorem xg4 (s:ByteArray) (q:Int) (w:World) (hs:s.size≤1000000):Calls Tryz.prog 19 #[.string s,.int .u64 q] w fun x w'=>x=.returned (.tuple #[.string (nvT s q).1,.bool (nvT s q).2.1,.int .i64 (nvT s q).2.2])∧Below w.heap.size w w':=by
 have HN:=lH (fun W=>xeB s W hs)
 unfold xpX at HN
 obtain⟨hm,hr⟩:=xmI s
 have hl:=xyL s
 have hd:=xnj s hs
 obtain⟨R,hR⟩:∃ R,nvT s q=R:=⟨_,rfl⟩
 rw[hR]
 unfold nvT at hR
 generalize nvR s=D at *
 obtain⟨l,d,z⟩:=D
 dsimp only at *
 have HR:=lH hR.symm
 have HM:=lH (And.intro hm (And.intro (xvV hm hr) (And.intro hl hd)))
 have O1:=lH (xaX w (.int .u64 q) 26)
 have B1:=lH (xae w (.cells #[.int .u64 q] 26))
 clear hm hr hR hd hl
 go_enter Tryz.func19,Tryz.ntmps19
 go_wp2_with fail
 generalize w.alloc (.cells #[.int .u64 q] 26)=W1 at *
 refine(HN.out _).mono ?_
 rintro e w2 ⟨v2,rfl,he2,hb2⟩
 have HE2:=lH he2
 obtain⟨a2,c2,hv2⟩:=xag he2
 have HO2:=lH (O1.out.below hb2)
 have HB2:=lH (B1.out.trans (hb2.mono B1.out.size))
 clear he2 hb2 O1 B1 HN
 subst hv2
 by_cases h1:z=0
 ·subst h1
  have HRR:Hid (R=xuC d (xjl l q)):=lH (by rw[HR.out,if_neg (by simp)])
  have HI:=lH (xsX _ l q w.heap.size w2 HE2.out HM.out.1 (by have:=HM.out.2.2.1;omega) HO2.out.cell)
  unfold xBw at HI
  have hmf:∀ (fn:Fn) (first cap:Array Value) (w:World),(Instr.makeFunc fn first cap).run Tryz.prog w=.ok (.func fn first cap) w:=fun _ _ _ _=>rfl
  go_wp2_with fail
  refine HI.out.mono ?_
  rintro e w3 ⟨r,rfl,hr,hb3⟩
  have HB3:=lH (HB2.out.trans (hb3.mono HB2.out.size))
  have HE3:=lH (HE2.out.below hb3)
  clear hb3 HI
  rcases hr with ⟨rfl,hf⟩|⟨i,rfl,hi,e,he,hf⟩
  ·have HR2:Hid (R=(noB,false,0)):=lH (by rw[HRR.out,hf];rfl)
   clear hf
   go_wp2_with fail
   refine bodyPost_ret (results_tmp3 rfl _ _ _) rfl ⟨by rw[HR2.out];rfl,HB3.out⟩
  ·have hR2:R=xuC d (some e):=by rw[HRR.out,hf]
   have hme:=List.mem_of_getElem? he
   have HC:=lH (fun W=>xrt e d W (HM.out.1 e hme) (HM.out.2.1 e hme) HM.out.2.2.2)
   rw[← hR2] at HC
   obtain⟨a',c',hav,_,_,hcc⟩:=HE3.out
   obtain⟨g,off,rfl,hg,k0,k1,k2,k3⟩:=hcc i e he
   cases hav
   have hi2:(i:Int)<(l.length:Int):=by omega
   unfold eC at HC
   clear hf hR2 hme he hcc HRR HR
   go_wp2_with fail
   refine(HC.out _).mono ?_
   rintro x w4 ⟨rfl,hb4⟩
   have HB4:=lH (HB3.out.trans (hb4.mono HB3.out.size))
   clear hb4
   go_wp2_with fail
   refine bodyPost_ret (results_tmp3 rfl _ _ _) rfl ⟨rfl,HB4.out⟩
 ·have e1:(z == 0)=false:=by simpa using h1
  have HRR:Hid (R=(noB,false,z)):=lH (by rw[HR.out,if_pos h1])
  go_wp2_with fail
  refine bodyPost_ret (results_tmp3 rfl _ _ _) rfl ⟨by rw[HRR.out];rfl,HB2.out⟩
def xAP:Js→Bool
 | .obj _=>true
 | _=>false
def ckP (b k:Int) (s:ByteArray):Int :=
 if b<512∨16257<b then 15 else if 5<k then 14 else if (xhn (bI s)).2.2≠0 then (xhn (bI s)).2.2 else if xAP (xhn (bI s)).1=true then 0 else 4
def hdP (L:List It) (k:Int):Hd:=⟨0,0,0,0,0,0,0,0,(L.length:Nat),((xaj L).1.length:Nat),(conN (xaj L).1:Nat),true,1,1,k,zlo L,zhi L,-1800000000,-850511287,1800000000,850511287,zlo L,0,0⟩
def ptP (L:List It) (b:Int) (s:ByteArray):Pt:=⟨xpc (xar (xaj L).1 b).root,s,(xar (xaj L).1 b).text,xdx (xaj L).2⟩
def xbs (L:List It) (b k:Int) (s:ByteArray):ByteArray × Int :=
 if ckP b k s≠0 then (noB,ckP b k s) else if (xar (xaj L).1 b).err≠0 then (noB,(xar (xaj L).1 b).err) else xbA (hdP L k) (ptP L b s)
theorem xv1 (t:It) (h:t.1<6004799503160661):0≤xkl (t.1:Int)∧xkl (t.1:Int)≤26:=by
 obtain⟨k,hk,_,_,e⟩:=xiM (t.1:Int) (by omega) (by omega)
 rw[e];omega
theorem xAC {a b:Int} (h0:0≤a) (hab:a≤b) (hb:b<6004799503160661):xkl a≤xkl b:=by
 obtain⟨i,hi,a1,a2,ea⟩:=xiM a h0 (by omega)
 obtain⟨j,hj,b1,b2,eb⟩:=xiM b (by omega) hb
 rw[ea,eb]
 rcases Nat.lt_or_ge j i with h|h
 ·have:=xh9 (j+1) i (by omega)
  rw[xm9] at this
  omega
 ·omega
theorem xv2 {L:List It} (hg:GoodC L):0≤zlo L∧zlo L≤zhi L∧zhi L≤26:=by
 cases L with
 | nil=>exact⟨Int.le_refl _,Int.le_refl _,by decide⟩
 | cons t m =>
  obtain⟨u,hu⟩:∃ u,(t :: m).getLast?=some u:=⟨_,List.getLast?_eq_some_getLast (by simp)⟩
  have hm:u ∈ t :: m:=List.mem_of_getLast? hu
  have h1:=xv1 t (hg.low t (by simp))
  have h2:=xv1 u (hg.low u hm)
  have e:zhi (t :: m)=xkl (u.1:Int):=by unfold zhi;rw[hu]
  have e2:zlo (t :: m)=xkl (t.1:Int):=rfl
  rw[e,e2]
  refine⟨h1.1,xAC (by omega) ?_ (by have:=hg.low u hm;omega),h2.2⟩
  rcases List.mem_cons.1 hm with rfl|hm'
  ·omega
  ·have:=(List.pairwise_cons.1 hg.rise).1 u hm';omega
theorem xc8 {L:List It} (hg:GoodC L):xaE (xaj L).1:=fun e he=>((xiQ hg).ok e he).may
theorem xlh {L:List It} (hg:GoodC L):xao (xaj L).1=[]:=by
 unfold xao
 refine List.filter_eq_nil_iff.2 (fun e he=>?_)
 have:=((xiQ hg).ok e he).run
 simp only[decide_eq_true_eq]
 omega
theorem xtC {L:List It} (hg:GoodC L):xaN (xaj L).1=0:=(xfp hg).2.1
theorem xdG {L:List It} (hg:GoodC L):(xaj L).1.length≤L.length:=(xfp hg).2.2.2.2.1
theorem xAN (l:List En) (b:Int) (n:Nat):∀ (j f m:Nat),j<f→xuo b (xbQ (2 ^ j*m) l)=true→∃ k,goS l b f m=some k:=by
 intro j
 induction j with
 | zero =>
  intro f m h hf
  obtain⟨f,rfl⟩:∃ g,f=g+1:=⟨f - 1,by omega⟩
  rw[Nat.pow_zero,Nat.one_mul] at hf
  exact⟨m,by rw[goS,if_pos hf]⟩
 | succ j ih =>
  intro f m h hf
  obtain⟨f,rfl⟩:∃ g,f=g+1:=⟨f - 1,by omega⟩
  rw[goS]
  split
  ·exact⟨_,rfl⟩
  ·refine ih f (2*m) (by omega) ?_
   rw[show 2 ^ j*(2*m)=2 ^ (j+1)*m by rw[Nat.pow_succ,Nat.mul_assoc]]
   exact hf
theorem xqQ (l:List En):xfK l≤10+40*l.length:=by
 unfold xfK
 have:=(xcA l).2
 split <;> omega
theorem xnQ {l:List En} {b:Int} (hm:xaE l) (hr:xaN l=0) (hlv:xao l=[]) (hl:l.length≤150) (h0:512≤b) (h1:b≤16257):(xar l b).err=0:=by
 unfold xar
 rw[if_neg (by omega),if_neg (by simp[hr]),if_neg (by simp[hlv])]
 split
 ·rfl
 rename_i h4
 have hne:l≠[]:=by
  rintro rfl
  have:=xqQ []
  simp at this
  omega
 have hf:xuo b (xbQ (2 ^ 8*1) l)=true:=by
  rw[xlX _ (by omega) hl,decide_eq_true_eq]
  have:=xqQ (xaF 0 (xbQ (2 ^ 8*1) l))
  rw[xcc,xjv _ (by omega) l hne (by omega)] at this
  rw[xjv _ (by omega) l hne (by omega)]
  simp at this
  omega
 obtain⟨k,hk⟩:=xAN l b 0 8 13 1 (by omega) hf
 rw[hk]
structure Spl (l:List En) (b:Int):Prop where
 may:xaE (xar l b).root
 row:xaN (xar l b).root=0
 len:(xar l b).root.length≤l.length
 fit:((xaz (xar l b).root).length:Int)≤b
 text:(xar l b).text.size≤10*l.length+40*l.length
theorem xpN {l:List En} {b:Int} (hm:xaE l) (hl:l.length≤150) (he:(xar l b).err=0):Spl l b:=by
 obtain⟨b0,b1,hr,hlv,h⟩:=xeJ he
 rcases h with ⟨h,e⟩|⟨h,n,hn,hf,e⟩
 ·rw[xfK,if_pos hr] at h
  exact⟨by rw[e];exact hm,by rw[e];exact hr,by rw[e];exact Nat.le_refl _,by rw[e];exact h,by rw[e];exact Nat.zero_le _⟩
 ·have hrow:=xhs n hn hm hr (by omega)
  have hlen:(xaF 0 (xbQ n l)).length≤l.length:=by rw[xcc];exact xgN n hn l
  rw[xlX n hn hl,decide_eq_true_eq,xfK,if_pos hrow] at hf
  have hb:=xgq (xbQ n l)
  have hc:=xgN n hn l
  rw[xcw n hn l] at hb
  refine⟨?_,by rw[e];exact hrow,by rw[e];exact hlen,by rw[e];exact hf,by rw[e];show (str (xaL (xbQ n l))).size≤_;rw[xbu];omega⟩
  rw[e]
  refine xjc (by rw[xcw n hn l];exact hm) (fun p hp=>(xiB n hn l p hp).1) (fun p hp=>?_) (by omega)
  have h1:=(xcA p).2
  have h2:p.length≤l.length:=by
   have:=xcw n hn l
   obtain⟨x,y,hxy⟩:=List.append_of_mem hp
   rw[hxy,List.flatten_append,List.flatten_cons] at this
   have:=congrArg List.length this
   rw[List.length_append,List.length_append] at this
   omega
  omega
theorem xvK {l:List En} (hr:xaN l=0) (hs:(xaz l).length≤65536):xlR l=0∧xpc l=str (xaz l):=by
 have h:xlR l=0:=by unfold xlR;rw[if_pos hr,if_neg (by omega)]
 exact⟨h,by unfold xpc;rw[if_pos h]⟩
theorem xzy {L:List It} (hg:GoodC L):(xdx (xaj L).2).size≤134217728:=by
 have:=xzf hg L.length (Nat.le_refl _)
 rw[List.take_length] at this
 rw[xha];exact this
theorem xpC {L:List It} {b:Int} {s:ByteArray} (hg:GoodC L) (hl:L.length≤150) (hs:s.size≤1000000) (he:(xar (xaj L).1 b).err=0) (hb:b≤16257):Few (ptP L b s) 200000000:=by
 have hlen:=xdG hg
 have S:=xpN (xc8 hg) (by omega) he
 have h1:=S.fit
 have h2:=S.text
 have h3:=xzy hg
 obtain⟨e1,e2⟩:=xvK S.row (by omega)
 refine⟨?_,by show s.size≤_;omega,by show (xar (xaj L).1 b).text.size≤_;omega,by show (xdx (xaj L).2).size≤_;omega⟩
 show (xpc (xar (xaj L).1 b).root).size≤_
 rw[e2,xbu]
 omega
theorem xvM (l:List En):conN l≤l.length:=by
 unfold conN
 refine Nat.le_trans (xx4 _) ?_
 unfold xhm
 rw[List.length_map]
 exact List.length_filter_le _ _
theorem xmL {L:List It} {k:Int} (hg:GoodC L) (hk:U8 k):xfX (hdP L k):=by
 have h1:=xv2 hg
 have h2:=hg.few
 have h3:=xdG hg
 have h4:=xvM (xaj L).1
 unfold U8 at hk
 unfold xfX hdP U64 U8
 simp only
 omega
theorem xij {L:List It} {b k:Int} {s:ByteArray} (hg:GoodC L) (hl:L.length≤150) (hk:U8 k) (hs:s.size≤1000000) (hc:ckP b k s=0) :
  (xar (xaj L).1 b).err=0∧(xbA (hdP L k) (ptP L b s)).2=0∧xbs L b k s=xbA (hdP L k) (ptP L b s):=by
 have hb:512≤b∧b≤16257∧k≤5:=by
  unfold ckP at hc
  split at hc
  ·cases hc
  split at hc
  ·cases hc
  omega
 have hlen:=xdG hg
 have he:=xnQ (xc8 hg) (xtC hg) (xlh hg) (by omega) hb.1 hb.2.1
 have hf:=xpC hg hl hs he hb.2.1
 have hz:=xv2 hg
 have hck:ckH (xdd (hdP L k) (xde (ptP L b s)).sec)=0:=by
  rw[xhe hf]
  obtain⟨f0,f1,f2,f3⟩:=hf
  generalize ptP L b s=p at *
  unfold U8 at hk
  unfold ckH xdm xe9 xdb xpd xhj xdd hdP
  simp only[Bool.and_eq_true,decide_eq_true_eq]
  rw[if_pos (by omega),if_pos (by omega),if_pos (by omega),if_pos (by omega)]
 have hgl:(xbA (hdP L k) (ptP L b s)).2=0:=by
  unfold xbA
  rw[if_neg (by rw[xhe hf];simp),if_neg (by unfold xgO;rw[if_pos hck];simp)]
 refine⟨he,hgl,?_⟩
 unfold xbs
 rw[if_neg (by simpa using hc),if_neg (by simpa using he)]
theorem xzG (S:Nat→Prop) (J:Js) (x:Value) (w:World) (h:xaq S w J x):∃ v,∀ W,(Instr.typeAssert x 20 157 true).run Tryz.prog W=.ok (.tuple #[v,.bool (xAP J)]) W:=by
 cases J <;> rw[xaq] at h
 ·subst h;exact⟨_,fun W=>xhS _ _ _ _ Tryz.underlying157 rfl xw7 W⟩
 ·subst h;exact⟨_,fun W=>xav _ _ _ _ _ _ Tryz.underlying157 rfl xw7 (by decide) W⟩
 ·subst h;exact⟨_,fun W=>xav _ _ _ _ _ _ Tryz.underlying157 rfl xw7 (by decide) W⟩
 ·obtain⟨t,rfl,_⟩:=h;exact⟨_,fun W=>xav _ _ _ _ _ _ Tryz.underlying157 rfl xw7 (by decide) W⟩
 ·obtain⟨a,c,rfl,_⟩:=h;exact⟨_,fun W=>xav _ _ _ _ _ _ Tryz.underlying157 rfl xw7 (by decide) W⟩
 ·obtain⟨a,c,rfl,_⟩:=h;exact⟨_,fun W=>xcb _ _ _ _ Tryz.underlying157 rfl W⟩
 ·subst h;exact⟨_,fun W=>xav _ _ _ _ _ _ Tryz.underlying157 rfl xw7 (by decide) W⟩
def xcl (b k:Int) (s:ByteArray):Array Value:=#[.int .i64 b,.int .u8 k,.string s]
theorem xk5 (b k:Int) (s:ByteArray) (w:World) (hq:QTab w) (hs:s.size≤1000000):Calls Tryz.prog 33 #[.agg (xcl b k s)] w fun e w'=>e=.returned (.int .i64 (ckP b k s))∧Below w.heap.size w w':=by
 unfold xcl ckP
 have HT:=lH (fun W hq=>xpD s W hq hs)
 have HQ:=lH (fun W (hb:Below w.heap.size w W)=>hq.below hb)
 obtain⟨V,hV⟩:∃ V,xhn (bI s)=V:=⟨_,rfl⟩
 rw[hV] at HT ⊢
 unfold xyM at HT
 clear hq hV
 by_cases h1:b<512
 ·rw[if_pos (.inl h1)]
  have e1:decide (b<512)=true:=decide_eq_true h1
  clear h1
  go_enter Tryz.func33,Tryz.ntmps33
  go_wp2_with fail
  go_ret
  exact⟨rfl,by go_grown⟩
 have e1:decide (b<512)=false:=decide_eq_false h1
 by_cases h2:16257<b
 ·rw[if_pos (.inr h2)]
  have e2:decide (16257<b)=true:=decide_eq_true h2
  clear h1 h2
  go_enter Tryz.func33,Tryz.ntmps33
  go_wp2_with fail
  go_ret
  exact⟨rfl,by go_grown⟩
 have e2:decide (16257<b)=false:=decide_eq_false h2
 rw[if_neg (by omega)]
 by_cases h3:5<k
 ·rw[if_pos h3]
  have e3:decide (5<k)=true:=decide_eq_true h3
  clear h1 h2 h3
  go_enter Tryz.func33,Tryz.ntmps33
  go_wp2_with fail
  go_ret
  exact⟨rfl,by go_grown⟩
 have e3:decide (5<k)=false:=decide_eq_false h3
 rw[if_neg h3]
 obtain⟨R,hR⟩:∃ R,(if V.2.2≠0 then V.2.2 else if xAP V.1=true then 0 else 4)=R:=⟨_,rfl⟩
 rw[hR]
 have HR:=lH hR
 clear h1 h2 h3 hR
 go_enter Tryz.func33,Tryz.ntmps33
 go_wp2_with fail
 have HB0:Hid (Below w.heap.size w (w.alloc (.cells #[.int .i64 b,.int .u8 k,.string s] 59))):=lH ((Below.refl _ _).alloc (Nat.le_refl _) _)
 refine(HT.out _ (HQ.out _ HB0.out)).mono ?_
 rintro e w1 ⟨⟨x,rfl,hx⟩,hb1⟩
 have HB:=lH (HB0.out.trans (hb1.mono HB0.out.size))
 obtain⟨v,hv⟩:=xzG _ _ _ _ hx
 clear hx hb1 HT HB0
 by_cases h4:V.2.2=0
 ·have e4:(V.2.2 == 0)=true:=by simp[h4]
  have HR1:=lH (HR.out.symm.trans (if_neg (by simpa using h4)))
  cases h5:xAP V.1 with
  | true =>
   rw[h5] at hv
   have HR2:=lH (HR1.out.trans (if_pos h5))
   clear h4 h5
   generalize V.2.2=z at *
   go_wp2_with fail
   go_ret
   exact⟨by rw[HR2.out];rfl,HB.out⟩
  | false =>
   rw[h5] at hv
   have HR2:=lH (HR1.out.trans (if_neg (by simp[h5])))
   clear h4 h5
   generalize V.2.2=z at *
   go_wp2_with fail
   go_ret
   exact⟨by rw[HR2.out];rfl,HB.out⟩
 ·have e4:(V.2.2 == 0)=false:=by simp[h4]
  have HR2:=lH (HR.out.symm.trans (if_pos (by simpa using h4)))
  clear h4
  generalize V.2.2=z at *
  go_wp2_with fail
  go_ret
  exact⟨by rw[HR2.out];rfl,HB.out⟩
end Go.Proofs.YtjinnigjfopbcaaGreatDoor
namespace Go.Proofs.YtjinnigjfopbcaaGreatDoor
set_option linter.unusedVariables false
set_option linter.unusedSimpArgs false
open Go.RowKit
set_option maxRecDepth 100000
theorem xoP (s v:Value) (L:List It) (k:Int) (w:World) (h:ChS w s L) (hv:xam w v (xaj L).1) :
  Calls Tryz.prog 71 #[.agg #[s],.int .u8 k,v] w fun e w'=>e=.returned (.agg (cH (hdP L k)))∧Below w.heap.size w w':=by
 have hg:=h.good
 have hfew:=hg.few
 have hrl:=xdG hg
 have hcl:=xvM (xaj L).1
 have hw1:IntKind.u64.wrap (L.length:Int)=(L.length:Int):=by rw[IntKind.wrap_u64] <;> omega
 have hw2:IntKind.u64.wrap ((xaj L).1.length:Int)=((xaj L).1.length:Int):=by rw[IntKind.wrap_u64] <;> omega
 have hw3:IntKind.u64.wrap (conN (xaj L).1:Int)=(conN (xaj L).1:Int):=by rw[IntKind.wrap_u64] <;> omega
 obtain⟨a5,n5,c5,rfl⟩:=h.form
 have HV:=lH hv
 obtain⟨ar,cr,rfl,hcr,hmr,_⟩:=hv
 obtain⟨W,hW⟩:∃ W,(w.alloc (.cells #[.slice a5 n5 c5] 36)).alloc (.cells (cH xad) 124)=W:=⟨_,rfl⟩
 have h0:One W w.heap.size (.slice a5 n5 c5):=by
  rw[← hW]
  exact(xaX w _ _).alloc _
 have h2:HAt W (w.heap.size+1) 124 xad:=by
  have:=HAt.made (w.alloc (.cells #[.slice a5 n5 c5] 36)) xad 124
  simp only[World.size_alloc] at this
  rw[← hW]
  exact this
 have hbw:Below w.heap.size w W:=by rw[← hW];exact((Below.refl _ w).alloc (Nat.le_refl _) _).alloc (by simp) _
 have HM:=lH (xc8 hg)
 have HZ:=lH (xrn (.slice a5 n5 c5) L W (h.below hbw))
 have HL:=lH (fun X (hX:Below W.heap.size W X)=>xuB (.slice a5 n5 c5) L X ((h.below hbw).below hX))
 have HC:=lH (fun X (hX:Below W.heap.size W X)=>xqo _ (xaj L).1 X ((HV.out.below hbw).below hX) HM.out (by omega))
 have H0:=lH h0
 have H2:=lH h2
 have HB:=lH hbw
 have q0:=h0.cell
 have hz:cH xad=#[.int .u64 0,.int .u64 0,.int .u64 0,.int .u64 0,.int .u64 0,.int .u64 0,.int .u64 0,.int .u64 0,.int .u64 0,.int .u64 0,.int .u64 0,.bool false,.int .u8 0,.int .u8 0,.int .u8 0,.int .i64 0,.int .i64 0,.int .i64 0,.int .i64 0,.int .i64 0,.int .i64 0,.int .i64 0,.int .i64 0,.int .i64 0]:=rfl
 rw[hz] at hW
 have hR:cH (hdP L k)=#[.int .u64 0,.int .u64 0,.int .u64 0,.int .u64 0,.int .u64 0,.int .u64 0,.int .u64 0,.int .u64 0,.int .u64 L.length,.int .u64 (xaj L).1.length,.int .u64 (conN (xaj L).1:Nat),.bool true,.int .u8 1,.int .u8 1,.int .u8 k,.int .i64 (zlo L),.int .i64 (zhi L),.int .i64 (-1800000000),.int .i64 (-850511287),.int .i64 1800000000,.int .i64 850511287,.int .i64 (zlo L),.int .i64 0,.int .i64 0]:=rfl
 generalize hX:hdP L k=X at *
 have HR:=lH hR
 clear h hg h0 h2 hbw hz hcl hX hR
 generalize (xaj L).1=R at *
 generalize zlo L=zl at *
 generalize zhi L=zh at *
 generalize conN R=cn at *
 go_enter Tryz.func71,Tryz.ntmps71
 go_wp2_with fail
 try rw[hW]
 clear hW
 refine HZ.out.mono ?_
 rintro e w1 ⟨rfl,hb1⟩
 have HB1:=lH hb1
 have q1:=(H0.out.below hb1).cell
 clear hb1 q0 HZ
 go_wp2_with fail
 refine(HL.out _ HB1.out).mono ?_
 rintro e w2 ⟨rfl,hb2⟩
 have HB2:=lH (HB1.out.trans (hb2.mono HB1.out.size))
 clear hb2 q1 HB1 HL
 go_wp2_with fail
 refine(HC.out _ HB2.out).mono ?_
 rintro e w3 ⟨rfl,hb3⟩
 have HB3:=lH (HB2.out.trans (hb3.mono HB2.out.size))
 have HH:=lH (H2.out.later HB3.out)
 have HBX:=lH (HB.out.trans (HB3.out.mono HB.out.size))
 clear hb3 HB2 HC
 go_wp2_with (first|(refine wpList_store_row rfl 124 _ _ rfl (w.heap.size+1) _ rfl rfl 124 (cH xad) HH.out xaB rfl (by have:=xeQ X;rw[HR.out] at this;exact this) ?_)|fail)
 have hp:=xjG w3 (w.heap.size+1) _ xad X HH.out
 rw[← HR.out]
 refine bodyPost_ret (results_cell_row rfl _ _ (w.heap.size+1) 124 (cH X) (0,0) _ rfl hp.1 Tryz.underlying124 rfl xaB) rfl ⟨rfl,hp.2.2.1 _ _ (by omega) HBX.out⟩
theorem xlP (gb ge:Nat) (x y:Int) (u:FrameMode) (w:World) (hb:One w gb (.int .i64 x)) (he:One w ge (.int .i64 y)) :
  CallsD Tryz.prog 66 #[.pointer (some ⟨gb,0,none⟩),.pointer (some ⟨ge,0,none⟩)] u w fun e u' w'=>u'=u∧(e=.returned (.tuple #[])∧w'=w.setCell ⟨ge,0,none⟩ (.int .i64 x)):=by
 have h1:=hb.cell
 have h2:=he.cell
 have h3:=he.frz
 go_enter_d Tryz.func66,Tryz.ntmps66
 go_wp2
 go_end0
 exact⟨rfl,rfl⟩
theorem Box.set_other {w:World} {g g':Nat} {x:Array Value} (h:Box w g x) (hn:g≠g') (x':Value):Box (w.setCell ⟨g',0,none⟩ x') g x:=by
 obtain⟨T,h⟩:=h
 exact⟨T,xeo h hn _ _⟩
theorem xam.set18 {w:World} {v:Value} {l:List En} (h:xam w v l) {g:Nat} {x:Value} (ho:One w g x) (x':Value):xam (w.setCell ⟨g,0,none⟩ x') v l:=by
 obtain⟨T,hh⟩:=ho
 obtain⟨a,cap,rfl,h1,h2,hc⟩:=h
 refine⟨a,cap,rfl,h1,h2,fun k t ht=>?_⟩
 obtain⟨g',off,ha,hg,c0,c1,c2,c3⟩:=hc k t ht
 have hn:g'≠g:=by
  rintro rfl
  simp[World.cell?,hh] at c3
 have hb:(w.setCell ⟨g,0,none⟩ x').heap[g']?=w.heap[g']?:=Below.heap_setCell _ _ _ _ (by simpa using hn)
 exact⟨g',off,ha,by simpa using hg,(World.cell?_of_block (a:=⟨g',_,none⟩) hb).trans c0,(World.cell?_of_block (a:=⟨g',_,none⟩) hb).trans c1,(World.cell?_of_block (a:=⟨g',_,none⟩) hb).trans c2,(World.cell?_of_block (a:=⟨g',_,none⟩) hb).trans c3⟩
theorem xsv:(Tryz.prog.info? 59).map (·.size)=some 3:=by kernel_rfl
structure StP (w W:World) (g0 g1 g2 g3:Nat) (s:Value) (L:List It) (b k:Int) (t:ByteArray) (z:Int):Prop where
 ord:w.heap.size≤g2∧w.heap.size≤g3∧g0≠g3∧g1≠g3∧g2≠g3
 ch:One W g0 s
 pl:Box W g1 (xcl b k t)
 e:One W g2 (.int .i64 0)
 bad:One W g3 (.int .i64 z)
 its:ChS W s L
 bel:Below w.heap.size w W
theorem StP.below {w W X:World} {g0 g1 g2 g3:Nat} {s:Value} {L:List It} {b k:Int} {t:ByteArray} {z:Int} (h:StP w W g0 g1 g2 g3 s L b k t z) (hb:Below W.heap.size W X):StP w X g0 g1 g2 g3 s L b k t z :=
 ⟨h.ord,h.ch.below hb,h.pl.below hb,h.e.below hb,h.bad.below hb,h.its.below hb,h.bel.trans (hb.mono h.bel.size)⟩
theorem StP.tell {w W:World} {g0 g1 g2 g3:Nat} {s:Value} {L:List It} {b k:Int} {t:ByteArray} {z:Int} (h:StP w W g0 g1 g2 g3 s L b k t z) (y:Int):StP w (W.setCell ⟨g3,0,none⟩ (.int .i64 y)) g0 g1 g2 g3 s L b k t y :=
 ⟨h.ord,h.ch.set_other h.ord.2.2.1 _,h.pl.set_other h.ord.2.2.2.1 _,h.e.set_other h.ord.2.2.2.2 _,h.bad.set _,h.its.set h.bad _,h.bel.setCell (p:=⟨g3,0,none⟩) h.ord.2.1 _⟩
theorem StP.facts {w W:World} {g0 g1 g2 g3:Nat} {s:Value} {L:List It} {b k:Int} {t:ByteArray} {z:Int} (h:StP w W g0 g1 g2 g3 s L b k t z) :
  W.cell? ⟨g0,0,none⟩=some s∧W.cell? ⟨g1,0,none⟩=some (.int .i64 b)∧W.cell? ⟨g1,1,none⟩=some (.int .u8 k)∧W.cell? ⟨g1,2,none⟩=some (.string t) ∧
  W.cell? ⟨g3,0,none⟩=some (.int .i64 z)∧W.frozen? ⟨g3,0,none⟩=false∧(loadVar 59 ⟨g1,0,none⟩).run Tryz.prog W=.ok (.agg (xcl b k t)) W:=by
 refine⟨h.ch.cell,by rw[h.pl.cell];rfl,by rw[h.pl.cell];rfl,by rw[h.pl.cell];rfl,h.bad.cell,h.bad.frz,?_⟩
 obtain⟨T,hT⟩:=h.pl
 exact run_loadVar_row W g1 T _ _ (0,0) _ hT Tryz.underlying59 rfl xsv
theorem StP.shut {w W:World} {g0 g1 g2 g3:Nat} {s:Value} {L:List It} {b k:Int} {t:ByteArray} {z:Int} (h:StP w W g0 g1 g2 g3 s L b k t z) :
  (W.setCell ⟨g2,0,none⟩ (.int .i64 z)).cell? ⟨g2,0,none⟩=some (.int .i64 z)∧Below w.heap.size w (W.setCell ⟨g2,0,none⟩ (.int .i64 z)) :=
 ⟨(h.e.set _).cell,h.bel.setCell (p:=⟨g2,0,none⟩) h.ord.1 _⟩
theorem xjy (s:Value) (L:List It) (b k:Int) (t:ByteArray) (w:World) (hq:QTab w) (h:ChS w s L) (hl:L.length≤150) (hk:U8 k) (hb:-9223372036854775808≤b∧b≤9223372036854775807) (ht:t.size≤1000000) (HC0:∀ W,QTab W→Calls Tryz.prog 33 #[.agg (xcl b k t)] W fun e w'=>e=.returned (.int .i64 (ckP b k t))∧Below W.heap.size W w') :
  Calls Tryz.prog 28 #[.agg #[s],.agg (xcl b k t)] w fun e w'=>e=.returned (.tuple #[.string (xbs L b k t).1,.int .i64 (xbs L b k t).2])∧Below w.heap.size w w':=by
 have hmf:∀ (fn:Fn) (first cap:Array Value) (w:World),(Instr.makeFunc fn first cap).run Tryz.prog w=.ok (.func fn first cap) w:=fun _ _ _ _=>rfl
 have hg:=h.good
 have hrl:=xdG hg
 have HQ:=lH (fun W (hb:Below w.heap.size w W)=>hq.below hb)
 have HCK:=lH (fun W hq=>HC0 W hq)
 clear HC0
 obtain⟨a5,n5,c5,rfl⟩:=h.form
 obtain⟨W,hW⟩:∃ W,(((w.alloc (.cells #[.slice a5 n5 c5] 36)).alloc (.cells (xcl b k t) 59)).alloc (.cells #[.int .i64 0] 28)).alloc (.cells #[.int .i64 0] 28)=W:=⟨_,rfl⟩
 have hS:StP w W w.heap.size (w.heap.size+1) (w.heap.size+1+1) (w.heap.size+1+1+1) (.slice a5 n5 c5) L b k t 0:=by
  have b1:=(Below.refl w.heap.size w).alloc (Nat.le_refl _) (.cells #[.slice a5 n5 c5] 36)
  have o1:=xaX w (.slice a5 n5 c5) 36
  generalize hW1:w.alloc (.cells #[.slice a5 n5 c5] 36)=W1 at *
  have z1:W1.heap.size=w.heap.size+1:=by rw[← hW1,World.size_alloc]
  have b2:=(Below.refl W1.heap.size W1).alloc (Nat.le_refl _) (.cells (xcl b k t) 59)
  have o2:=xii W1 (xcl b k t) 59
  generalize hW2:W1.alloc (.cells (xcl b k t) 59)=W2 at *
  have z2:W2.heap.size=w.heap.size+1+1:=by rw[← hW2,World.size_alloc,z1]
  have b3:=(Below.refl W2.heap.size W2).alloc (Nat.le_refl _) (.cells #[.int .i64 0] 28)
  have o3:=xaX W2 (.int .i64 0) 28
  generalize hW3:W2.alloc (.cells #[.int .i64 0] 28)=W3 at *
  have z3:W3.heap.size=w.heap.size+1+1+1:=by rw[← hW3,World.size_alloc,z2]
  have b4:=(Below.refl W3.heap.size W3).alloc (Nat.le_refl _) (.cells #[.int .i64 0] 28)
  have o4:=xaX W3 (.int .i64 0) 28
  rw[hW] at b4 o4
  rw[z1] at o2
  rw[z2] at o3
  rw[z3] at o4
  have c1:=b1.trans ((b2.mono b1.size).trans (((b3.mono b2.size).trans (b4.mono (Nat.le_trans b2.size b3.size))).mono b1.size))
  exact⟨⟨by omega,by omega,by omega,by omega,by omega⟩,((o1.below b2).below b3).below b4,(o2.below b3).below b4,o3.below b4,o4,h.below c1,c1⟩
 unfold xcl at hW ⊢
 generalize hP:xbs L b k t=P
 have HP:=lH hP
 have HS:=lH hS
 have H0:=lH h
 clear hq hS h hP
 go_enter_defers Tryz.func28,Tryz.ntmps28
 go_upto_region 3 with fail
 generalize w.heap.size+1+1+1=g3 at *
 generalize w.heap.size+1+1=g2 at *
 generalize w.heap.size+1=g1 at *
 obtain⟨q0,p0,p1,p2,b0,bf,lp⟩:=HS.out.facts
 unfold xcl at lp HCK
 obtain⟨cz,hcz⟩:∃ z,ckP b k t=z:=⟨_,rfl⟩
 rw[hcz] at HCK
 have HCZ:=lH hcz
 clear hcz hW
 go_wp2_with fail
 refine(HCK.out _ (HQ.out _ HS.out.bel)).mono ?_
 rintro e w1 ⟨rfl,hb1⟩
 have HS1:=lH (HS.out.below hb1)
 obtain⟨_,_,_,_,b1,bf1,_⟩:=HS1.out.facts
 clear HS hb1 q0 p0 p1 p2 b0 bf lp HCK
 by_cases h1:cz=0
 ·subst h1
  have HS2:=lH (HS1.out.tell 0)
  go_upto_region 5 with fail
  generalize w1.setCell { block:=g3,off:=0 } (Value.int IntKind.i64 0)=w2 at *
  obtain⟨q0,_⟩:=HS2.out.facts
  clear HS1 b1 bf1
  go_wp2_with fail
  refine(xor _ L _ HS2.out.its).mono ?_
  rintro e w3 ⟨v3,rfl,hr3,hb3⟩
  have HS3:=lH (HS2.out.below hb3)
  obtain⟨_,p0,_⟩:=HS3.out.facts
  have HR3:=lH hr3
  obtain⟨ar,cr,rfl,hcr,hmr,_⟩:=hr3
  have HSP:=lH (xlS _ (xaj L).1 b _ HR3.out (xc8 hg) (by omega) hb)
  clear HS2 hb3 q0
  unfold xrP at HSP
  go_wp2_with fail
  refine HSP.out.mono ?_
  rintro e w4 ⟨v4,rfl,hr4,hb4⟩
  have HS4:=lH (HS3.out.below hb4)
  have HR4:=lH (And.intro (HR3.out.below hb4) hr4)
  obtain⟨_,_,_,_,b4,bf4,_⟩:=HS4.out.facts
  clear HS3 hb4 p0 HSP hr4 HR3
  obtain⟨ez,hez⟩:∃ z,(xar (xaj L).1 b).err=z:=⟨_,rfl⟩
  have HEZ:=lH hez
  rw[hez]
  clear hez
  by_cases h2:ez=0
  ·subst h2
   have he:=HEZ.out
   have hbb:b≤16257:=(xeJ he).2.1
   have SP:=xpN (xc8 hg) (by omega) he
   have HFW:=lH (xpC (s:=t) hg hl ht he hbb)
   have HS5:=lH (HS4.out.tell 0)
   have HR5:=lH (And.intro (HR4.out.1.set18 HS4.out.bad (.int .i64 0)) (HR4.out.2.set18 HS4.out.bad (.int .i64 0)))
   have HEN:=lH (fun X hX=>xjN v4 (xar (xaj L).1 b).root X hX SP.may (by have:=SP.len;omega))
   have HHD:=lH (fun X (h1:ChS X (.slice a5 n5 c5) L) h2=>xoP (.slice a5 n5 c5) (.slice ar (xaj L).1.length cr) L k X h1 h2)
   have HGL:=lH (fun X=>xoL (hdP L k) (ptP L b t) X (xmL hg hk) HFW.out)
   have HPE0:Hid (P=xbA (hdP L k) (ptP L b t)):=lH (by rw[← HP.out];unfold xbs;rw[HCZ.out,if_neg (by simp),he,if_neg (by simp)])
   generalize xbA (hdP L k) (ptP L b t)=G at *
   obtain⟨y,z⟩:=G
   have HPE:Hid (P=(y,z)):=HPE0
   unfold xl6 ptP at HGL
   dsimp only at HGL
   generalize cH (hdP L k)=Hc at *
   clear SP he HPE0
   go_upto_region 8 with fail
   generalize w4.setCell { block:=g3,off:=0 } (Value.int IntKind.i64 0)=w5 at *
   clear HS4 HR4 b4 bf4
   go_wp2_with fail
   refine(HEN.out _ HR5.out.2).mono ?_
   rintro e w6 ⟨rfl,hb6⟩
   have HS6:=lH (HS5.out.below hb6)
   have HR6:=lH (HR5.out.1.below hb6)
   obtain⟨q0,p0,p1,p2,b0,bf,_⟩:=HS6.out.facts
   clear HS5 HR5 hb6 HEN
   go_upto_region 9 with fail
   go_cut [4] from 40 to 54 (fun x wx=>x=.string y∧StP w wx w.heap.size g1 g2 g3 (.slice a5 n5 c5) L b k t z)
   case first =>
    refine wp_mono (Q:=xdQ _) ?_ xgi
    go_region_with (first|(go_at_call 71;refine(HHD.out _ (HS6.out.its.below (by go_grown)) (HR6.out.below (by go_grown))).mono ?_;rintro e wa ⟨rfl,hba⟩;have hbA:Below w6.heap.size w6 wa:=Below.trans (by go_grown) (hba.mono (by simp));obtain⟨_,_,r1,r2,rb,rf,_⟩:=(HS6.out.below hbA).facts)|(go_at_call 70;refine(HGL.out _).mono ?_;rintro e wb ⟨rfl,hbb⟩;have hbB:Below w6.heap.size w6 wb:=hbA.trans (hbb.mono hbA.size);obtain⟨_,_,_,_,sb,sf,_⟩:=(HS6.out.below hbB).facts))
    all_goals
     dsimp only[xdQ]
     go_wp2_with fail
     go_meet
     case rel=>exact⟨rfl,(HS6.out.below hbB).tell z⟩
   case rest =>
    obtain⟨rfl,hS9⟩:=hcut
    generalize wc=w9 at *
    have HS9:=lH hS9
    clear hS9
    go_wp2_with fail
    refine leaves_cons (f:=66) (args:=#[.pointer (some ⟨g3,0,none⟩),.pointer (some ⟨g2,0,none⟩)]) (by simp) (by simp[go_sem]) ?_
    refine(xlP g3 g2 z 0 .returning _ HS9.out.bad HS9.out.e).mono ?_
    rintro e u' w'' ⟨rfl,rfl,rfl⟩
    obtain⟨k1,k2⟩:=HS9.out.shut
    refine⟨.tuple #[.string y,.int .i64 z],?_,by rw[HPE.out],k2⟩
    clear k2
    generalize w9.setCell { block:=g2,off:=0 } (Value.int IntKind.i64 z)=W9 at *
    simp[results,Tryz.results28,go_sem,k1]
  ·have e2:(ez == 0)=false:=by simp[h2]
   have HS5:=lH (HS4.out.tell ez)
   have HPE:Hid (P=(noB,ez)):=lH (by rw[← HP.out];unfold xbs;rw[HCZ.out,if_neg (by simp),HEZ.out,if_pos h2])
   go_wp2_with fail
   refine leaves_cons (f:=66) (args:=#[.pointer (some ⟨g3,0,none⟩),.pointer (some ⟨g2,0,none⟩)]) (by simp) (by simp[go_sem]) ?_
   refine(xlP g3 g2 ez 0 .returning _ HS5.out.bad HS5.out.e).mono ?_
   rintro e u' w'' ⟨rfl,rfl,rfl⟩
   obtain⟨k1,k2⟩:=HS5.out.shut
   refine⟨.tuple #[.string noB,.int .i64 ez],?_,by rw[HPE.out],k2⟩
   clear k2
   generalize (w4.setCell { block:=g3,off:=0 } (Value.int IntKind.i64 ez)).setCell { block:=g2,off:=0 } (Value.int IntKind.i64 ez)=W9 at *
   simp[results,Tryz.results28,go_sem,k1,noB]
 ·have e1:(cz == 0)=false:=by simp[h1]
  have HS2:=lH (HS1.out.tell cz)
  have HPE:Hid (P=(noB,cz)):=lH (by rw[← HP.out];unfold xbs;rw[HCZ.out,if_pos h1])
  go_wp2_with fail
  refine leaves_cons (f:=66) (args:=#[.pointer (some ⟨g3,0,none⟩),.pointer (some ⟨g2,0,none⟩)]) (by simp) (by simp[go_sem]) ?_
  refine(xlP g3 g2 cz 0 .returning _ HS2.out.bad HS2.out.e).mono ?_
  rintro e u' w'' ⟨rfl,rfl,rfl⟩
  obtain⟨k1,k2⟩:=HS2.out.shut
  refine⟨.tuple #[.string noB,.int .i64 cz],?_,by rw[HPE.out],k2⟩
  clear k2
  generalize (w1.setCell { block:=g3,off:=0 } (Value.int IntKind.i64 cz)).setCell { block:=g2,off:=0 } (Value.int IntKind.i64 cz)=W9 at *
  simp[results,Tryz.results28,go_sem,k1,noB]
theorem xgM (s:Value) (L:List It) (b k:Int) (t:ByteArray) (w:World) (hq:QTab w) (h:ChS w s L) (hl:L.length≤150) (hk:U8 k) (hb:-9223372036854775808≤b∧b≤9223372036854775807) (ht:t.size≤1000000) :
  Calls Tryz.prog 28 #[.agg #[s],.agg (xcl b k t)] w fun e w'=>e=.returned (.tuple #[.string (xbs L b k t).1,.int .i64 (xbs L b k t).2])∧Below w.heap.size w w' :=
 xjy s L b k t w hq h hl hk hb ht (fun W hq=>xk5 b k t W hq ht)
def xT:ByteArray:={ data:=#[120] }
def obT:ByteArray:={ data:=#[123,125] }
end Go.Proofs.YtjinnigjfopbcaaGreatDoor
