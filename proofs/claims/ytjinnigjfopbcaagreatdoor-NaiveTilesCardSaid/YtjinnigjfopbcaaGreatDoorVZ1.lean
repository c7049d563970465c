/- Ka Kb Kc Kd Qc Qb. -/
import Derived.Test.YtjinnigjfopbcaaGreatDoorVs
import Derived.Test.YtjinnigjfopbcaaGreatDoorVb9
import Derived.Test.YtjinnigjfopbcaaGreatDoorVc6
import Derived.Lib.SlBuf
import Derived.Lib.BufferWrite
import Derived.Test.YtjinnigjfopbcaaGreatDoorVd5
set_option maxHeartbeats 16000000
namespace Go.Proofs.YtjinnigjfopbcaaGreatDoor
set_option linter.unusedVariables false
set_option linter.unusedSimpArgs false
open Go.RowKit
set_option maxRecDepth 20000
def nvD (s:ByteArray):List En × Nat × Int:=xbF (xa7 s).p.p0.data.toList
def nvR (s:ByteArray):List En × ByteArray × Int :=
 if (xa7 s).err≠0 then ([],noB,(xa7 s).err) else if (nvD s).2.2≠0 then ([],noB,(nvD s).2.2) else
 if (xcB (nvD s).1 (xa7 s).p.p2).2≠0 then ([],noB,(xcB (nvD s).1 (xa7 s).p.p2).2) else ((xcB (nvD s).1 (xa7 s).p.p2).1,(xa7 s).p.p3,0)
def nvC (s:ByteArray):List It × Int:=if (nvR s).2.2≠0 then ([],(nvR s).2.2) else xcT (nvR s).1 (nvR s).2.1
def xog (d:ByteArray) (o:Option En):ByteArray × Bool × Int:=match o with
 | none=>(noB,false,0)
 | some e=>if (d.size:Int)<e.off+e.ln then (noB,false,8) else (d.extract e.off.toNat (e.off+e.ln).toNat,true,0)
def xh6 (l:List En) (q:Int):Option En:=l.find? (fun e=>xic e q)
def nvT (s:ByteArray) (q:Int):ByteArray × Bool × Int:=if (nvR s).2.2≠0 then (noB,false,(nvR s).2.2) else xog (nvR s).2.1 (xh6 (nvR s).1 q)
theorem xks:∀ (l:List En) (d:ByteArray) (out:List En),xas l→xas out→xas (goJ l d out).1
 | [],d,out,_,ho=>by rw[goJ];exact ho
 | e :: l,d,out,hl,ho=>by
  have h:=xhX (e :: l) 0 e d out rfl
  rw[List.drop_zero] at h
  rw[h]
  have hl2:xas l:=fun x hx=>hl x (List.mem_cons_of_mem _ hx)
  split
  ·exact xks l d _ hl2 (fun x hx=>by rcases List.mem_append.1 hx with h|h;exact ho x h;rw[List.mem_singleton.1 h];exact hl e (by simp))
  ·split
   ·intro x hx;simp at hx
   ·exact xks l d _ hl2 (fun x hx=>by rcases List.mem_append.1 hx with h|h;exact ho x h;exact(xf8 e d).2 x h)
theorem xpa {root:List En} {d:ByteArray} (hm:xas root):xas (xcB root d).1:=by
 unfold xcB
 split
 ·intro x hx;simp at hx
 ·split
  ·intro x hx;simp at hx
  ·split
   ·intro x hx;simp at hx
   ·exact xks root d [] hm (fun x hx=>by simp at hx)
theorem xq9 {root:List En} {d:ByteArray} (h:(xcB root d).2=0):xa5 (xcB root d).1=0:=by
 unfold xcB at h ⊢
 split
 ·rfl
 ·rename_i h0
  rw[if_neg h0] at h
  split
  ·rfl
  ·rename_i h1
   rw[if_neg h1] at h
   split
   ·rfl
   ·rename_i h2
    exact Classical.not_not.1 h2
theorem xuY {s:ByteArray} (h:(nvD s).2.2=0):xas (nvD s).1:=(xcg _ h).2.1
theorem xg2 (s:ByteArray):xas (nvR s).1∧xa5 (nvR s).1=0:=by
 unfold nvR
 split
 ·exact⟨fun x hx=>by simp at hx,rfl⟩
 ·split
  ·exact⟨fun x hx=>by simp at hx,rfl⟩
  ·rename_i h1
   split
   ·exact⟨fun x hx=>by simp at hx,rfl⟩
   ·rename_i h2
    exact⟨xpa (xuY (Classical.not_not.1 h1)),xq9 (Classical.not_not.1 h2)⟩
theorem xo9 (s:ByteArray) (a b:Int):(xoq s a b).size≤s.size:=by unfold xoq;simp only[ByteArray.size_extract];omega
theorem xfC (s:ByteArray) (hs:s.size≤1000000):(nvR s).2.1.size≤1000000:=by
 have h0:noB.size≤1000000:=by decide
 unfold nvR
 split
 ·exact h0
 ·split
  ·exact h0
  ·split
   ·exact h0
   ·unfold xa7
    split
    ·exact h0
    ·split
     ·exact h0
     ·exact Nat.le_trans (xo9 s _ _) hs
theorem xk0 (s:ByteArray):(nvR s).1.length≤4096:=by
 have h:=(xg2 s).2
 unfold xa5 at h
 split at h <;> omega
theorem xo5 {l:List En} (hm:xas l) (h:xa5 l=0):∀ e ∈ l,ckN e=0:=fun e he=>(xb7 _ l hm (xvB h).1 e he).2
def xgI (s:ByteArray) (w:World) (e:Ending) (w':World):Prop:=∃ v',e=.returned (.tuple #[v',.string (nvR s).2.1,.int .i64 (nvR s).2.2])∧xaj w' v' (nvR s).1∧Below w.heap.size w w'
theorem xiu (s:ByteArray) (hs:s.size≤1000000):Few (xa7 s).p 1000000:=by
 by_cases h1:(xcD (xci s)).2=0
 ·by_cases h2:xgD (xcD (xci s)).1 s.size
  ·unfold xa7;rw[if_neg (by simpa using h1),if_pos h2];exact⟨Nat.zero_le _,Nat.zero_le _,Nat.zero_le _,Nat.zero_le _⟩
  ·unfold xa7;rw[if_neg (by simpa using h1),if_neg h2]
   have hb:∀ a b,(xoq s a b).size≤s.size:=fun a b=>by unfold xoq;simp only[ByteArray.size_extract];omega
   exact⟨Nat.le_trans (hb _ _) hs,Nat.le_trans (hb _ _) hs,Nat.le_trans (hb _ _) hs,Nat.le_trans (hb _ _) hs⟩
 ·unfold xa7;rw[if_pos h1];exact⟨Nat.zero_le _,Nat.zero_le _,Nat.zero_le _,Nat.zero_le _⟩
theorem xhj:(Tryz.prog.info? 125).map (·.size)=some 4:=by kernel_rfl
theorem xdb (s:ByteArray) (w:World) (hs:s.size≤1000000):Calls Tryz.prog 15 #[.string s] w (xgI s w):=by
 unfold xgI
 have HCT:=lH (xpF s w hs)
 unfold xg3 at HCT
 have hpz:=xiu s hs
 obtain⟨R,hR⟩:∃ R,nvR s=R:=⟨_,rfl⟩
 rw[hR]
 unfold nvR nvD at hR
 generalize xa7 s=C at *
 obtain⟨X,p,Ce⟩:=C
 dsimp only at HCT hR hpz
 have HR:=lH hR.symm
 have HPZ:=lH hpz
 clear hR hpz
 go_enter Tryz.func15,Tryz.ntmps15
 go_wp2_with fail
 refine HCT.out.mono ?_
 rintro e w6 ⟨rfl,hb6⟩
 have HB6:=lH hb6
 clear hb6 HCT
 have TW:=xx0 w6 X p
 have HSX:Hid ((Tryz.prog.info? 124).map (·.size)=some (cH X).size∧24=(cH X).size∧(cH X).all (·.oneCell')=true):=lH ⟨xaB,rfl,xcl X⟩
 have HSP:Hid ((Tryz.prog.info? 125).map (·.size)=some (xfg p).size∧4=(xfg p).size∧(xfg p).all (·.oneCell')=true):=lH ⟨xhj,rfl,by simp[xfg,Value.oneCell']⟩
 obtain⟨Hc,hHc⟩:∃ Hc,cH X=Hc:=⟨_,rfl⟩
 obtain⟨P,hPc⟩:∃ P,xfg p=P:=⟨_,rfl⟩
 rw[hHc,hPc] at TW ⊢
 rw[hHc] at HSX
 rw[hPc] at HSP
 have HPc:=lH hPc
 clear hHc hPc
 unfold Z24 P4 at TW
 have HTW:=lH TW
 clear TW
 go_upto_region 2 with (first|(refine wpList_store_row rfl 124 _ _ rfl w6.heap.size Hc rfl rfl 124 _ HTW.out.s1 HSX.out.1 HSX.out.2.1 HSX.out.2.2 ?_)|(refine wpList_store_row rfl 125 _ _ rfl (w6.heap.size+1) P rfl rfl 125 _ HTW.out.s2 HSP.out.1 HSP.out.2.1 HSP.out.2.2 ?_)|fail)
 have HP:=HTW.out.e2
 have HBW:=lH (HB6.out.trans (HTW.out.e3.mono HB6.out.size))
 clear HTW HSX HSP
 generalize (((w6.alloc (.cells #[.int .u64 0,.int .u64 0,.int .u64 0,.int .u64 0,.int .u64 0,.int .u64 0,.int .u64 0,.int .u64 0,.int .u64 0,.int .u64 0,.int .u64 0,.bool false,.int .u8 0,.int .u8 0,.int .u8 0,.int .i64 0,.int .i64 0,.int .i64 0,.int .i64 0,.int .i64 0,.int .i64 0,.int .i64 0,.int .i64 0,.int .i64 0] 124)).alloc (.cells #[.string { data:=#[] },.string { data:=#[] },.string { data:=#[] },.string { data:=#[] }] 125)).setRow w6.heap.size Hc).setRow (w6.heap.size+1) P=w7 at *
 rw[← HPc.out] at HP
 have HP7:Hid (Box w7 (w6.heap.size+1) (xfg p)):=lH ⟨_,HP⟩
 have HB7:Hid (Below w.heap.size w w7):=HBW
 clear HP HPc HBW HB6
 generalize w6.heap.size=g9 at *
 by_cases h1:Ce=0
 ·subst h1
  have q0:w7.cell? ⟨g9+1,0,none⟩=some (.string p.p0):=by rw[HP7.out.cell];rfl
  have HDC:=lH (xiP p.p0 w7 (by have:=HPZ.out.1;unfold maxLen;omega))
  unfold xeo at HDC
  go_wp2_with fail
  refine HDC.out.mono ?_
  rintro e w8 ⟨v8,rfl,ho8,hb8⟩
  have HP8:=lH (HP7.out.below hb8)
  have HB8:=lH (HB7.out.trans (hb8.mono HB7.out.size))
  have HE8:=lH ho8.ensAt
  obtain⟨a8,c8,hv8⟩:=xae ho8.ensAt
  clear hb8 ho8 HP7 HB7 q0 HDC
  by_cases h2:(xbF p.p0.data.toList).2.2=0
  ·have HM:=lH (xcg _ h2).2.1
   have HL:=lH (xl8 p.p0.data.toList)
   generalize xbF p.p0.data.toList=D at *
   obtain⟨l,n8,z8⟩:=D
   dsimp only at h2 HR HE8 HM HL hv8 ⊢
   subst h2
   subst hv8
   have q2:w8.cell? ⟨g9+1,2,none⟩=some (.string p.p2):=by rw[HP8.out.cell];rfl
   have HJN:=lH (xmQ _ l p.p2 w8 HE8.out HM.out HL.out HPZ.out.2.2.1)
   unfold xcV at HJN
   go_wp2_with fail
   refine HJN.out.mono ?_
   rintro e w9 ⟨v9,rfl,he9,hb9⟩
   have HP9:=lH (HP8.out.below hb9)
   have HB9:=lH (HB8.out.trans (hb9.mono HB8.out.size))
   obtain⟨a9,c9,hv9⟩:=xae he9
   have HE9:=lH he9
   clear hb9 he9 HP8 HB8 HE8 q2 HJN HM HL
   generalize xcB l p.p2=J at *
   obtain⟨m,y⟩:=J
   dsimp only at HR HE9 hv9 ⊢
   subst hv9
   by_cases h3:y=0
   ·subst h3
    have HRR:Hid (R=(m,p.p3,0)):=lH (by rw[HR.out,if_neg (by simp),if_neg (by simp),if_neg (by simp)])
    have q3:w9.cell? ⟨g9+1,3,none⟩=some (.string p.p3):=by rw[HP9.out.cell];rfl
    have q3d:w9.drew.cell? ⟨g9+1,3,none⟩=some (.string p.p3):=q3
    go_wp2_with fail
    go_region
    all_goals
     go_wp2_with fail
     refine bodyPost_ret (results_tmp3 rfl _ _ _) rfl ⟨_,by rw[HRR.out];rfl,by rw[HRR.out];exact HE9.out.below (by go_grown),HB9.out.trans (by go_grown)⟩
   ·have e3:(y == 0)=false:=by simpa using h3
    have HRR:Hid (R=([],noB,y)):=lH (by rw[HR.out,if_neg (by simp),if_neg (by simp),if_pos h3])
    go_wp2_with fail
    refine bodyPost_ret (results_tmp3 rfl _ _ _) rfl ⟨_,by rw[HRR.out];rfl,by rw[HRR.out];exact xaL _,HB9.out⟩
  ·have HRR:Hid (R=([],noB,(xbF p.p0.data.toList).2.2)):=lH (by rw[HR.out,if_neg (by simp),if_pos h2])
   generalize (xbF p.p0.data.toList).2.2=z8 at *
   have e2:(z8 == 0)=false:=by simpa using h2
   subst hv8
   clear HR
   go_wp2_with fail
   refine bodyPost_ret (results_tmp3 rfl _ _ _) rfl ⟨_,by rw[HRR.out];rfl,by rw[HRR.out];exact xaL _,HB8.out⟩
 ·have e1:(Ce == 0)=false:=by simpa using h1
  have HRR:Hid (R=([],noB,Ce)):=lH (by rw[HR.out,if_pos h1])
  clear HR
  go_wp2_with fail
  refine bodyPost_ret (results_tmp3 rfl _ _ _) rfl ⟨_,by rw[HRR.out];rfl,by rw[HRR.out];exact xaL _,HB7.out⟩
theorem xfQ (s:ByteArray) (w:World) (hs:s.size≤1000000):Calls Tryz.prog 17 #[.string s] w fun e w'=>∃ s',e=.returned (.tuple #[.agg #[s'],.int .i64 (nvC s).2])∧ChS w' s' (nvC s).1∧Below w.heap.size w w':=by
 have HN:=lH (fun W=>xdb s W hs)
 unfold xgI at HN
 obtain⟨hm,hr⟩:=xg2 s
 obtain⟨R,hR⟩:∃ R,nvC s=R:=⟨_,rfl⟩
 have hd:=xfC s hs
 rw[hR]
 unfold nvC at hR
 generalize nvR s=D at *
 obtain⟨l,d,z⟩:=D
 dsimp only at *
 have HR:=lH hR.symm
 have HM:=lH (And.intro hm hd)
 have O1:=lH (xbn w (.slice none 0 0) 36)
 have B1:=lH (xah w (.cells #[.slice none 0 0] 36))
 clear hm hr hR hd
 go_enter Tryz.func17,Tryz.ntmps17
 generalize hQQ:bodyPost Tryz.prog _ _=QQ
 have HQQ:=lH hQQ
 clear hQQ
 go_wp2_with fail
 generalize w.alloc (.cells #[.slice none 0 0] 36)=W1 at *
 refine(HN.out _).mono ?_
 rintro e w2 ⟨v2,rfl,he2,hb2⟩
 have HE2:=lH he2
 obtain⟨a2,c2,hv2⟩:=xae he2
 have HO2:=lH (O1.out.below hb2)
 have HB2:=lH (B1.out.trans (hb2.mono B1.out.size))
 clear he2 hb2 O1 B1 HN
 subst hv2
 by_cases h1:z=0
 ·subst h1
  have HBK:=lH (xnF _ l d w2 HE2.out HM.out.1 (by have:=HM.out.2;omega))
  have HRR:Hid (R=xcT l d):=lH (by rw[HR.out,if_neg (by simp)])
  rw[← HRR.out] at HBK
  have f2:=HO2.out.frz
  go_wp2_with fail
  refine HBK.out.mono ?_
  rintro e w3 ⟨s3,rfl,hc3,hb3⟩
  obtain⟨a3,n3,p3,rfl⟩:=hc3.form
  have ho3:=HO2.out.below hb3
  have HC3:=lH (And.intro hc3 (And.intro ho3 (HB2.out.trans (hb3.mono HB2.out.size))))
  have k1:=ho3.cell
  have k2:=ho3.frz
  clear hb3 hc3 ho3 HBK f2
  go_wp2_with fail
  rw[← HQQ.out]
  refine bodyPost_ret (xbv rfl _ _ w.heap.size _ _ _ rfl rfl (HC3.out.2.1.set _).cell Tryz.underlying36 rfl xbw) rfl ⟨_,rfl,HC3.out.1.set HC3.out.2.1 _,HC3.out.2.2.setCell (p:=⟨w.heap.size,0,none⟩) (Nat.le_refl _) _⟩
 ·have e1:(z == 0)=false:=by simpa using h1
  have HRR:Hid (R=([],z)):=lH (by rw[HR.out,if_pos h1])
  have k1:=HO2.out.cell
  have k2:=HO2.out.frz
  go_wp2_with fail
  rw[← HQQ.out]
  refine bodyPost_ret (xbv rfl _ _ w.heap.size _ _ _ rfl rfl (HO2.out.set _).cell Tryz.underlying36 rfl xbw) rfl ⟨_,by rw[HRR.out];rfl,by rw[HRR.out];exact⟨xcu _,xfN⟩,HB2.out.setCell (p:=⟨w.heap.size,0,none⟩) (Nat.le_refl _) _⟩
theorem xn1 (e:En) (q:Int) (g:Nat) (w:World) (hm:xaY e) (hc:w.cell? ⟨g,0,none⟩=some (.int .u64 q)):Calls Tryz.prog 60 #[.agg (eC e),.pointer (some ⟨g,0,none⟩)] w fun x w'=>x=.returned (.bool (xic e q))∧Below w.heap.size w w':=by
 have HP:=lH (fun W=>xsH e q W hm)
 have H0:=EAt.made w e 74
 have HB:=lH (xah w (.cells (eC e) 74))
 have hc2:=(HB.out.cell (p:=⟨g,0,none⟩) (xbh hc)).trans hc
 have hlt:=xbh hc
 obtain⟨k0,k1,k2,k3⟩:=H0
 generalize xic e q=b at *
 unfold eC at *
 clear hm hc
 go_enter Tryz.func60,Tryz.ntmps60
 go_wp2_with fail
 generalize w.alloc (.cells #[.int .u64 e.id,.int .u64 e.off,.int .u32 e.ln,.int .u32 e.rn] 74)=W at *
 refine(HP.out _).mono ?_
 rintro x w1 ⟨rfl,hb⟩
 have H1:=lH (HB.out.trans (hb.mono HB.out.size))
 clear hb
 go_wp2_with fail
 go_ret
 exact⟨rfl,H1.out⟩
def xzG (l:List En) (q:Int) (w:World) (x:Ending) (w':World):Prop:=∃ r:Int,x=.returned (.int .i64 r)∧((r=-1∧xh6 l q=none)∨∃ i:Nat,r=i∧i<l.length∧∃ e,l[i]?=some e∧xh6 l q=some e)∧Below w.heap.size w w'
theorem xmE {l:List En} {q:Int} (i:Nat) (e:En) (h:l[i]?=some e):(xh6 (l.take i) q=none→xic e q=false→xh6 (l.take (i+1)) q=none)∧(xh6 (l.take i) q=none→xic e q=true→xh6 l q=some e):=by
 have hd:l=l.take i++e :: l.drop (i+1):=by
  obtain⟨h1,h2⟩:=List.getElem?_eq_some_iff.1 h
  rw[← h2,← List.drop_eq_getElem_cons h1,List.take_append_drop]
 constructor
 ·intro h1 h2
  unfold xh6 at *
  rw[List.take_add_one,h,List.find?_append,h1]
  simp[h2]
 ·intro h1 h2
  unfold xh6 at *
  rw[hd,List.find?_append,h1]
  simp[h2]
theorem xsI (v:Value) (l:List En) (q:Int) (g0:Nat) (w:World) (hv:xaj w v l) (hm:xas l) (hl:l.length≤100000) (hq:w.cell? ⟨g0,0,none⟩=some (.int .u64 q)):Calls Tryz.prog 59 #[v,.func (.func 60) #[] #[.pointer (some ⟨g0,0,none⟩)]] w (xzG l q w):=by
 obtain⟨a,cap,rfl,h1,h2,hc⟩:=hv
 have HC:=lH hc
 have HM0:=lH hm
 have HQ:=lH (fun X (hX:Below w.heap.size w X)=>(hX.cell (p:=⟨g0,0,none⟩) (xbh hq)).trans hq)
 clear hc hm hq
 go_enter Tryz.func59,Tryz.ntmps59
 go_wp2_with fail
 go_loopw [8] (fun s wr=>∃ i:Nat,i≤l.length∧s=.int .i64 i∧Hid (xh6 (l.take i) q=none)∧Below w.heap.size w wr) (fun s _=>l.length - (intOf s).toNat)
 case atStart=>exact⟨0,Nat.zero_le _,rfl,lH rfl,Below.refl _ _⟩
 case round =>
  obtain⟨i,hi,rfl,HM,hbw⟩:=hrel
  by_cases hlt:i<l.length
  ·obtain⟨t,ht⟩:∃ t,l[i]?=some t:=⟨_,List.getElem?_eq_getElem hlt⟩
   obtain⟨g,off,rfl,hg,hcs⟩:=HC.out i t ht
   obtain⟨l0,l1,l2,l3⟩:=xbP hbw hcs
   have hi2:(i:Int)<(l.length:Int):=by omega
   have HT:=lH ht
   have HE:=lH (xn1 t q g0 wr (HM0.out t (List.mem_of_getElem? ht)) (HQ.out _ hbw))
   have HTK:=lH (xmE (q:=q) i t ht)
   clear ht hcs
   obtain⟨b,hb0⟩:∃ b,xic t q=b:=⟨_,rfl⟩
   rw[hb0] at HE HTK
   unfold eC at HE
   cases b with
   | true =>
    go_wp2_with fail
    refine HE.out.mono ?_
    rintro e w1 ⟨rfl,hb⟩
    have hbw1:=hbw.trans (hb.mono hbw.size)
    clear hb hbw l0 l1 l2 l3 HE
    go_wp2_with fail
    go_ret
    exact⟨i,rfl,.inr ⟨i,rfl,hlt,t,HT.out,HTK.out.2 HM.out (by first|rfl|trivial)⟩,hbw1⟩
   | false =>
    go_wp2_with fail
    refine HE.out.mono ?_
    rintro e w1 ⟨rfl,hb⟩
    have hbw1:=hbw.trans (hb.mono hbw.size)
    clear hb hbw l0 l1 l2 l3 HE
    go_wp2_with fail
    go_roundw
    case rel=>exact⟨i+1,by omega,by go_num,lH (HTK.out.1 HM.out (by first|rfl|trivial)),hbw1⟩
    case measure=>simp[intOf];omega
  ·obtain rfl:i=l.length:=by omega
   rw[List.take_length] at HM
   go_wp2_with fail
   go_ret
   exact⟨-1,rfl,.inl ⟨rfl,HM.out⟩,hbw⟩
theorem xk5 (s:ByteArray):(bI s).length=s.size:=by unfold bI;simp
theorem xxX (n:Nat) (W:World) (h:n≤1000100):(Instr.makeSlice 23 (.int .u32 (n:Int)) (.int .u32 (n:Int))).run Tryz.prog W=.ok (.slice (some ⟨W.heap.size,0,none⟩) n n) (W.alloc (.cells (madeCells #[.int .u8 0] n) 5)):=by
 obtain⟨i0,hi⟩:∃ i,Tryz.prog.info? 5=some i:=⟨_,rfl⟩
 have hz:(Tryz.prog.info? 5).map (fun i=>(i.zero,i.size,i.bytes))=some (some (.int .u8 0),1,1):=by kernel_rfl
 rw[hi] at hz
 simp only[Option.map_some,Option.some.injEq,Prod.mk.injEq] at hz
 obtain⟨hz0,hz1,hz2⟩:=hz
 have:=run_make (P:=Tryz.prog) W 23 5 i0 (.int .u8 0) Tryz.underlying23 hi hz0 .u32 .u32 (n:Int) (n:Int) (by omega) (by omega) (by rw[hz2];omega) (by omega)
 simpa[go_sem,hz1] using this
theorem xp2 (w:World) (g n:Nat) (s:ByteArray) (ty:TypeId) (hg:w.heap[g]?=some (.cells (madeCells #[.int .u8 0] n) 5 (0,0))) (hs:s.size=n):(Builtin.copy_ #[23,9] ty #[.slice (some ⟨g,0,none⟩) n n,.string s]).run Tryz.prog w=.ok (.int .i64 (n:Nat)) (w.setRow g (Lib.byteCells s.data.toList).toArray):=by
 have hz:(madeCells #[.int .u8 0] n).size=n:=by simp[madeCells]
 have hz1:(Tryz.prog.info? 5).map (·.size)=some 1:=by kernel_rfl
 have h:=Lib.run_copy_row_string (P:=Tryz.prog) w 23 9 ty 5 g 0 n n s _ 5 Tryz.underlying23 hz1 hg (by omega) (by omega)
 have hd:(madeCells #[.int .u8 0] n).toList.drop (0+s.size)=[]:=List.drop_eq_nil_of_le (by rw[Array.length_toList,hz];omega)
 rw[hd,List.take_zero,List.nil_append,List.append_nil,hs] at h
 exact h
theorem xtj (w:World) (g n:Nat) (s:ByteArray) (T:TypeId) (hg:w.heap[g]?=some (.cells (Lib.byteCells s.data.toList).toArray T (0,0))) (hs:s.size=n) (hn:n≤1000000):(convert 23 9 (.slice (some ⟨g,0,none⟩) n n)).run Tryz.prog w=.ok (.string s) w:=by
 have hlt:=(Array.getElem?_eq_some_iff.1 hg).1
 have h:=xhV w (.slice (some ⟨g,0,none⟩) n n) (bI s) ⟨some ⟨g,0,none⟩,n,by rw[xk5,hs],by rw[xk5,hs];exact Nat.le_refl _,by unfold maxLen;omega,fun _=>⟨⟨g,0,none⟩,rfl,hlt,fun i hi=>?_⟩⟩
 ·rw[h,xqn]
 ·rw[xk5] at hi
  have hi2:i<s.data.toList.length:=by simpa using hi
  have ha:(Addr.mk g 0 none).add i=⟨g,i,none⟩:=by
   unfold Addr.add
   split
   ·rename_i h0;subst h0;rfl
   ·simp
  rw[ha]
  unfold World.cell?
  simp only[hg]
  simp[Lib.byteCells,bI,List.getD_eq_getElem?_getD,hi]
theorem xru (e:En) (d:ByteArray) (w:World) (hm:xaY e) (hck:ckN e=0) (hd:d.size≤1000000):Calls Tryz.prog 61 #[.agg (eC e),.string d] w fun x w'=>x=.returned (.tuple #[.string (xog d (some e)).1,.bool (xog d (some e)).2.1,.int .i64 (xog d (some e)).2.2])∧Below w.heap.size w w':=by
 obtain⟨i,o,n,r⟩:=e
 have h2:n≠0∧o+n≤1099511627776:=by
  unfold ckN at hck
  dsimp only at hck
  split at hck
  ·cases hck
  ·split at hck
   ·cases hck
   ·split at hck
    ·cases hck
    ·omega
 unfold xaY at hm
 dsimp only at hm
 obtain⟨o,rfl⟩:=Int.eq_ofNat_of_zero_le (show 0≤o by omega)
 obtain⟨n,rfl⟩:=Int.eq_ofNat_of_zero_le (show 0≤n by omega)
 have hw1:IntKind.u64.wrap ((o:Int)+(n:Int))=((o+n:Nat):Int):=by rw[IntKind.wrap_u64] <;> omega
 have hw2:IntKind.u64.wrap (d.size:Int)=(d.size:Int):=by rw[IntKind.wrap_u64] <;> omega
 have hw3:IntKind.u64.wrap (n:Int)=(n:Int):=by rw[IntKind.wrap_u64] <;> omega
 unfold eC xog
 dsimp only
 by_cases h1:(d.size:Int)<(o:Int)+(n:Int)
 ·rw[if_pos h1]
  have h1':(d.size:Int)<((o+n:Nat):Int):=by omega
  clear hck hm h2 h1
  go_enter Tryz.func61,Tryz.ntmps61
  go_wp2_with fail
  refine bodyPost_ret (results_tmp3 rfl _ _ _) rfl ⟨rfl,by go_grown⟩
 ·rw[if_neg h1]
  have h1':¬ (d.size:Int)<((o+n:Nat):Int):=by omega
  have h3:o+n≤d.size:=by omega
  have hmk:=fun W=>xxX n W (by omega)
  have hsz:(d.extract o (o+n)).size=n:=by simp only[ByteArray.size_extract];omega
  obtain⟨W1,hW1⟩:∃ W1,w.alloc (.cells #[.int .u64 i,.int .u64 (o:Nat),.int .u32 (n:Nat),.int .u32 r] 74)=W1:=⟨_,rfl⟩
  have hb1:Below w.heap.size w W1:=by rw[← hW1];exact xah _ _
  have hE:=EAt.made w ⟨i,(o:Nat),(n:Nat),r⟩ 74
  unfold eC at hE
  dsimp only at hE
  rw[hW1] at hE
  have hE2:=hE.later (xah W1 (.cells (madeCells #[.int .u8 0] n) 5))
  have hb2:=xah W1 (.cells (madeCells #[.int .u8 0] n) 5)
  have hg2:=xcr W1 (.cells (madeCells #[.int .u8 0] n) 5)
  have hcp:=fun ty=>xp2 _ _ n (d.extract o (o+n)) ty hg2 hsz
  have hst:=xtj _ _ n _ _ (hrow (cs:=(Lib.byteCells (d.extract o (o+n)).data.toList).toArray) hg2 (by simp[madeCells,Lib.byteCells];omega)) hsz (by omega)
  have hb3:=below_setRow (hb1.trans (hb2.mono hb1.size)) hb1.size (Lib.byteCells (d.extract o (o+n)).data.toList).toArray
  generalize (Lib.byteCells (d.extract o (o+n)).data.toList).toArray=bs at hcp hst hb3
  obtain⟨k0,k1,k2,k3⟩:=hE
  obtain⟨j0,j1,j2,j3⟩:=hE2
  dsimp only at k0 k1 k2 k3 j0 j1 j2 j3
  have hi1:(o:Int)≤((o+n:Nat):Int):=by omega
  have hi2:((o+n:Nat):Int)≤(d.size:Int):=by omega
  have HS:=lH hb3
  clear hck hm h1 hb1 hb2 hg2 hb3
  go_enter Tryz.func61,Tryz.ntmps61
  go_wp2_with fail
  try rw[hW1]
  go_wp2_with (first|(at_builtin;refine Lib.wpList_copy_run _ rfl _ _ _ _ rfl _ _ rfl rfl (hcp _) ?_)|fail)
  refine bodyPost_ret (results_tmp3 rfl _ _ _) rfl ⟨rfl,HS.out⟩
theorem xeb (s:ByteArray) (q:Int) (w:World) (hs:s.size≤1000000):Calls Tryz.prog 19 #[.string s,.int .u64 q] w fun x w'=>x=.returned (.tuple #[.string (nvT s q).1,.bool (nvT s q).2.1,.int .i64 (nvT s q).2.2])∧Below w.heap.size w w':=by
 have HN:=lH (fun W=>xdb s W hs)
 unfold xgI at HN
 obtain⟨hm,hr⟩:=xg2 s
 have hl:=xk0 s
 have hd:=xfC s hs
 obtain⟨R,hR⟩:∃ R,nvT s q=R:=⟨_,rfl⟩
 rw[hR]
 unfold nvT at hR
 generalize nvR s=D at *
 obtain⟨l,d,z⟩:=D
 dsimp only at *
 have HR:=lH hR.symm
 have HM:=lH (And.intro hm (And.intro (xo5 hm hr) (And.intro hl hd)))
 have O1:=lH (xbn w (.int .u64 q) 26)
 have B1:=lH (xah w (.cells #[.int .u64 q] 26))
 clear hm hr hR hd hl
 go_enter Tryz.func19,Tryz.ntmps19
 go_wp2_with fail
 generalize w.alloc (.cells #[.int .u64 q] 26)=W1 at *
 refine(HN.out _).mono ?_
 rintro e w2 ⟨v2,rfl,he2,hb2⟩
 have HE2:=lH he2
 obtain⟨a2,c2,hv2⟩:=xae he2
 have HO2:=lH (O1.out.below hb2)
 have HB2:=lH (B1.out.trans (hb2.mono B1.out.size))
 clear he2 hb2 O1 B1 HN
 subst hv2
 by_cases h1:z=0
 ·subst h1
  have HRR:Hid (R=xog d (xh6 l q)):=lH (by rw[HR.out,if_neg (by simp)])
  have HI:=lH (xsI _ l q w.heap.size w2 HE2.out HM.out.1 (by have:=HM.out.2.2.1;omega) HO2.out.cell)
  unfold xzG at HI
  have hmf:∀ (fn:Fn) (first cap:Array Value) (w:World),(Instr.makeFunc fn first cap).run Tryz.prog w=.ok (.func fn first cap) w:=fun _ _ _ _=>rfl
  go_wp2_with fail
  refine HI.out.mono ?_
  rintro e w3 ⟨r,rfl,hr,hb3⟩
  have HB3:=lH (HB2.out.trans (hb3.mono HB2.out.size))
  have HE3:=lH (HE2.out.below hb3)
  clear hb3 HI
  rcases hr with ⟨rfl,hf⟩|⟨i,rfl,hi,e,he,hf⟩
  ·have HR2:Hid (R=(noB,false,0)):=lH (by rw[HRR.out,hf];rfl)
   clear hf
   go_wp2_with fail
   refine bodyPost_ret (results_tmp3 rfl _ _ _) rfl ⟨by rw[HR2.out];rfl,HB3.out⟩
  ·have hR2:R=xog d (some e):=by rw[HRR.out,hf]
   have hme:=List.mem_of_getElem? he
   have HC:=lH (fun W=>xru e d W (HM.out.1 e hme) (HM.out.2.1 e hme) HM.out.2.2.2)
   rw[← hR2] at HC
   obtain⟨a',c',hav,_,_,hcc⟩:=HE3.out
   obtain⟨g,off,rfl,hg,k0,k1,k2,k3⟩:=hcc i e he
   cases hav
   have hi2:(i:Int)<(l.length:Int):=by omega
   unfold eC at HC
   clear hf hR2 hme he hcc HRR HR
   go_wp2_with fail
   refine(HC.out _).mono ?_
   rintro x w4 ⟨rfl,hb4⟩
   have HB4:=lH (HB3.out.trans (hb4.mono HB3.out.size))
   clear hb4
   go_wp2_with fail
   refine bodyPost_ret (results_tmp3 rfl _ _ _) rfl ⟨rfl,HB4.out⟩
 ·have e1:(z == 0)=false:=by simpa using h1
  have HRR:Hid (R=(noB,false,z)):=lH (by rw[HR.out,if_pos h1])
  go_wp2_with fail
  refine bodyPost_ret (results_tmp3 rfl _ _ _) rfl ⟨by rw[HRR.out];rfl,HB2.out⟩
structure TwoK (w:World) (Z A:Array Value) (T:TypeId) (Z2 A2:Array Value) (T2:TypeId):Prop where
 s1:((w.alloc (.cells Z T)).alloc (.cells Z2 T2)).heap[w.heap.size]?=some (.cells Z T (0,0))
 s2:(((w.alloc (.cells Z T)).alloc (.cells Z2 T2)).setRow w.heap.size A).heap[w.heap.size+1]?=some (.cells Z2 T2 (0,0))
 e1:((((w.alloc (.cells Z T)).alloc (.cells Z2 T2)).setRow w.heap.size A).setRow (w.heap.size+1) A2).heap[w.heap.size]?=some (.cells A T (0,0))
 e2:((((w.alloc (.cells Z T)).alloc (.cells Z2 T2)).setRow w.heap.size A).setRow (w.heap.size+1) A2).heap[w.heap.size+1]?=some (.cells A2 T2 (0,0))
 e3:Below w.heap.size w ((((w.alloc (.cells Z T)).alloc (.cells Z2 T2)).setRow w.heap.size A).setRow (w.heap.size+1) A2)
theorem xwb (w:World) (Z A:Array Value) (T:TypeId) (Z2 A2:Array Value) (T2:TypeId) (hz:Z.size=A.size) (hz2:Z2.size=A2.size):TwoK w Z A T Z2 A2 T2:=by
 have h1:((w.alloc (.cells Z T)).alloc (.cells Z2 T2)).heap[w.heap.size]?=some (.cells Z T (0,0)):=(xac (by simp)).trans (xa2 w _)
 have h2:((w.alloc (.cells Z T)).alloc (.cells Z2 T2)).heap[w.heap.size+1]?=some (.cells Z2 T2 (0,0)):=by
  have:=xa2 (w.alloc (.cells Z T)) (.cells Z2 T2)
  rw[World.size_alloc] at this
  exact this
 have hb:Below w.heap.size w ((w.alloc (.cells Z T)).alloc (.cells Z2 T2)):=((Below.refl _ w).alloc (Nat.le_refl _) _).alloc (by simp) _
 have key:∀ W:World,W.heap[w.heap.size]?=some (.cells Z T (0,0))→W.heap[w.heap.size+1]?=some (.cells Z2 T2 (0,0))→Below w.heap.size w W →
   (W.setRow w.heap.size A).heap[w.heap.size+1]?=some (.cells Z2 T2 (0,0))∧((W.setRow w.heap.size A).setRow (w.heap.size+1) A2).heap[w.heap.size]?=some (.cells A T (0,0))∧((W.setRow w.heap.size A).setRow (w.heap.size+1) A2).heap[w.heap.size+1]?=some (.cells A2 T2 (0,0)) ∧
   Below w.heap.size w ((W.setRow w.heap.size A).setRow (w.heap.size+1) A2):=fun W h1 h2 hb=>by
  have h3:=hrow h1 hz
  have g2:(W.setRow w.heap.size A).heap[w.heap.size+1]?=some (.cells Z2 T2 (0,0)):=(setRow_other _ _ _ _ (by omega)).trans h2
  exact⟨g2,(setRow_other _ _ _ _ (by omega)).trans h3,hrow g2 hz2,below_setRow (below_setRow hb (Nat.le_refl _) _) (by omega) _⟩
 obtain⟨k1,k2,k3,k4⟩:=key _ h1 h2 hb
 exact⟨h1,k1,k2,k3,k4⟩
theorem xe1 (s:ByteArray) (w:World) (hs:s.size≤1000000):Calls Tryz.prog 16 #[.string s] w (xgI s w):=by
 unfold xgI
 have HCT:=lH (xna s w hs)
 unfold xg3 at HCT
 have hpz:=xiu s hs
 obtain⟨R,hR⟩:∃ R,nvR s=R:=⟨_,rfl⟩
 rw[hR]
 unfold nvR nvD at hR
 generalize xa7 s=C at *
 obtain⟨X,p,Ce⟩:=C
 dsimp only at HCT hR hpz
 have HR:=lH hR.symm
 have HPZ:=lH hpz
 clear hR hpz
 go_enter Tryz.func16,Tryz.ntmps16
 go_wp2_with fail
 refine HCT.out.mono ?_
 rintro e w6 ⟨rfl,hb6⟩
 have HB6:=lH hb6
 clear hb6 HCT
 have TW:=xwb w6 (cH xaa) (cH X) 103 (xfg xhs) (xfg p) 125 rfl rfl
 have hz1:cH xaa=Z24:=rfl
 have hz2:xfg xhs=P4:=rfl
 rw[hz1,hz2] at TW
 clear hz1 hz2
 have HSX:Hid ((Tryz.prog.info? 103).map (·.size)=some (cH X).size∧24=(cH X).size∧(cH X).all (·.oneCell')=true):=lH ⟨xbI,rfl,xcl X⟩
 have HSP:Hid ((Tryz.prog.info? 125).map (·.size)=some (xfg p).size∧4=(xfg p).size∧(xfg p).all (·.oneCell')=true):=lH ⟨xhj,rfl,by simp[xfg,Value.oneCell']⟩
 obtain⟨Hc,hHc⟩:∃ Hc,cH X=Hc:=⟨_,rfl⟩
 obtain⟨P,hPc⟩:∃ P,xfg p=P:=⟨_,rfl⟩
 rw[hHc,hPc] at TW ⊢
 rw[hHc] at HSX
 rw[hPc] at HSP
 have HPc:=lH hPc
 clear hHc hPc
 unfold Z24 P4 at TW
 have HTW:=lH TW
 clear TW
 go_upto_region 2 with (first|(refine wpList_store_row rfl 103 _ _ rfl w6.heap.size Hc rfl rfl 103 _ HTW.out.s1 HSX.out.1 HSX.out.2.1 HSX.out.2.2 ?_)|(refine wpList_store_row rfl 125 _ _ rfl (w6.heap.size+1) P rfl rfl 125 _ HTW.out.s2 HSP.out.1 HSP.out.2.1 HSP.out.2.2 ?_)|fail)
 have HP:=HTW.out.e2
 have HBW:=lH (HB6.out.trans (HTW.out.e3.mono HB6.out.size))
 clear HTW HSX HSP
 generalize (((w6.alloc (.cells #[.int .u64 0,.int .u64 0,.int .u64 0,.int .u64 0,.int .u64 0,.int .u64 0,.int .u64 0,.int .u64 0,.int .u64 0,.int .u64 0,.int .u64 0,.bool false,.int .u8 0,.int .u8 0,.int .u8 0,.int .i64 0,.int .i64 0,.int .i64 0,.int .i64 0,.int .i64 0,.int .i64 0,.int .i64 0,.int .i64 0,.int .i64 0] 103)).alloc (.cells #[.string { data:=#[] },.string { data:=#[] },.string { data:=#[] },.string { data:=#[] }] 125)).setRow w6.heap.size Hc).setRow (w6.heap.size+1) P=w7 at *
 rw[← HPc.out] at HP
 have HP7:Hid (Box w7 (w6.heap.size+1) (xfg p)):=lH ⟨_,HP⟩
 have HB7:Hid (Below w.heap.size w w7):=HBW
 clear HP HPc HBW HB6
 generalize w6.heap.size=g9 at *
 by_cases h1:Ce=0
 ·subst h1
  have q0:w7.cell? ⟨g9+1,0,none⟩=some (.string p.p0):=by rw[HP7.out.cell];rfl
  have HDC:=lH (xj0 p.p0 w7 (by have:=HPZ.out.1;unfold maxLen;omega))
  unfold xeo at HDC
  go_wp2_with fail
  refine HDC.out.mono ?_
  rintro e w8 ⟨v8,rfl,ho8,hb8⟩
  have HP8:=lH (HP7.out.below hb8)
  have HB8:=lH (HB7.out.trans (hb8.mono HB7.out.size))
  have HE8:=lH ho8.ensAt
  obtain⟨a8,c8,hv8⟩:=xae ho8.ensAt
  clear hb8 ho8 HP7 HB7 q0 HDC
  by_cases h2:(xbF p.p0.data.toList).2.2=0
  ·have HM:=lH (xcg _ h2).2.1
   have HL:=lH (xl8 p.p0.data.toList)
   generalize xbF p.p0.data.toList=D at *
   obtain⟨l,n8,z8⟩:=D
   dsimp only at h2 HR HE8 HM HL hv8 ⊢
   subst h2
   subst hv8
   have q2:w8.cell? ⟨g9+1,2,none⟩=some (.string p.p2):=by rw[HP8.out.cell];rfl
   have HJN:=lH (xrn _ l p.p2 w8 HE8.out HM.out HL.out HPZ.out.2.2.1)
   unfold xcV at HJN
   go_wp2_with fail
   refine HJN.out.mono ?_
   rintro e w9 ⟨v9,rfl,he9,hb9⟩
   have HP9:=lH (HP8.out.below hb9)
   have HB9:=lH (HB8.out.trans (hb9.mono HB8.out.size))
   obtain⟨a9,c9,hv9⟩:=xae he9
   have HE9:=lH he9
   clear hb9 he9 HP8 HB8 HE8 q2 HJN HM HL
   generalize xcB l p.p2=J at *
   obtain⟨m,y⟩:=J
   dsimp only at HR HE9 hv9 ⊢
   subst hv9
   by_cases h3:y=0
   ·subst h3
    have HRR:Hid (R=(m,p.p3,0)):=lH (by rw[HR.out,if_neg (by simp),if_neg (by simp),if_neg (by simp)])
    have q3:w9.cell? ⟨g9+1,3,none⟩=some (.string p.p3):=by rw[HP9.out.cell];rfl
    have q3d:w9.drew.cell? ⟨g9+1,3,none⟩=some (.string p.p3):=q3
    go_wp2_with fail
    go_region
    all_goals
     go_wp2_with fail
     refine bodyPost_ret (results_tmp3 rfl _ _ _) rfl ⟨_,by rw[HRR.out];rfl,by rw[HRR.out];exact HE9.out.below (by go_grown),HB9.out.trans (by go_grown)⟩
   ·have e3:(y == 0)=false:=by simpa using h3
    have HRR:Hid (R=([],noB,y)):=lH (by rw[HR.out,if_neg (by simp),if_neg (by simp),if_pos h3])
    go_wp2_with fail
    refine bodyPost_ret (results_tmp3 rfl _ _ _) rfl ⟨_,by rw[HRR.out];rfl,by rw[HRR.out];exact xaL _,HB9.out⟩
  ·have HRR:Hid (R=([],noB,(xbF p.p0.data.toList).2.2)):=lH (by rw[HR.out,if_neg (by simp),if_pos h2])
   generalize (xbF p.p0.data.toList).2.2=z8 at *
   have e2:(z8 == 0)=false:=by simpa using h2
   subst hv8
   clear HR
   go_wp2_with fail
   refine bodyPost_ret (results_tmp3 rfl _ _ _) rfl ⟨_,by rw[HRR.out];rfl,by rw[HRR.out];exact xaL _,HB8.out⟩
 ·have e1:(Ce == 0)=false:=by simpa using h1
  have HRR:Hid (R=([],noB,Ce)):=lH (by rw[HR.out,if_pos h1])
  clear HR
  go_wp2_with fail
  refine bodyPost_ret (results_tmp3 rfl _ _ _) rfl ⟨_,by rw[HRR.out];rfl,by rw[HRR.out];exact xaL _,HB7.out⟩
theorem xm1 (s:ByteArray) (w:World) (hs:s.size≤1000000):Calls Tryz.prog 18 #[.string s] w fun e w'=>∃ v',e=.returned (.tuple #[v',.int .i64 (nvC s).2])∧ItsAt w' v' (nvC s).1∧Below w.heap.size w w':=by
 have HN:=lH (fun W=>xe1 s W hs)
 unfold xgI at HN
 obtain⟨hm,hr⟩:=xg2 s
 obtain⟨R,hR⟩:∃ R,nvC s=R:=⟨_,rfl⟩
 have hd:=xfC s hs
 rw[hR]
 unfold nvC at hR
 generalize nvR s=D at *
 obtain⟨l,d,z⟩:=D
 dsimp only at *
 have HR:=lH hR.symm
 have HM:=lH (And.intro hm hd)
 clear hm hr hR hd
 go_enter Tryz.func18,Tryz.ntmps18
 go_wp2_with fail
 refine(HN.out _).mono ?_
 rintro e w2 ⟨v2,rfl,he2,hb2⟩
 have HE2:=lH he2
 obtain⟨a2,c2,hv2⟩:=xae he2
 have HB2:=lH hb2
 clear he2 hb2 HN
 subst hv2
 by_cases h1:z=0
 ·subst h1
  have HBK:=lH (xkr _ l d w2 HE2.out HM.out.1 HM.out.2)
  unfold xhU at HBK
  have HRR:Hid (R=xcT l d):=lH (by rw[HR.out,if_neg (by simp)])
  rw[← HRR.out] at HBK
  go_wp2_with fail
  refine HBK.out.mono ?_
  rintro e w3 ⟨v3,rfl,hc3,hb3⟩
  have HC3:=lH (And.intro hc3 (HB2.out.trans (hb3.mono HB2.out.size)))
  clear hb3 hc3 HBK
  go_wp2_with fail
  refine bodyPost_ret (results_tmp2 rfl _ _ _) rfl ⟨_,rfl,HC3.out.1,HC3.out.2⟩
 ·have e1:(z == 0)=false:=by simpa using h1
  have HRR:Hid (R=([],z)):=lH (by rw[HR.out,if_pos h1])
  go_wp2_with fail
  refine bodyPost_ret (results_tmp2 rfl _ _ _) rfl ⟨_,by rw[HRR.out];rfl,by rw[HRR.out];exact xcu _,HB2.out⟩
theorem xnU (s:ByteArray) (q:Int) (w:World) (hs:s.size≤1000000):Calls Tryz.prog 20 #[.string s,.int .u64 q] w fun x w'=>x=.returned (.tuple #[.string (nvT s q).1,.bool (nvT s q).2.1,.int .i64 (nvT s q).2.2])∧Below w.heap.size w w':=by
 have HN:=lH (fun W=>xe1 s W hs)
 unfold xgI at HN
 obtain⟨hm,hr⟩:=xg2 s
 have hl:=xk0 s
 have hd:=xfC s hs
 obtain⟨R,hR⟩:∃ R,nvT s q=R:=⟨_,rfl⟩
 rw[hR]
 unfold nvT at hR
 generalize nvR s=D at *
 obtain⟨l,d,z⟩:=D
 dsimp only at *
 have HR:=lH hR.symm
 have HM:=lH (And.intro hm (And.intro (xo5 hm hr) (And.intro hl hd)))
 clear hm hr hR hd hl
 go_enter Tryz.func20,Tryz.ntmps20
 go_wp2_with fail
 refine(HN.out _).mono ?_
 rintro e w2 ⟨v2,rfl,he2,hb2⟩
 have HE2:=lH he2
 obtain⟨a2,c2,hv2⟩:=xae he2
 have HB2:=lH hb2
 clear he2 hb2 HN
 subst hv2
 by_cases h1:z=0
 ·subst h1
  have HRR:Hid (R=xog d (xh6 l q)):=lH (by rw[HR.out,if_neg (by simp)])
  have hl2:(l.length:Int)≤4096:=by have:=HM.out.2.2.1;omega
  go_wp2_with fail
  go_loopw [10] (fun x wr=>∃ i:Nat,i≤l.length∧x=.int .i64 i∧Hid (xh6 (l.take i) q=none)∧Hid (Below w.heap.size w wr)∧Hid (Below w2.heap.size w2 wr)) (fun x _=>l.length - (intOf x).toNat)
  case atStart=>exact⟨0,Nat.zero_le _,rfl,lH rfl,HB2,lH (Below.refl _ _)⟩
  case round =>
   obtain⟨i,hi,rfl,HF,HBW,HBX⟩:=hrel
   by_cases hlt:i<l.length
   ·obtain⟨e,he⟩:∃ t,l[i]?=some t:=⟨_,List.getElem?_eq_getElem hlt⟩
    have hme:=List.mem_of_getElem? he
    obtain⟨a',c',hav,_,_,hcc⟩:=HE2.out.below HBX.out
    obtain⟨g,off,rfl,hg,k0,k1,k2,k3⟩:=hcc i e he
    cases hav
    have hi2:(i:Int)<(l.length:Int):=by omega
    have HH:=lH (xt0 e q wr (HM.out.1 e hme))
    have HTK:=lH (xmE (q:=q) i e he)
    have HE:=lH (And.intro (HM.out.1 e hme) (HM.out.2.1 e hme))
    have HCC:=lH (fun X (hX:Below wr.heap.size wr X)=>And.intro ((hX.cell (p:=⟨g,off+i*4+1,none⟩) hg).trans k1) ((hX.cell (p:=⟨g,off+i*4+2,none⟩) hg).trans k2))
    obtain⟨b,hb0⟩:∃ b,xic e q=b:=⟨_,rfl⟩
    rw[hb0] at HH HTK
    unfold eC at HH
    clear he hme hcc hg
    cases b with
    | false =>
     go_wp2_with fail
     refine HH.out.mono ?_
     rintro x w3 ⟨rfl,hb3⟩
     have HB3:=lH (HBW.out.trans (hb3.mono HBW.out.size))
     have HX3:=lH (HBX.out.trans (hb3.mono HBX.out.size))
     clear hb3 k0 k1 k2 k3 HH HCC
     go_wp2_with fail
     go_roundw
     case rel=>exact⟨i+1,by omega,by go_num,lH (HTK.out.1 HF.out (by first|rfl|trivial)),HB3,HX3⟩
     case measure=>simp[intOf];omega
    | true =>
     have hR2:R=xog d (some e):=by rw[HRR.out,HTK.out.2 HF.out (by first|rfl|trivial)]
     obtain⟨i0,o,n,r⟩:=e
     have h2:n≠0∧o+n≤1099511627776:=by
      have hck:=HE.out.2
      unfold ckN at hck
      dsimp only at hck
      split at hck
      ·cases hck
      ·split at hck
       ·cases hck
       ·split at hck
        ·cases hck
        ·omega
     have hm:=HE.out.1
     unfold xaY at hm
     dsimp only at hm
     have hd3:=HM.out.2.2.2
     obtain⟨o,rfl⟩:=Int.eq_ofNat_of_zero_le (show 0≤o by omega)
     obtain⟨n,rfl⟩:=Int.eq_ofNat_of_zero_le (show 0≤n by omega)
     have hw1:IntKind.u64.wrap ((o:Int)+(n:Int))=((o+n:Nat):Int):=by rw[IntKind.wrap_u64] <;> omega
     have hw2:IntKind.u64.wrap (d.size:Int)=(d.size:Int):=by rw[IntKind.wrap_u64] <;> omega
     have hw3:IntKind.u64.wrap (n:Int)=(n:Int):=by rw[IntKind.wrap_u64] <;> omega
     unfold xog at hR2
     dsimp only at hR2 HH HCC k0 k1 k2 k3
     have HR2:=lH hR2
     clear hR2 hm h2 HE HR HRR
     go_wp2_with fail
     refine HH.out.mono ?_
     rintro x w3 ⟨rfl,hb3⟩
     have HB3:=lH (HBW.out.trans (hb3.mono HBW.out.size))
     obtain⟨j1,j2⟩:=HCC.out _ hb3
     clear hb3 k0 k1 k2 k3 HH HCC
     by_cases h1:(d.size:Int)<(o:Int)+(n:Int)
     ·have HR3:Hid (R=(noB,false,8)):=lH (by rw[HR2.out,if_pos h1])
      have h1':(d.size:Int)<((o+n:Nat):Int):=by omega
      clear h1 HR2
      go_wp2_with fail
      go_region
      all_goals
       go_wp2_with fail
       refine bodyPost_ret (results_tmp3 rfl _ _ _) rfl ⟨by rw[HR3.out];rfl,HB3.out.trans (by go_grown)⟩
     ·have HR3:Hid (R=(d.extract o (o+n),true,0)):=lH (by rw[HR2.out,if_neg h1];rfl)
      have h1':¬ (d.size:Int)<((o+n:Nat):Int):=by omega
      have hi3:(o:Int)≤((o+n:Nat):Int):=by omega
      have hi4:((o+n:Nat):Int)≤(d.size:Int):=by omega
      clear h1 HR2
      go_wp2_with fail
      go_region
      all_goals
       go_wp2_with fail
       refine bodyPost_ret (results_tmp3 rfl _ _ _) rfl ⟨by rw[HR3.out];rfl,HB3.out.trans (by go_grown)⟩
   ·obtain rfl:i=l.length:=by omega
    have hf:=HF.out
    rw[List.take_length] at hf
    have HR3:Hid (R=(noB,false,0)):=lH (by rw[HRR.out,hf];rfl)
    go_wp2_with fail
    refine bodyPost_ret (results_tmp3 rfl _ _ _) rfl ⟨by rw[HR3.out];rfl,HBW.out⟩
 ·have e1:(z == 0)=false:=by simpa using h1
  have HRR:Hid (R=(noB,false,z)):=lH (by rw[HR.out,if_pos h1])
  go_wp2_with fail
  refine bodyPost_ret (results_tmp3 rfl _ _ _) rfl ⟨by rw[HRR.out];rfl,HB2.out⟩
theorem xnH (a:Option Addr) (c:Nat) (e:En) (f:Value) (w:World):Calls Tryz.prog 131 #[.slice a 0 c,.agg (eC e),f] w fun x w'=>x=.returned (.bool false)∧Below w.heap.size w w':=by
 unfold eC
 go_enter Tryz.func131,Tryz.ntmps131
 go_upto_region 2 with fail
 go_quiet (fail)
 go_wp2_with fail
 go_ret
 exact⟨rfl,xdH ((Below.refl _ _).alloc (Nat.le_refl _) _) _⟩
theorem xmX (e:En) (w:World) (h:e.rn≠0):Calls Tryz.prog 202 #[.agg (eC e)] w fun x w'=>x=.returned (.bool false)∧Below w.heap.size w w':=by
 have h1:(e.rn == 0)=false:=by simpa using h
 unfold eC
 go_enter Tryz.func202,Tryz.ntmps202
 go_wp2_with fail
 go_ret
 exact⟨rfl,by go_grown⟩
theorem xph (e:En) (g off cap:Nat) (w:World) (h:e.rn≠0) (hc:w.cell? ⟨g,off,none⟩=some (.int .u64 e.id)∧w.cell? ⟨g,off+1,none⟩=some (.int .u64 e.off)∧w.cell? ⟨g,off+2,none⟩=some (.int .u32 e.ln)∧w.cell? ⟨g,off+3,none⟩=some (.int .u32 e.rn)) :
  Calls Tryz.prog 59 #[.slice (some ⟨g,off,none⟩) 1 cap,.func (.func 202) #[] #[]] w fun x w'=>x=.returned (.int .i64 (-1))∧Below w.heap.size w w':=by
 have HP:=lH (fun W=>xmX e W h)
 obtain⟨c0,c1,c2,c3⟩:=hc
 unfold eC at HP
 go_enter Tryz.func59,Tryz.ntmps59
 go_wp2_with fail
 refine wp_loop_rounds 2 ?_
 rw[rounds_succ]
 go_wp2_with fail
 refine(HP.out _).mono ?_
 rintro x w1 ⟨rfl,hb⟩
 have HB:=lH hb
 clear hb c0 c1 c2 c3
 go_wp2_with fail
 rw[rounds_succ]
 go_wp2_with fail
 go_ret
 exact⟨rfl,HB.out⟩
theorem xn3 (e:En) (g off cap:Nat) (w:World) (h:e.rn≠0) (hc:w.cell? ⟨g,off,none⟩=some (.int .u64 e.id)∧w.cell? ⟨g,off+1,none⟩=some (.int .u64 e.off)∧w.cell? ⟨g,off+2,none⟩=some (.int .u32 e.ln)∧w.cell? ⟨g,off+3,none⟩=some (.int .u32 e.rn)) :
  Calls Tryz.prog 172 #[.slice (some ⟨g,off,none⟩) 1 cap,.func (.func 202) #[] #[]] w fun x w'=>x=.returned (.bool false)∧Below w.heap.size w w':=by
 have HX:=lH (xph e g off cap w h hc)
 clear hc
 go_enter Tryz.func172,Tryz.ntmps172
 go_wp2_with fail
 refine HX.out.mono ?_
 rintro x w1 ⟨rfl,hb⟩
 have HB:=lH hb
 clear hb HX
 go_wp2_with fail
 go_ret
 exact⟨rfl,HB.out⟩
theorem xkH (e:En) (v:Value) (b:Int) (w:World) (hv:xaj w v [e]) (hm:xaY e) (hr:xa5 [e]=0) (h:e.rn≠0) (b0:1≤b) (b1:b≤16257) :
  Calls Tryz.prog 134 #[v,.int .i64 b] w fun x w'=>x=.returned (.int .i64 0)∧Below w.heap.size w w':=by
 have HR:=lH (xcR v [e] w hv (fun x hx=>by rw[List.mem_singleton.1 hx];exact hm))
 rw[hr] at HR
 obtain⟨g,off,cap,rfl,-,-,hc⟩:=xdA hv 0 (by simp)
 have HL:=lH (fun X (hX:Below w.heap.size w X)=>xn3 e g off cap X h (by have:=xbP hX (hc 0 e rfl);simpa using this))
 have e1:decide (b<1)=false:=by simp;omega
 have e2:decide (16257<b)=false:=by simp;omega
 clear hc hv hm hr
 simp only[List.length_cons,List.length_nil,Nat.zero_add] at HR ⊢
 go_enter Tryz.func134,Tryz.ntmps134
 go_wp2_with fail
 refine HR.out.mono ?_
 rintro x w1 ⟨rfl,hb⟩
 have HB:=lH hb
 clear hb HR
 go_wp2_with fail
 refine(HL.out _ HB.out).mono ?_
 rintro x w2 ⟨rfl,hb⟩
 have HB2:=lH (HB.out.trans (hb.mono HB.out.size))
 clear hb HB HL
 go_wp2_with fail
 go_ret
 exact⟨rfl,HB2.out⟩
theorem xny (e:En) (v:Value) (b:Int) (w:World) (hv:xaj w v [e]) (hm:xaY e) (hr:xa5 [e]=0) (h:e.rn≠0) (b0:1≤b) (b1:b≤16257) (hs:xs5 [e]≤b) :
  Calls Tryz.prog 68 #[v,.int .i64 b] w fun x w'=>∃ v',x=.returned (.tuple #[v',.string { data:=#[] },.int .i64 0,.int .i64 0])∧xaj w' v' [e]∧Below w.heap.size w w':=by
 have HC:=lH (xkH e v b w hv hm hr h b0 b1)
 have HS:=lH (fun X (hX:Below w.heap.size w X)=>xpo v [e] X (hv.below hX) (fun x hx=>by rw[List.mem_singleton.1 hx];exact hm) (by simp))
 have HK:=lH (fun X (hX:Below w.heap.size w X)=>xnM v [e] X (hv.below hX) (by simp))
 unfold xhi at HK
 obtain⟨av,cv,rfl⟩:=xae hv
 generalize xs5 [e]=z at *
 have e1:decide (z≤b)=true:=decide_eq_true hs
 clear hv hm hr h b0 b1 hs
 simp only[List.length_cons,List.length_nil,Nat.zero_add] at HC HS HK ⊢
 go_enter Tryz.func68,Tryz.ntmps68
 go_wp2_with fail
 go_step3
 go_wp2_with fail
 refine HC.out.mono ?_
 rintro x w1 ⟨rfl,hb⟩
 have HB:=lH hb
 clear hb HC
 go_wp2_with fail
 refine(HS.out _ HB.out).mono ?_
 rintro x w2 ⟨rfl,hb⟩
 have HB2:=lH (HB.out.trans (hb.mono HB.out.size))
 clear hb HB HS
 go_wp2_with fail
 refine(HK.out _ HB2.out).mono ?_
 rintro x w3 ⟨v',rfl,hv',-,hb⟩
 have HB3:=lH (HB2.out.trans (hb.mono HB2.out.size))
 have HV:=lH hv'
 obtain⟨a3,c3,rfl⟩:=xae hv'
 clear hb HB2 HK hv'
 go_wp2_with fail
 try rw[Exit.noGoto_ret]
 exact bodyPost_ret (xjM rfl _ _ _) rfl ⟨_,rfl,HV.out,HB3.out⟩
def P0 (W:World) (g:Nat) (a b:Value):Prop:=∃ T,W.heap[g]?=some (.cells #[a,b] T (0,0))
theorem P0.lt {W:World} {g:Nat} {a b:Value} (h:P0 W g a b):g<W.heap.size:=by
 obtain⟨T,h⟩:=h
 exact(Array.getElem?_eq_some_iff.1 h).1
theorem P0.below {W X:World} {g:Nat} {a b:Value} (h:P0 W g a b) (hb:Below W.heap.size W X):P0 X g a b:=by
 obtain⟨T,hh⟩:=h
 exact⟨T,(hb.block g (P0.lt ⟨T,hh⟩)).trans hh⟩
theorem P0.cells {W:World} {g:Nat} {a b:Value} (h:P0 W g a b):W.cell? ⟨g,0,none⟩=some a∧W.cell? ⟨g,1,none⟩=some b∧W.frozen? ⟨g,0,none⟩=false∧W.frozen? ⟨g,1,none⟩=false:=by
 obtain⟨T,h⟩:=h
 refine⟨by simp[World.cell?,h],by simp[World.cell?,h],by simp[World.frozen?,h],by simp[World.frozen?,h]⟩
theorem P0.set0 {W:World} {g:Nat} {a b:Value} (h:P0 W g a b) (x:Value):P0 (W.setCell ⟨g,0,none⟩ x) g x b:=by
 obtain⟨T,h⟩:=h
 exact⟨T,by simp[World.setCell,Array.getElem?_modify,h]⟩
theorem P0.set1 {W:World} {g:Nat} {a b:Value} (h:P0 W g a b) (x:Value):P0 (W.setCell ⟨g,1,none⟩ x) g a x:=by
 obtain⟨T,h⟩:=h
 exact⟨T,by simp[World.setCell,Array.getElem?_modify,h]⟩
theorem xuf (w:World):Calls Tryz.prog 128 #[] w fun e w'=>∃ g,e=.returned (.pointer (some ⟨g,0,none⟩))∧w.heap.size≤g∧P0 w' g (.slice none 0 0) (.map none)∧Below w.heap.size w w':=by
 go_enter Tryz.func128,Tryz.ntmps128
 go_wp2_with fail
 go_ret
 exact⟨_,rfl,by simp,⟨_,xcr _ _⟩,by go_grown⟩
theorem xsx (f:Value) (w:World):Calls Tryz.prog 272 #[.slice none 0 0,f] w fun e w'=>e=.returned (.int .i64 (-1))∧w=w':=by
 go_enter Tryz.func272,Tryz.ntmps272
 go_wp2_with fail
 refine wp_loop_rounds 1 ?_
 rw[rounds_succ]
 go_wp2_with fail
 go_ret
 exact⟨rfl,rfl⟩
theorem xtD (g:Nat) (m:Value) (w:World) (h:P0 w g (.slice none 0 0) m):Calls Tryz.prog 209 #[.pointer (some ⟨g,0,none⟩)] w fun e w'=>e=.returned (.int .u64 0)∧Below w.heap.size w w':=by
 obtain⟨c0,c1,f0,f1⟩:=h.cells
 go_enter Tryz.func209,Tryz.ntmps209
 go_wp2_with fail
 go_ret
 exact⟨rfl,by go_grown⟩
theorem xqE (g:Nat) (a:Value) (k:Int) (hk:(Lit.int .i64 k).wf=true) (s:ByteArray) (w:World) (h:P0 w g a (.map none)):Calls Tryz.prog 207 #[.pointer (some ⟨g,0,none⟩),.int .i64 k,.string s] w fun e w'=>e=.returned (.tuple #[.agg #[.int .u64 0,.int .u32 0],.bool false])∧Below w.heap.size w w':=by
 obtain⟨c0,c1,f0,f1⟩:=h.cells
 have hlt:=h.lt
 have hlk:=fun W=>xi5 W k hk
 unfold xoi at hlk
 have hmf:∀ (fn:Fn) (first cap:Array Value) (w:World),(Instr.makeFunc fn first cap).run Tryz.prog w=.ok (.func fn first cap) w:=fun _ _ _ _=>rfl
 go_enter Tryz.func207,Tryz.ntmps207
 go_wp2_with fail
 refine(xsx _ _).mono ?_
 rintro e w1 ⟨rfl,rfl⟩
 go_wp2_with fail
 refine bodyPost_ret (v:=.tuple #[.agg #[.int .u64 0,.int .u32 0],.bool false]) (by simp[results,Tryz.results207,go_sem]) rfl ⟨rfl,by go_grown⟩
end Go.Proofs.YtjinnigjfopbcaaGreatDoor
