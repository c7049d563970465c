/- Zu Zv Zw. -/
import Derived.Test.YtdnmgpcfgcidbaaGreatDoorTZ2
import Derived.Test.YtdnmgpcfgcidbaaGreatDoorTc3
namespace Go.Proofs.YtdnmgpcfgcidbaaGreatDoor
set_option linter.unusedVariables false
set_option linter.unusedSimpArgs false
open Go.RowKit
set_option maxRecDepth 20000
theorem pairP_abs (L:List Int) (names:List (List Int)) (q:Nat) (nm:List Int) (n:Nat) (e:Int) (h:textP (L.drop q)=(nm,n,e)) :
  (q+(pairP true names (L.drop q)).2.1,(pairP true names (L.drop q)).2.2,(pairP true names (L.drop q)).1) =
  if e≠0 then (q+n,e,[]) else if nm ∈ names then (q,22,[]) else if L.drop (q+n+blankN (L.drop (q+n)))=[] then (q+n+blankN (L.drop (q+n)),3,[])
  else if head0 (L.drop (q+n+blankN (L.drop (q+n))))≠58 then (q+n+blankN (L.drop (q+n)),4,[])
  else (q+n+blankN (L.drop (q+n))+1+blankN (L.drop (q+n+blankN (L.drop (q+n))+1)),0,nm):=by
 unfold pairP
 rw[if_neg (by simp),h]
 simp only[List.drop_drop,← Nat.add_assoc]
 by_cases h1:e≠0
 ·rw[if_pos h1,if_pos h1]
 rw[if_neg h1,if_neg h1]
 by_cases h2:nm ∈ names
 ·rw[if_pos h2,if_pos h2];rfl
 rw[if_neg h2,if_neg h2]
 by_cases h3:L.drop (q+n+blankN (L.drop (q+n)))=[]
 ·rw[if_pos h3,if_pos h3];simp only[Nat.add_assoc]
 rw[if_neg h3,if_neg h3]
 by_cases h4:head0 (L.drop (q+n+blankN (L.drop (q+n))))≠58
 ·rw[if_pos h4,if_pos h4];simp only[Nat.add_assoc]
 ·rw[if_neg h4,if_neg h4];simp only[Nat.add_assoc]
theorem head0_at (s:ByteArray) (k:Nat) (h:k<s.size):head0 ((bI s).drop k)=((s[k]'h).toNat:Int):=by rw[bI_split s k h];rfl
theorem strz_eq {t:ByteArray} {nm:List Int} (h:∀ c ∈ nm,0≤c∧c<256):t=str nm↔bI t=nm:=by
 constructor
 ·rintro rfl;exact bI_str nm h
 ·rintro rfl;exact(str_bI t).symm
set_option maxHeartbeats 4000000 in
theorem rpair_any (s:ByteArray) (p:Nat) (v:Value) (ts:List ByteArray) (w:World) (hs:s.size≤10000) (hp:p≤s.size) (hv:StrsAt w v ts) (hl:ts.length≤1000) :
  Calls Tryz.prog 224 #[.string s,.int .i64 p,v] w fun e w' =>
   e=.returned (.tuple #[.string (str (pairP true (ts.map bI) ((bI s).drop p)).1),.int .i64 ((p+(pairP true (ts.map bI) ((bI s).drop p)).2.1:Nat):Int),.int .i64 (pairP true (ts.map bI) ((bI s).drop p)).2.2])∧Below w.heap.size w w':=by
 have hlen:=bI_len s
 have HT:=Lib.hid (rtake16_any s p w (by omega) hp)
 have hbt:=textP_byte ((bI s).drop p)
 have hle:=textP_le ((bI s).drop p)
 rw[List.length_drop,hlen] at hle
 rcases htx:textP ((bI s).drop p) with ⟨nm,n,e0⟩
 rw[htx] at HT hbt hle
 simp only at HT hbt hle
 have hR:=pairP_abs (bI s) (ts.map bI) p nm n e0 htx
 obtain⟨z,hz⟩:∃ z,p+n=z:=⟨_,rfl⟩
 rw[hz] at hR HT
 have hzs:z≤s.size:=by omega
 obtain⟨m,hm⟩:∃ m,z+blankN ((bI s).drop z)=m:=⟨_,rfl⟩
 rw[hm] at hR
 have hms:m≤s.size:=by have:=blank_le ((bI s).drop z);rw[List.length_drop,hlen] at this;omega
 have HB:=Lib.hid (fun W=>rblank_any s z W (by omega) hzs)
 rw[hm] at HB
 obtain⟨a,cap,rfl,hlc,hmx,hat⟩:=hv
 have HAT:=Lib.hid hat
 have HBT:=Lib.hid (fun t:ByteArray=>strz_eq (t:=t) hbt)
 obtain⟨R,hRR⟩:∃ R,pairP true (ts.map bI) ((bI s).drop p)=R:=⟨_,rfl⟩
 rw[hRR] at hR ⊢
 have h1:=congrArg Prod.fst hR
 have h2:=congrArg (fun x=>x.2.1) hR
 have h3:=congrArg (fun x=>x.2.2) hR
 simp only at h1 h2 h3
 rw[h1,h2,h3]
 obtain⟨Q,hQ⟩:∃ Q,(if e0≠0 then (z,e0,[]) else if nm ∈ ts.map bI then (p,22,[]) else if (bI s).drop m=[] then (m,3,[]) else if head0 ((bI s).drop m)≠58 then (m,4,[]) else (m+1+blankN ((bI s).drop (m+1)),0,nm))=Q:=⟨_,rfl⟩
 rw[hQ]
 have HQ:=Lib.hid hQ
 have hne:str []={ data:=#[] }:=rfl
 clear hR hRR h1 h2 h3 hQ hz hm htx hle hat hbt
 by_cases he0:e0=0
 ·subst he0
  go_enter Tryz.func224,Tryz.ntmps224
  go_wp2_with fail
  refine HT.out.mono ?_
  rintro e w1 ⟨rfl,hb1⟩
  have HB1:=Lib.hid hb1
  clear hb1 HT
  go_wp2_with fail
  go_loopw [12] (fun i wr=>∃ q:Nat,q≤ts.length∧i=.int .i64 q∧Hid (nm ∉ (ts.take q).map bI)∧Below w.heap.size w wr) (fun i _=>ts.length - (intOf i).toNat)
  case atStart=>exact⟨0,Nat.zero_le _,rfl,Lib.hid (by simp),HB1.out⟩
  case round =>
   obtain⟨q,hq,rfl,HG,hbw⟩:=hrel
   have HBW:=Lib.hid hbw
   clear HB1 hbw
   by_cases hlt:q<ts.length
   ·have hi0:(0:Int)≤(q:Int):=by omega
    have hi1:(q:Int)<(ts.length:Int):=by omega
    obtain⟨t,ht⟩:∃ t,ts[q]?=some t:=⟨_,List.getElem?_eq_getElem hlt⟩
    obtain⟨g,off,rfl,hg,hce⟩:=HAT.out q t ht
    replace hce:=vcell_later HBW.out hce
    have htk:ts.take (q+1)=ts.take q++[t]:=by rw[List.take_add_one,ht];rfl
    by_cases hts:t=str nm
    ·have e1:(t.toList == (str nm).toList)=true:=str_yes hts
     have HE:Hid (Q=(p,22,[])):=Lib.hid (by rw[← HQ.out,if_neg (by simp),if_pos];exact List.mem_map.2 ⟨t,List.mem_of_getElem? ht,(HBT.out t).1 hts⟩)
     clear hts htk ht
     go_wp2_with fail
     refine bodyPost_ret (v:=.tuple #[.string { data:=#[] },.int .i64 p,.int .i64 22]) (by simp[results,Tryz.results224,go_sem]) rfl ⟨by rw[HE.out];rfl,HBW.out⟩
    ·have e1:(t.toList == (str nm).toList)=false:=str_no hts
     have HE:Hid (nm ∉ (ts.take (q+1)).map bI):=Lib.hid (by
      rw[htk,List.map_append,List.mem_append]
      rintro(h|h)
      ·exact HG.out h
      ·simp at h;exact hts ((HBT.out t).2 h.symm))
     clear hts htk ht
     go_wp2_with fail
     go_roundw
     case rel=>exact⟨q+1,by omega,by go_num,HE,HBW.out⟩
     case measure=>simp[intOf];omega
   ·obtain rfl:q=ts.length:=by omega
    have HN:Hid (nm ∉ ts.map bI):=Lib.hid (by have:=HG.out;rwa[List.take_of_length_le (Nat.le_refl _)] at this)
    clear HG
    by_cases hme:m=s.size
    ·have q1:((m:Int) == (s.size:Int))=true:=by simp[hme]
     have HE:Hid (Q=(m,3,[])):=Lib.hid (by rw[← HQ.out,if_neg (by simp),if_neg HN.out,if_pos (List.drop_eq_nil_of_le (by omega))])
     clear hme
     go_wp2_with fail
     refine(HB.out _).mono ?_
     rintro e w2 ⟨rfl,rfl⟩
     go_wp2_with fail
     refine bodyPost_ret (v:=.tuple #[.string { data:=#[] },.int .i64 m,.int .i64 3]) (by simp[results,Tryz.results224,go_sem]) rfl ⟨by rw[HE.out];rfl,HBW.out⟩
    have q1:((m:Int) == (s.size:Int))=false:=by simp;omega
    have hm1:m<s.size:=by omega
    have hm2:(0:Int)≤(m:Int):=by omega
    have hm3:(m:Int)<(s.size:Int):=by omega
    have hnn:¬ (bI s).drop m=[]:=by intro h;rw[List.drop_eq_nil_iff] at h;omega
    have hh:=head0_at s m hm1
    obtain⟨c,hc⟩:∃ c,((s[m]'hm1).toNat:Int)=c:=⟨_,rfl⟩
    rw[hc] at hh
    by_cases hc58:c=58
    ·have q2:(c != 58)=false:=by simp[hc58]
     obtain⟨y,hy⟩:∃ y,m+1+blankN ((bI s).drop (m+1))=y:=⟨_,rfl⟩
     have HE:Hid (Q=(y,0,nm)):=Lib.hid (by rw[← HQ.out,if_neg (by simp),if_neg HN.out,if_neg hnn,if_neg (by rw[hh];simp[hc58]),hy])
     have HB2:=Lib.hid (fun W=>rblank_any s (m+1) W (by omega) (by omega))
     rw[hy] at HB2
     obtain⟨x,hx⟩:∃ x,m+1=x:=⟨_,rfl⟩
     have hw1:IntKind.i64.wrap ((m:Int)+1)=(x:Int):=by rw[IntKind.wrap_i64] <;> omega
     rw[hx] at HB2
     clear hnn hh hy hx hc58
     go_wp2_with fail
     refine(HB.out _).mono ?_
     rintro e w2 ⟨rfl,rfl⟩
     go_wp2_with fail
     refine(HB2.out _).mono ?_
     rintro e w2 ⟨rfl,rfl⟩
     go_wp2_with fail
     refine bodyPost_ret (v:=.tuple #[.string (str nm),.int .i64 y,.int .i64 0]) (by simp[results,Tryz.results224,go_sem]) rfl ⟨by rw[HE.out],HBW.out⟩
    ·have q2:(c != 58)=true:=bne_iff_ne.2 hc58
     have HE:Hid (Q=(m,4,[])):=Lib.hid (by rw[← HQ.out,if_neg (by simp),if_neg HN.out,if_neg hnn,if_pos (by rw[hh];exact hc58)])
     clear hnn hh hc58
     go_wp2_with fail
     refine(HB.out _).mono ?_
     rintro e w2 ⟨rfl,rfl⟩
     go_wp2_with fail
     refine bodyPost_ret (v:=.tuple #[.string { data:=#[] },.int .i64 m,.int .i64 4]) (by simp[results,Tryz.results224,go_sem]) rfl ⟨by rw[HE.out];rfl,HBW.out⟩
 ·have q0:(e0 != 0)=true:=bne_iff_ne.2 he0
  have HE:Hid (Q=(z,e0,[])):=Lib.hid (by rw[← HQ.out,if_pos he0])
  clear he0
  go_enter Tryz.func224,Tryz.ntmps224
  go_wp2_with fail
  refine HT.out.mono ?_
  rintro e w1 ⟨rfl,hb1⟩
  go_wp2_with fail
  refine bodyPost_ret (v:=.tuple #[.string { data:=#[] },.int .i64 z,.int .i64 e0]) (by simp[results,Tryz.results224,go_sem]) rfl ⟨by rw[HE.out];rfl,hb1⟩
theorem infoNode:(Tryz.prog.info? 101).map (fun i=>(i.zero,i.size,i.bytes))=some (some (.agg ndZ),5,80):=by kernel_rfl
def itC (kd:Int) (vn vk:Value):Array Value:=#[.int .u8 kd,.int .i64 0,.string { data:=#[] },vn,vk]
theorem own_apart {W:World} {B B' m m' n n':Nat} {E E':TypeId} {v v':Value} {xs xs':List Value} (h:W.ownsRow B E m v n xs) (h':W.ownsRow B' E' m' v' n' xs') (hE:E≠E'):∀ k,v'.ownBlock=some k→some k≠v.ownBlock:=by
 intro k hk' hk
 rcases h.2 with ⟨rfl,_⟩|⟨g,cap,cur,rfl,_,hh,_⟩
 ·cases hk
 rcases h'.2 with ⟨rfl,_⟩|⟨g',cap',cur',rfl,_,hh',_⟩
 ·cases hk'
 ·have e1:g'=k:=Option.some.inj hk'
  have e2:k=g:=Option.some.inj hk
  subst e1;subst e2
  rw[hh] at hh'
  have:=Option.some.inj hh'
  injection this with _ h2 _
  exact hE h2
theorem own_stay {W W':World} {B m n:Nat} {E:TypeId} {v:Value} {xs:List Value} (h:W.ownsRow B E m v n xs) (hk:∀ k,v.ownBlock=some k→W'.heap[k]?=W.heap[k]?):W'.ownsRow B E m v n xs:=by
 obtain⟨h1,h2⟩:=h
 refine⟨h1,?_⟩
 rcases h2 with h2|⟨g,cap,cur,hv,hg,hh,r⟩
 ·exact .inl h2
 ·refine .inr ⟨g,cap,cur,hv,hg,?_,r⟩
  rw[hk g (by rw[hv];rfl)];exact hh
theorem nd_lt {W:World} {b:Nat} {cs:Array Value} (h:ndNode W b cs):b<W.heap.size:=(Array.getElem?_eq_some_iff.1 h).1
theorem nd_cell {W:World} {b:Nat} {cs:Array Value} (h:ndNode W b cs) (j:Nat):W.cell? ⟨b,j,none⟩=cs[j]?:=by
 unfold ndNode at h
 simp[World.cell?,h]
theorem nd_frz {W:World} {b:Nat} {cs:Array Value} (h:ndNode W b cs) (j:Nat):W.frozen? ⟨b,j,none⟩=false:=by
 unfold ndNode at h
 simp[World.frozen?,h]
theorem nd_load {W:World} {b:Nat} {cs:Array Value} (h:ndNode W b cs) (hs:cs.size=5):(loadVar 101 ⟨b,0,none⟩).run Tryz.prog W=.ok (.agg cs) W :=
 run_loadVar_row W b _ _ cs (0,0) _ h Tryz.underlying101 rfl (by rw[nd_size,hs])
structure ItS (w W:World) (kd:Int) (k:Nat) (nm:List ByteArray) (vn vk:Value):Prop where
 box:ndNode W w.heap.size (itC kd vn vk)
 res:ndNode W (w.heap.size+1) ndZ
 own:OwnV W (w.heap.size+2) 9 vn (strL nm)
 kid:∃ xs,W.ownsRow (w.heap.size+2) 101 5 vk k xs
 bel:Below w.heap.size w W
theorem ItS.below {w W X:World} {kd:Int} {k:Nat} {nm:List ByteArray} {vn vk:Value} (h:ItS w W kd k nm vn vk) (hb:Below W.heap.size W X):ItS w X kd k nm vn vk:=by
 obtain⟨xs,hx⟩:=h.kid
 exact⟨(hb.block _ (nd_lt h.box)).trans h.box,(hb.block _ (nd_lt h.res)).trans h.res,h.own.below hb,⟨xs,own_stay hx (fun k hk=>hb.block k (World.ownsRow.lt hx k hk).2)⟩,h.bel.trans (hb.mono h.bel.size)⟩
theorem ItS.forms {w W:World} {kd:Int} {k:Nat} {nm:List ByteArray} {vn vk:Value} (h:ItS w W kd k nm vn vk):∃ a c a' c',vn=.slice a nm.length c∧vk=.slice a' k c':=by
 obtain⟨xs,hx⟩:=h.kid
 obtain⟨a',c',e'⟩:∃ a' c',vk=.slice a' k c':=by
  rcases hx.2 with ⟨rfl,rfl⟩|⟨g,cap,cur,rfl,_⟩
  ·exact⟨_,_,rfl⟩
  ·exact⟨_,_,rfl⟩
 rcases h.own.form with ⟨rfl,hn⟩|⟨g,cap,rfl,_⟩
 ·have:nm=[]:=by simpa[strL] using hn
  subst this
  exact⟨_,_,a',c',rfl,e'⟩
 ·exact⟨_,_,a',c',by rw[strL_len],e'⟩
theorem ItS.facts {w W:World} {kd:Int} {k:Nat} {nm:List ByteArray} {vn vk:Value} (h:ItS w W kd k nm vn vk) :
  W.cell? ⟨w.heap.size,0,none⟩=some (.int .u8 kd)∧W.cell? ⟨w.heap.size,3,none⟩=some vn∧W.cell? ⟨w.heap.size,4,none⟩=some vk∧W.frozen? ⟨w.heap.size,3,none⟩=false∧W.frozen? ⟨w.heap.size,4,none⟩=false ∧
  (loadVar 101 ⟨w.heap.size,0,none⟩).run Tryz.prog W=.ok (.agg (itC kd vn vk)) W :=
 ⟨by rw[nd_cell h.box];rfl,by rw[nd_cell h.box];rfl,by rw[nd_cell h.box];rfl,nd_frz h.box 3,nd_frz h.box 4,nd_load h.box rfl⟩
theorem ItS.name {w W:World} {kd:Int} {k:Nat} {nm:List ByteArray} {vn vk:Value} (h:ItS w W kd k nm vn vk) (t:ByteArray) (hl:nm.length≤1000) :
  ∃ v' W2,(Builtin.append_ #[98,98] 98 #[vn,.slice (some ⟨W.heap.size,0,none⟩) 1 1]).run Tryz.prog (W.alloc (.cells #[.string t] 9))=.ok v' W2 ∧
   W2.cell? ⟨w.heap.size,3,none⟩=some vn∧W2.frozen? ⟨w.heap.size,3,none⟩=false∧ItS w (W2.setCell ⟨w.heap.size,3,none⟩ v') kd k (nm++[t]) v' vk:=by
 obtain⟨xs,hx⟩:=h.kid
 have h1:=h.below (below_oneC W (.cells #[.string t] 9))
 obtain⟨xs1,hx1⟩:=h1.kid
 have hsz:(W.alloc (.cells #[.string t] 9)).heap.size=W.heap.size+1:=by simp
 have hs0:=nd_lt h.res
 have hst:StrsAt (W.alloc (.cells #[.string t] 9)) (.slice (some ⟨W.heap.size,0,none⟩) 1 1) [t]:=by
  refine⟨_,1,rfl,Nat.le_refl _,by unfold maxLen;omega,fun j u hu=>⟨W.heap.size,0,rfl,by rw[hsz];omega,?_⟩⟩
  have hj:j=0:=by have:=(List.getElem?_eq_some_iff.1 hu).1;simpa using this
  subst hj
  obtain rfl:t=u:=by simpa using hu
  rw[World.cell?_alloc_mark];rfl
 obtain⟨v',W2,hr,ho,hg⟩:=sappend_run (W.alloc (.cells #[.string t] 9)) (w.heap.size+2) 98 vn (.slice (some ⟨W.heap.size,0,none⟩) 1 1) nm [t] h1.own hst (by simp;omega) (by rw[hsz];omega)
 have hne:∀ b,b<w.heap.size+2→some b≠vn.ownBlock:=fun b hb e=>by have:=(h1.own.lt b e.symm).1;omega
 have b0:ndNode W2 w.heap.size (itC kd vn vk):=(hg.block _ (nd_lt h1.box) (hne _ (by omega))).trans h1.box
 have b1:ndNode W2 (w.heap.size+1) ndZ:=(hg.block _ (nd_lt h1.res) (hne _ (by omega))).trans h1.res
 have k1:W2.ownsRow (w.heap.size+2) 101 5 vk k xs1:=own_stay hx1 (fun j hj=>hg.block j (World.ownsRow.lt hx1 j hj).2 (own_apart h1.own hx1 (by decide) j hj))
 have bel2:Below w.heap.size w W2:=h1.bel.grown hg (by rw[hsz];omega) (fun g hg=>by have:=(h1.own.lt g hg).1;omega)
 refine⟨v',W2,hr,by rw[nd_cell b0];rfl,nd_frz b0 3,?_⟩
 refine⟨hset b0 3 v',hother b1 (by omega) _ _,ho.keep (fun j hj=>?_),⟨xs1,own_stay k1 (fun j hj=>?_)⟩,bel2.setCell (p:=⟨w.heap.size,3,none⟩) (Nat.le_refl _) _⟩
 ·exact Below.heap_setCell _ _ _ _ (by have:=(ho.lt j hj).1;show j≠w.heap.size;omega)
 ·exact Below.heap_setCell _ _ _ _ (by have:=(World.ownsRow.lt k1 j hj).1;show j≠w.heap.size;omega)
theorem ItS.more {w W:World} {kd:Int} {k:Nat} {nm:List ByteArray} {vn vk:Value} (h:ItS w W kd k nm vn vk) (kk:Int) (cs:Array Value) (hc:NdAny kk cs) (hl:k≤1000) :
  ∃ v' W2,(Builtin.append_ #[99,99] 99 #[vk,.slice (some ⟨W.heap.size,0,none⟩) 1 1]).run Tryz.prog (W.alloc (.cells cs 101))=.ok v' W2 ∧
   W2.cell? ⟨w.heap.size,4,none⟩=some vk∧W2.frozen? ⟨w.heap.size,4,none⟩=false∧ItS w (W2.setCell ⟨w.heap.size,4,none⟩ v') kd (k+1) nm vn v':=by
 obtain⟨xs,hx⟩:=h.kid
 have h1:=h.below (below_oneC W (.cells cs 101))
 obtain⟨xs1,hx1⟩:=h1.kid
 have hsz:(W.alloc (.cells cs 101)).heap.size=W.heap.size+1:=by simp
 have hs0:=nd_lt h.res
 obtain⟨i0,hi,hz0,hz1,hz2⟩:=info_parts infoNode
 obtain⟨v',W2,hr,ho,hg,_⟩:=run_append_own (P:=Tryz.prog) (W.alloc (.cells cs 101)) (w.heap.size+2) 99 99 101 i0 (.agg ndZ) 5 80 Tryz.underlying99 hi hz0 hz1 hz2 rfl (by omega) vk k xs1 hx1 ⟨W.heap.size,0,none⟩ 1 1 cs.toList (by rw[Array.length_toList,hc.size])
  (fun j u hu=>by rw[Go.WideShapes.add_plain,World.cell?_alloc_mark];simpa using hu) (fun u hu=>by have:=hc.one;rw[Array.all_eq_true_iff_forall_mem] at this;exact this u (Array.mem_toList_iff.1 hu)) (by unfold maxLen;omega) (by omega) (by rw[hsz];omega)
 have hne:∀ b,b<w.heap.size+2→some b≠vk.ownBlock:=fun b hb e=>by have:=(World.ownsRow.lt hx1 b e.symm).1;omega
 have b0:ndNode W2 w.heap.size (itC kd vn vk):=(hg.block _ (nd_lt h1.box) (hne _ (by omega))).trans h1.box
 have b1:ndNode W2 (w.heap.size+1) ndZ:=(hg.block _ (nd_lt h1.res) (hne _ (by omega))).trans h1.res
 have n1:OwnV W2 (w.heap.size+2) 9 vn (strL nm):=h1.own.keep (fun j hj=>hg.block j (h1.own.lt j hj).2 (own_apart hx1 h1.own (by decide) j hj))
 have bel2:Below w.heap.size w W2:=h1.bel.grown hg (by rw[hsz];omega) (fun g hg=>by have:=(World.ownsRow.lt hx1 g hg).1;omega)
 refine⟨v',W2,hr,by rw[nd_cell b0];rfl,nd_frz b0 4,?_⟩
 refine⟨hset b0 4 v',hother b1 (by omega) _ _,n1.keep (fun j hj=>?_),⟨_,own_stay ho (fun j hj=>?_)⟩,bel2.setCell (p:=⟨w.heap.size,4,none⟩) (Nat.le_refl _) _⟩
 ·exact Below.heap_setCell _ _ _ _ (by have:=(n1.lt j hj).1;show j≠w.heap.size;omega)
 ·exact Below.heap_setCell _ _ _ _ (by have:=(World.ownsRow.lt ho j hj).1;show j≠w.heap.size;omega)
def ValOk (g:Nat):Prop:=∀ (d:Nat) (s:ByteArray) (p:Nat) (w:World),p≤s.size→s.size≤5000→2*(s.size - p)+1≤g→d≤5 →
 Calls Tryz.prog 103 #[.string s,.int .i64 p,.int .i64 d] w (ValE (valueP g d ((bI s).drop p)) p w)
def ValAt (g:Nat) (s:ByteArray) (q:Nat):Prop:=∀ (d p:Nat) (w:World),q≤p→p≤s.size→d≤5 →
 Calls Tryz.prog 103 #[.string s,.int .i64 p,.int .i64 d] w (ValE (valueP g d ((bI s).drop p)) p w)
theorem ValOk.at {g0 g:Nat} (h:ValOk g0) {s:ByteArray} {q:Nat} (hs:s.size≤5000) (h0:2*(s.size - q)+1≤g0) (h1:2*(s.size - q)+1≤g):ValAt g s q:=by
 intro d p w hqp hp hd
 have hl:((bI s).drop p).length=s.size - p:=by rw[List.length_drop,bI_len]
 rw[(enough g).1 g0 d ((bI s).drop p) (by rw[hl];omega) (by rw[hl];omega)]
 exact h d s p w hp hs (by omega) hd
theorem ValE.box_bad {R:Js × Nat × Int} {p z:Nat} {w w':World} {e:Int} (hz:p+R.2.1=z) (he:R.2.2=e) (h0:e≠0) (hb:Below w.heap.size w w'):ValE R p w (.returned (.tuple #[.agg ndZ,.int .i64 (z:Int),.int .i64 e])) w' :=
 ⟨ndZ,by rw[he,if_neg h0];exact .z,by rw[hz,he],hb⟩
theorem ValE.box_good {R:Js × Nat × Int} {p z:Nat} {w w':World} {cs:Array Value} {k:Int} (hz:p+R.2.1=z) (he:R.2.2=0) (hk:kindV R.1=k) (hn:NdAny k cs) (hb:Below w.heap.size w w'):ValE R p w (.returned (.tuple #[.agg cs,.int .i64 (z:Int),.int .i64 0])) w' :=
 ⟨cs,by rw[he,if_pos rfl,hk];exact hn,by rw[hz,he],hb⟩
theorem ItS.nd {w W:World} {kd:Int} {k:Nat} {nm:List ByteArray} {vn vk:Value} (h:ItS w W kd k nm vn vk):NdAny kd (itC kd vn vk):=by
 obtain⟨a,c,a',c',rfl,rfl⟩:=h.forms
 exact⟨_,_,_,_,_,_,_,_,rfl⟩
theorem itS_new (w:World) (kd:Int):ItS w ((w.alloc (.cells (NdK kd 0 { data:=#[] }) 101)).alloc (.cells ndZ 101)) kd 0 [] (.slice none 0 0) (.slice none 0 0) :=
 ⟨heap_old2 _ _ _,heap_new2 _ _ _,ownV_nil _ _ _,⟨[],World.ownsRow_nil _ _ _ _⟩,(below_oneC w _).trans ((below_oneC _ _).mono (by simp))⟩
set_option maxHeartbeats 16000000 in
theorem ritems_any (f:Nat) (s:ByteArray) (p d:Nat) (b kd fin:Int) (w:World) (hbk:(b=91∧kd=5)∨(b=123∧kd=6)) (hfin:fin=b+2) (hs:s.size≤5000) (hp:p<s.size) (hpb:(bI s).drop p=b :: (bI s).drop (p+1)) (hf:2*(s.size - p)≤f)
  (HT:∀ g q,p<q→q≤s.size→2*(s.size - q)+1≤g→ValAt g s q) (hd:d≤5) :
  Calls Tryz.prog 172 #[.string s,.int .i64 p,.int .i64 d,.agg (NdK kd 0 { data:=#[] }),.int .u8 fin] w (ValE (valueP (f+1) d ((bI s).drop p)) p w):=by
 have hlen:=bI_len s
 obtain⟨W0,hW0⟩:∃ W0,(w.alloc (.cells (NdK kd 0 { data:=#[] }) 101)).alloc (.cells ndZ 101)=W0:=⟨_,rfl⟩
 have hS0:=itS_new w kd
 rw[hW0] at hS0
 have HS:=Lib.hid hS0
 have HRES:=Lib.hid hS0.res
 unfold NdK ndZ at hW0
 obtain⟨r0,r3,r4,f3,f4,lp⟩:=hS0.facts
 have hnz:=(itS_new w kd).nd.one
 clear hS0
 by_cases hd4:4<d
 ·have hR:valueP (f+1) d ((bI s).drop p)=(.nul,0,20):=by rw[hpb,valueP_box f d b _ (by omega),if_pos hd4]
  rw[hR]
  have q0:decide (4<(d:Int))=true:=by simp;omega
  clear hR hpb hf HT r0 r3 r4 f3 f4 lp hnz
  unfold NdK
  go_enter Tryz.func172,Tryz.ntmps172
  generalize hQQ:bodyPost Tryz.prog Tryz.f172 (ValE (.nul,0,20) p w)=QQ
  have HQQ:=Lib.hid hQQ
  go_wp2_with (first|(refine wpList_store_row rfl 101 _ _ rfl (w.heap.size+1) ndZ rfl rfl 101 ndZ HRES.out nd_size rfl ndZ_one ?_)|fail)
  rw[← HQQ.out];refine bodyPost_ret (results_nd rfl _ _ (w.heap.size+1) ndZ (.int .i64 (p:Int)) (.int .i64 20) rfl rfl rfl (nd_put HRES.out ndZ rfl) rfl) rfl (ValE.bad (k:=0) rfl rfl (below_setRow HS.out.bel (Nat.le_succ _) _))
 have q0:decide (4<(d:Int))=false:=by simp;omega
 have hB:=box_itA (bI s) f d b p (by omega) hpb hd4
 have hblk:=blank_le ((bI s).drop (p+1))
 rw[List.length_drop,hlen] at hblk
 obtain⟨p1,hp1⟩:∃ p1,p+1=p1:=⟨_,rfl⟩
 have hw1:IntKind.i64.wrap ((p:Int)+1)=(p1:Int):=by rw[IntKind.wrap_i64] <;> omega
 have HBL:=Lib.hid (fun W=>rblank_any s (p+1) W (by omega) (by omega))
 rw[hp1] at HBL hB hblk
 obtain⟨q0',hq0⟩:∃ q,p1+blankN ((bI s).drop p1)=q:=⟨_,rfl⟩
 rw[hq0] at HBL hB
 obtain⟨R0,hR0⟩:∃ R0,valueP (f+1) d ((bI s).drop p)=R0:=⟨_,rfl⟩
 rw[hR0] at hB ⊢
 have hkd:(if b=91 then (5:Int) else 6)=kd:=by rcases hbk with ⟨h1,h2⟩|⟨h1,h2⟩ <;> subst h1 <;> subst h2 <;> rfl
 rw[hkd,← hfin] at hB
 obtain⟨ob,hob⟩:∃ ob,decide (b=123)=ob:=⟨_,rfl⟩
 rw[hob] at hB
 have ho6:(kd == 6)=ob:=by rw[← hob];rcases hbk with ⟨h1,h2⟩|⟨h1,h2⟩ <;> subst h1 <;> subst h2 <;> rfl
 have hf44:fin≠44:=by omega
 have hfb:0≤fin∧fin<256:=by omega
 have hwd:IntKind.i64.wrap ((d:Int)+1)=((d+1:Nat):Int):=by rw[IntKind.wrap_i64] <;> omega
 have hql:q0'≤s.size:=by omega
 have hqp:p<q0':=by omega
 by_cases hem:head0 ((bI s).drop q0')=fin
 ·obtain⟨hz1,hz2,hz3⟩:=hB.1 hem
  have hqs:q0'<s.size:=by
   rcases Nat.lt_or_ge q0' s.size with h|h
   ·exact h
   ·rw[List.drop_eq_nil_of_le (by omega)] at hem;exact absurd hem (by show (-1:Int)≠fin;omega)
  rw[head0_at s q0' hqs] at hem
  have HZ:=Lib.hid (And.intro hz1 (And.intro hz2 hz3))
  obtain⟨q2,hq2⟩:∃ q2,q0'+1=q2:=⟨_,rfl⟩
  have HQ2:=Lib.hid hq2
  have hw2:IntKind.i64.wrap ((q0':Int)+1)=(q2:Int):=by rw[IntKind.wrap_i64] <;> omega
  have hi1:(q0':Int)<(s.size:Int):=by omega
  have hi0:(0:Int)≤(q0':Int):=by omega
  have hff:(fin == fin)=true:=by simp
  have HBX:=Lib.hid HS.out.box
  clear hB hz1 hz2 hz3 hq2 hR0 hpb hf HT hq0 hp1 hob hkd hblk hwd hfin hbk lp r0 r3 r4
  unfold NdK
  go_enter Tryz.func172,Tryz.ntmps172
  generalize hQQ:bodyPost Tryz.prog Tryz.f172 (ValE R0 p w)=QQ
  have HQQ:=Lib.hid hQQ
  go_wp2_with fail
  refine(HBL.out _).mono ?_
  rintro e w1 ⟨rfl,rfl⟩
  go_wp2_with (first|(refine wpList_load_row rfl 101 _ rfl w.heap.size rfl 101 _ (0,0) _ HBX.out Tryz.underlying101 rfl nd_size ?_)|(refine wpList_store_row rfl 101 _ _ rfl (w.heap.size+1) (itC kd (.slice none 0 0) (.slice none 0 0)) rfl rfl 101 ndZ HRES.out nd_size rfl hnz ?_)|fail)
  rw[← HQQ.out];refine bodyPost_ret (results_nd rfl _ _ (w.heap.size+1) (itC kd (.slice none 0 0) (.slice none 0 0)) (.int .i64 (q2:Int)) (.int .i64 0) rfl rfl rfl (nd_put HRES.out (itC kd (.slice none 0 0) (.slice none 0 0)) rfl) rfl) rfl (ValE.box_good (HZ.out.1.trans HQ2.out) HZ.out.2.1 HZ.out.2.2 HS.out.nd (below_setRow HS.out.bel (Nat.le_succ _) _))
 obtain⟨hR1,hR2⟩:=hB.2 hem
 obtain⟨RR,hRR⟩:∃ RR,itA (bI s) f d ob fin [] 0 q0'=RR:=⟨_,rfl⟩
 rw[hRR] at hR1
 have HRR:Hid (∀ z e,RR=(z,e)→p+R0.2.1=z∧R0.2.2=e):=Lib.hid (fun z e h=>by rw[h] at hR1;exact⟨congrArg Prod.fst hR1,congrArg Prod.snd hR1⟩)
 have HKD:=Lib.hid hR2
 have HI0:=Lib.hid hRR
 have HTT:=Lib.hid HT
 have H44:=Lib.hid hf44
 have HB0:=Lib.hid hfb
 have hd5:d+1≤5:=by omega
 have hfuel:2*(s.size - q0')+2≤f:=by omega
 have hem':q0'<s.size→∃ c:Int,∃ h:q0'<s.size,((s[q0']'h).toNat:Int)=c∧(c == fin)=false:=fun h=>⟨_,h,rfl,by rw[beq_eq_false_iff_ne,← head0_at s q0' h];exact hem⟩
 have HEM:=Lib.hid hem'
 clear hB hR1 hR2 hRR hR0 HT hf44 hfb hem hem' hq0 hp1 hob hkd hblk hpb hf hfin hbk lp r0 r3 f3 f4
 unfold NdK
 go_enter Tryz.func172,Tryz.ntmps172
 generalize hQQ:bodyPost Tryz.prog Tryz.f172 (ValE R0 p w)=QQ
 have HQQ:=Lib.hid hQQ
 go_wp2_with fail
 refine(HBL.out _).mono ?_
 rintro e w1 ⟨rfl,rfl⟩
 go_upto_region 4 with fail
 go_cut [37] from 19 to 123 (fun x wx=>x=.bool false∧ItS w wx kd 0 [] (.slice none 0 0) (.slice none 0 0))
 case first =>
  by_cases hq:q0'<s.size
  ·obtain⟨c,h,e1,e2⟩:=HEM.out hq
   have i0:(0:Int)≤(q0':Int):=by omega
   have i1:(q0':Int)<(s.size:Int):=by omega
   go_wp2_with fail
   go_meet
   case rel=>exact⟨rfl,HS.out⟩
  ·have i1:¬ (q0':Int)<(s.size:Int):=by omega
   go_wp2_with fail
   go_meet
   case rel=>exact⟨rfl,HS.out⟩
 case rest =>
  rename_i K hK
  refine hK _ _ ?_
  clear hK K
  obtain⟨rfl,hS1⟩:=hcut
  generalize wc=w2 at *
  have HS1:=Lib.hid hS1
  clear hS1 HS HRES HEM HBL r4 hW0 hnz
  go_wp2_with fail
  go_loopw [1] (fun x wr=>∃ (q k g:Nat) (nm:List ByteArray) (names:List (List Int)) (vn vk:Value),x=.int .i64 q∧q≤s.size∧p<q∧k≤64∧nm.length≤k∧2*(s.size - q)+2≤g∧Hid (ob=true→names=nm.map bI)∧Hid (itA (bI s) g d ob fin names k q=RR)∧ItS w wr kd k nm vn vk) (fun x _=>s.size - (intOf x).toNat)
  case atStart=>exact⟨q0',0,f,[],[],_,_,rfl,hql,hqp,by omega,Nat.le_refl _,hfuel,Lib.hid (fun _=>rfl),HI0,HS1.out⟩
  case round =>
   obtain⟨q,k,g,nm,names,vn,vk,rfl,hq,hpq,hk,hnl,hg,HNM,HIT,hS⟩:=hrel
   clear HS1 HI0 hfuel hql hqp
   obtain⟨g',rfl⟩:∃ g',g=g'+1:=⟨g - 1,by omega⟩
   rw[itA_step] at HIT
   obtain⟨a3,c3,a4,c4,rfl,rfl⟩:=hS.forms
   have HS:=Lib.hid hS
   have HRES:=Lib.hid hS.res
   obtain⟨r0,r3,r4,f3,f4,lp⟩:=hS.facts
   clear hS
   have hdl:(bI s).drop q≠[]↔q<s.size:=by
    rw[ne_eq,List.drop_eq_nil_iff,hlen];omega
   by_cases hmany:q<s.size∧k=64
   ·have HE:Hid (RR=(q,21)):=Lib.hid (by rw[← HIT.out,if_pos ⟨hdl.2 hmany.1,by omega⟩])
    have i1:(q:Int)<(s.size:Int):=by omega
    have i2:((k:Int) == 64)=true:=by simp;omega
    clear hmany hdl HIT r0 r3 f3 f4 lp HNM
    go_wp2_with (first|(refine wpList_store_row rfl 101 _ _ rfl (w.heap.size+1) ndZ rfl rfl 101 ndZ HRES.out nd_size rfl ndZ_one ?_)|fail)
    rw[← HQQ.out];refine bodyPost_ret (results_nd rfl _ _ (w.heap.size+1) ndZ (.int .i64 (q:Int)) (.int .i64 21) rfl rfl rfl (nd_put HRES.out ndZ rfl) rfl) rfl (ValE.box_bad (HRR.out _ _ HE.out).1 (HRR.out _ _ HE.out).2 (by first|decide|assumption) (below_setRow HS.out.bel (Nat.le_succ _) _))
   have hmany2:¬ ((bI s).drop q≠[]∧64≤k):=fun h=>hmany ⟨hdl.1 h.1,by have:=h.2;omega⟩
   have HIT2:Hid ((if (pairP ob names ((bI s).drop q)).2.2≠0 then (q+(pairP ob names ((bI s).drop q)).2.1,(pairP ob names ((bI s).drop q)).2.2)
     else valA (bI s) g' d ob fin names k (pairP ob names ((bI s).drop q)).1 (q+(pairP ob names ((bI s).drop q)).2.1))=RR):=Lib.hid (by rw[← HIT.out,if_neg hmany2])
   have HMN:=Lib.hid hmany
   clear HIT hdl hmany hmany2
   go_upto_region 6 with fail
   go_cut [50] from 41 to 123 (fun x wx=>x=.bool false∧ItS w wx kd k nm (.slice a3 nm.length c3) (.slice a4 k c4))
   case first =>
    by_cases hqs:q<s.size
    ·have i1:(q:Int)<(s.size:Int):=by omega
     have i2:((k:Int) == 64)=false:=by have:=HMN.out;simp;omega
     clear r0 r3 f3 f4 lp
     go_wp2_with fail
     go_meet
     case rel=>exact⟨rfl,HS.out⟩
    ·have i1:¬ (q:Int)<(s.size:Int):=by omega
     clear r0 r3 f3 f4 lp
     go_wp2_with fail
     go_meet
     case rel=>exact⟨rfl,HS.out⟩
   case rest =>
    rename_i K hK
    refine hK _ _ ?_
    clear hK K
    obtain⟨rfl,hS2⟩:=hcut
    generalize wc=w3 at *
    have HS2:=Lib.hid hS2
    have HRES:=Lib.hid hS2.res
    clear HS r0 r3 r4 f3 f4 lp
    obtain⟨r0,r3,r4,f3,f4,lp⟩:=hS2.facts
    clear hS2
    go_upto_if 55 with fail
    go_cut [1] from 41 to 123 (fun x wx=>∃ (q1:Nat) (name:List Int) (nm':List ByteArray) (vn':Value),x=.int .i64 q1∧q≤q1∧q1≤s.size∧nm'.length≤k+1∧Hid (ob=true→names++[name]=nm'.map bI)∧Hid (valA (bI s) g' d ob fin names k name q1=RR)∧ItS w wx kd k nm' vn' (.slice a4 k c4))
    case first =>
     cases ob
     ·have HN:Hid (valA (bI s) g' d false fin names k [] q=RR):=HIT2
      clear HIT2 r0 r3 r4 f3 f4 lp
      go_wp2_with fail
      go_meet
      case rel=>exact⟨q,[],nm,_,rfl,Nat.le_refl _,hq,by omega,Lib.hid (fun h=>by cases h),HN,HS2.out⟩
     ·obtain rfl:=HNM.out rfl
      have HPA:=Lib.hid (rpair_any s q (.slice a3 nm.length c3) nm w3 (by omega) hq (show StrsAt w3 _ nm from HS2.out.own.valsAt.strs) (by omega))
      have hPl:=pairP_le true (nm.map bI) ((bI s).drop q)
      rw[List.length_drop,hlen] at hPl
      obtain⟨P,hP⟩:∃ P,pairP true (nm.map bI) ((bI s).drop q)=P:=⟨_,rfl⟩
      have hPb:=pairP_byte (nm.map bI) ((bI s).drop q)
      rw[hP] at HPA HIT2 hPl hPb
      obtain⟨name,m,e0⟩:=P
      simp only at HPA HIT2 hPl hPb
      obtain⟨q1,hq1⟩:∃ q1,q+m=q1:=⟨_,rfl⟩
      rw[hq1] at HPA HIT2
      have HBI:Hid (nm.map bI++[name]=(nm++[str name]).map bI):=Lib.hid (by rw[List.map_append];show _=_++[bI (str name)];rw[bI_str name hPb])
      have hq1a:q≤q1:=by omega
      have hq1b:q1≤s.size:=by omega
      clear hP hq1 hPl hPb HNM r4 f4 lp
      by_cases he0:e0=0
      ·subst he0
       have HN:Hid (valA (bI s) g' d true fin (nm.map bI) k name q1=RR):=HIT2
       clear HIT2
       go_wp2_with fail
       refine HPA.out.mono ?_
       rintro e w4 ⟨rfl,hb4⟩
       have HS4:=Lib.hid (HS2.out.below hb4)
       obtain⟨_,r3',_,f3',_,_⟩:=HS4.out.facts
       obtain⟨v',W5,hr,c5,f5,hS5⟩:=HS4.out.name (str name) (by omega)
       obtain⟨a5,n5,c5',rfl⟩:∃ a n c,v'=.slice a n c:=by obtain⟨a,c,_,_,e,_⟩:=hS5.forms;exact⟨_,_,_,e⟩
       have HS5:=Lib.hid hS5
       clear hS5 HS2 hb4 r0 r3 f3 HPA
       go_wp2_with (first|(at_builtin;refine Lib.wpList_append_run _ rfl _ _ _ _ rfl _ _ rfl rfl _ _ hr ?_)|fail)
       go_meet
       case rel=>exact⟨q1,name,nm++[str name],_,rfl,hq1a,hq1b,by simp;omega,Lib.hid (fun _=>HBI.out),HN,HS5.out⟩
      ·have HE:Hid (RR=(q1,e0)):=Lib.hid (by rw[← HIT2.out,if_pos he0])
       have j0:(e0 != 0)=true:=bne_iff_ne.2 he0
       go_wp2_with fail
       refine HPA.out.mono ?_
       rintro e w4 ⟨rfl,hb4⟩
       have HS4:=Lib.hid (HS2.out.below hb4)
       have HRES:=Lib.hid HS4.out.res
       go_wp2_with (first|(refine wpList_store_row rfl 101 _ _ rfl (w.heap.size+1) ndZ rfl rfl 101 ndZ HRES.out nd_size rfl ndZ_one ?_)|fail)
       rw[← HQQ.out];refine bodyPost_ret (results_nd rfl _ _ (w.heap.size+1) ndZ (.int .i64 (q1:Int)) (.int .i64 e0) rfl rfl rfl (nd_put HRES.out ndZ rfl) rfl) rfl (ValE.box_bad (HRR.out _ _ HE.out).1 (HRR.out _ _ HE.out).2 (by first|decide|assumption) (below_setRow HS4.out.bel (Nat.le_succ _) _))
    case rest =>
     rename_i K hK
     refine hK _ _ ?_
     clear hK K
     obtain⟨q1,name,nm',vn',rfl,hq1a,hq1b,hnl',HNM',HVA,hS4⟩:=hcut
     generalize wc=w4 at *
     have HS4:=Lib.hid hS4
     clear hS4 HS2 HRES HNM HIT2 r0 r3 r4 f3 f4 lp
     have HVV:=Lib.hid (fun W=>HTT.out g' q hpq hq (by omega) (d+1) q1 W hq1a hq1b hd5)
     have hVl:=((within g').1 (d+1) ((bI s).drop q1)).1
     rw[List.length_drop,hlen] at hVl
     unfold valA at HVA
     obtain⟨V,hV⟩:∃ V,valueP g' (d+1) ((bI s).drop q1)=V:=⟨_,rfl⟩
     rw[hV] at HVA HVV hVl
     obtain⟨jv,m,e1⟩:=V
     simp only at HVA hVl
     unfold ValE at HVV
     simp only at HVV
     obtain⟨q2,hq2⟩:∃ q2,q1+m=q2:=⟨_,rfl⟩
     rw[hq2] at HVA HVV
     have hq2a:q1≤q2:=by omega
     have hq2b:q2≤s.size:=by omega
     clear hV hq2 hVl
     go_wp2_with fail
     refine(HVV.out _).mono ?_
     rintro e w5 ⟨cs,hcs,rfl,hb5⟩
     have HCS:=Lib.hid hcs
     obtain⟨W6,hW6⟩:∃ W6,(w5.alloc (.cells ndZ 101)).setRow w5.heap.size cs=W6:=⟨_,rfl⟩
     have hN6:ndNode W6 w5.heap.size cs:=by rw[← hW6];exact nd_put (heap_new w5 _) cs hcs.size
     have hB6:Below w5.heap.size w5 W6:=by rw[← hW6];exact below_setRow (below_oneC w5 _) (Nat.le_refl _) _
     have HS6:=Lib.hid ((HS4.out.below hb5).below hB6)
     have HN6:=Lib.hid hN6
     have hK6:w5.heap.size≤W6.heap.size:=hB6.size
     have hone:=hcs.one
     obtain⟨n9,t9,x3,y3,z3,x4,y4,z4,rfl⟩:=hcs
     unfold ndZ at hW6
     clear hN6 hB6 hb5 HS4 HVV
     go_upto_region 15 with (first|(refine wpList_store_row rfl 101 _ _ rfl w5.heap.size _ rfl rfl 101 _ (heap_new w5 _) nd_size rfl hone ?_)|fail)
     clear hW6
     by_cases he1:e1=0
     ·subst he1
      have HN:Hid (endA (bI s) g' d ob fin names k name (q2+blankN ((bI s).drop q2))=RR):=HVA
      obtain⟨q3,hq3⟩:∃ q3,q2+blankN ((bI s).drop q2)=q3:=⟨_,rfl⟩
      have HB3:=Lib.hid (fun W=>rblank_any s q2 W (by omega) hq2b)
      have hb3:=blank_le ((bI s).drop q2)
      rw[List.length_drop,hlen] at hb3
      rw[hq3] at HN HB3
      have hq3a:q2≤q3:=by omega
      have hq3b:q3≤s.size:=by omega
      clear hq3 hb3 HVA
      go_upto_region 17 with fail
      go_cut [] from 41 to 123 (fun wx=>∃ v',ItS w wx kd (k+1) nm' vn' v')
      case first =>
       obtain⟨_,_,g4,_,z4,_⟩:=HS6.out.facts
       have k0:=nd_cell HN6.out 0
       have k1:=nd_cell HN6.out 1
       have k2:=nd_cell HN6.out 2
       have k3:=nd_cell HN6.out 3
       have k4:=nd_cell HN6.out 4
       obtain⟨v',W7,hr,c7,f7,hS7⟩:=HS6.out.more _ _ HCS.out (by omega)
       obtain⟨a9,n9',c9,rfl⟩:∃ a n c,v'=.slice a n c:=by obtain⟨_,_,a,c,_,e⟩:=hS7.forms;exact⟨_,_,_,e⟩
       have HS7:=Lib.hid hS7
       clear hS7
       go_wp2_with (first|(at_builtin;refine Lib.wpList_append_run _ rfl _ _ _ _ rfl _ _ rfl rfl _ _ hr ?_)|fail)
       go_meet
       case rel=>exact⟨_,HS7.out⟩
      case rest =>
       rename_i K hK
       refine hK _ _ ?_
       clear hK K
       obtain⟨v7,hS7⟩:=hcut
       generalize wc=w7 at *
       have HS7:=Lib.hid hS7
       have HRES:=Lib.hid hS7.res
       have HBX:=Lib.hid hS7.box
       have hone7:=hS7.nd.one
       clear hS7 HS6 HN6
       by_cases hqs:q3=s.size
       ·have HE:Hid (RR=(q3,3)):=Lib.hid (by rw[← HN.out];unfold endA;rw[if_pos (List.drop_eq_nil_of_le (by omega))])
        have j0:((q3:Int) == (s.size:Int))=true:=by rw[beq_iff_eq];omega
        clear HN hqs
        go_wp2_with fail
        refine(HB3.out _).mono ?_
        rintro e wz ⟨rfl,rfl⟩
        go_wp2_with (first|(refine wpList_store_row rfl 101 _ _ rfl (w.heap.size+1) ndZ rfl rfl 101 ndZ HRES.out nd_size rfl ndZ_one ?_)|fail)
        rw[← HQQ.out];refine bodyPost_ret (results_nd rfl _ _ (w.heap.size+1) ndZ (.int .i64 (q3:Int)) (.int .i64 3) rfl rfl rfl (nd_put HRES.out ndZ rfl) rfl) rfl (ValE.box_bad (HRR.out _ _ HE.out).1 (HRR.out _ _ HE.out).2 (by first|decide|assumption) (below_setRow HS7.out.bel (Nat.le_succ _) _))
       have hq3c:q3<s.size:=by omega
       have j0:((q3:Int) == (s.size:Int))=false:=beq_eq_false_iff_ne.2 (by omega)
       have j1:(0:Int)≤(q3:Int):=by omega
       have j2:(q3:Int)<(s.size:Int):=by omega
       have hnn:¬ (bI s).drop q3=[]:=by intro h;rw[List.drop_eq_nil_iff,hlen] at h;omega
       have hh:=head0_at s q3 hq3c
       obtain⟨c,hc⟩:∃ c,((s[q3]'hq3c).toNat:Int)=c:=⟨_,rfl⟩
       rw[hc] at hh
       obtain⟨q4,hq4⟩:∃ q4,q3+1=q4:=⟨_,rfl⟩
       have hw4:IntKind.i64.wrap ((q3:Int)+1)=(q4:Int):=by rw[IntKind.wrap_i64] <;> omega
       have hEN:=HN.out
       unfold endA at hEN
       rw[if_neg hnn,hh,hq4] at hEN
       clear hnn hh HN hqs
       by_cases hcf:c=fin
       ·have HE:Hid (RR=(q4,0)):=Lib.hid (by rw[← hEN,if_pos hcf])
        have j3:(c == fin)=true:=by rw[beq_iff_eq];exact hcf
        clear hEN hcf
        go_wp2_with fail
        refine(HB3.out _).mono ?_
        rintro e wz ⟨rfl,rfl⟩
        go_wp2_with (first|(refine wpList_load_row rfl 101 _ rfl w.heap.size rfl 101 _ (0,0) _ HBX.out Tryz.underlying101 rfl nd_size ?_)|(refine wpList_store_row rfl 101 _ _ rfl (w.heap.size+1) (itC kd vn' v7) rfl rfl 101 ndZ HRES.out nd_size rfl hone7 ?_)|fail)
        rw[← HQQ.out];refine bodyPost_ret (results_nd rfl _ _ (w.heap.size+1) (itC kd vn' v7) (.int .i64 (q4:Int)) (.int .i64 0) rfl rfl rfl (nd_put HRES.out (itC kd vn' v7) rfl) rfl) rfl (ValE.box_good (HRR.out _ _ HE.out).1 (HRR.out _ _ HE.out).2 (HKD.out (HRR.out _ _ HE.out).2) HS7.out.nd (below_setRow HS7.out.bel (Nat.le_succ _) _))
       rw[if_neg hcf] at hEN
       have j3:(c == fin)=false:=beq_eq_false_iff_ne.2 hcf
       by_cases hc44:c=44
       ·rw[if_neg (by simp[hc44])] at hEN
        obtain⟨q5,hq5⟩:∃ q5,q4+blankN ((bI s).drop q4)=q5:=⟨_,rfl⟩
        have HB4:=Lib.hid (fun W=>rblank_any s q4 W (by omega) (by omega))
        have hb4:=blank_le ((bI s).drop q4)
        rw[List.length_drop,hlen] at hb4
        rw[hq5] at hEN HB4
        have HNX:=Lib.hid hEN
        have hq5a:q<q5:=by omega
        have hq5b:q5≤s.size:=by omega
        have hk1:k+1≤64:=by have:=HMN.out;omega
        have hg2:2*(s.size - q5)+2≤g':=by omega
        have j4:(c != 44)=false:=by simp[hc44]
        have hpq5:p<q5:=by omega
        have hmq:s.size - q5<s.size - q:=by omega
        clear hEN hq5 hq4 hb4 hcf hc44
        go_wp2_with fail
        refine(HB3.out _).mono ?_
        rintro e wz ⟨rfl,rfl⟩
        go_wp2_with fail
        refine(HB4.out _).mono ?_
        rintro e wz ⟨rfl,rfl⟩
        go_wp2_with fail
        go_roundw
        case rel=>exact⟨q5,k+1,g',nm',names++[name],vn',v7,rfl,hq5b,hpq5,hk1,hnl',hg2,HNM',HNX,HS7.out⟩
        case measure=>simpa[intOf] using hmq
       ·have HE:Hid (RR=(q3,4)):=Lib.hid (by rw[← hEN,if_pos hc44])
        have j4:(c != 44)=true:=bne_iff_ne.2 hc44
        clear hEN hcf hc44
        go_wp2_with fail
        refine(HB3.out _).mono ?_
        rintro e wz ⟨rfl,rfl⟩
        go_wp2_with (first|(refine wpList_store_row rfl 101 _ _ rfl (w.heap.size+1) ndZ rfl rfl 101 ndZ HRES.out nd_size rfl ndZ_one ?_)|fail)
        rw[← HQQ.out];refine bodyPost_ret (results_nd rfl _ _ (w.heap.size+1) ndZ (.int .i64 (q3:Int)) (.int .i64 4) rfl rfl rfl (nd_put HRES.out ndZ rfl) rfl) rfl (ValE.box_bad (HRR.out _ _ HE.out).1 (HRR.out _ _ HE.out).2 (by first|decide|assumption) (below_setRow HS7.out.bel (Nat.le_succ _) _))
     ·have HE:Hid (RR=(q2,e1)):=Lib.hid (by rw[← HVA.out,if_pos he1])
      have j0:(e1 != 0)=true:=bne_iff_ne.2 he1
      have HRES:=Lib.hid HS6.out.res
      go_wp2_with (first|(refine wpList_store_row rfl 101 _ _ rfl (w.heap.size+1) ndZ rfl rfl 101 ndZ HRES.out nd_size rfl ndZ_one ?_)|fail)
      rw[← HQQ.out];refine bodyPost_ret (results_nd rfl _ _ (w.heap.size+1) ndZ (.int .i64 (q2:Int)) (.int .i64 e1) rfl rfl rfl (nd_put HRES.out ndZ rfl) rfl) rfl (ValE.box_bad (HRR.out _ _ HE.out).1 (HRR.out _ _ HE.out).2 (by first|decide|assumption) (below_setRow HS6.out.bel (Nat.le_succ _) _))
end Go.Proofs.YtdnmgpcfgcidbaaGreatDoor
