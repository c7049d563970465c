/- dJk dNk dNn dPl dPm dPc dPd dPp. -/
import Derived.Test.YtjkgkmmkehnggaaGreatDoorYs
import Derived.Test.YtjkgkmmkehnggaaGreatDoorYd2
import Derived.Test.YtjkgkmmkehnggaaGreatDoorRt
set_option maxHeartbeats 16000000
namespace Go.Proofs.YtjkgkmmkehnggaaGreatDoor
set_option linter.unusedVariables false
set_option linter.unusedSimpArgs false
open Go.RowKit
set_option maxRecDepth 20000
structure TInv (s:ByteArray) (R:List Int × Nat × Int) (p:Nat) (out:List Int):Prop where
 le:p≤s.size
 run:R=xaW s.size ((bI s).drop p) p out
 len:out.length≤4*p
 byte:∀ b ∈ out,0≤b∧b<256
theorem TInv.plain {s:ByteArray} {R:List Int × Nat × Int} {p k:Nat} {out:List Int} (h:TInv s R p out) (hk:Adv ((bI s).drop p) k):TInv s R (p+k) (out++((bI s).drop p).take k):=by
 have h1:=hk.1
 have hp:=h.le
 rw[List.length_drop,xaj] at h1
 refine⟨by omega,?_,?_,?_⟩
 ·rw[h.run,hk.2 _ _ _ (by rw[List.length_drop,xaj];omega),List.drop_drop]
 ·have:=h.len
  rw[List.length_append,List.length_take,List.length_drop,xaj]
  omega
 ·intro b hb
  rcases List.mem_append.1 hb with hb|hb
  ·exact h.byte b hb
  ·exact xto s b (List.mem_of_mem_drop (List.mem_of_mem_take hb))
theorem TInv.short {s:ByteArray} {R:List Int × Nat × Int} {p:Nat} {out:List Int} (h:TInv s R p out) (hs:xbg ((bI s).drop p)=.short):R=([],s.size,3):=by
 have hp:=h.le
 have e:p+((bI s).drop p).length=s.size:=by rw[List.length_drop,xaj];omega
 rw[h.run]
 cases hf:s.size with
 | zero=>rw[xaW,← hf,e]
 | succ f =>
  rw[xay,hs]
  show ([],p+_,3)=_
  rw[e,hf]
theorem TInv.pos {s:ByteArray} {R:List Int × Nat × Int} {p:Nat} {out:List Int} (h:TInv s R p out) (hp:p<s.size):∃ f,s.size=f+1∧R=match xbg ((bI s).drop p) with
  | .short=>([],p+((bI s).drop p).length,3)
  | .form=>([],p,4)
  | .fin=>(out,p+1,0)
  | .piece t n=>xaW f (((bI s).drop p).drop n) (p+n) (out++t):=by
 obtain⟨f,hf⟩:∃ f,s.size=f+1:=⟨s.size - 1,by omega⟩
 refine⟨f,hf,?_⟩
 have:=h.run
 rw[hf,xay] at this
 exact this
theorem TInv.form {s:ByteArray} {R:List Int × Nat × Int} {p:Nat} {out:List Int} (h:TInv s R p out) (hp:p<s.size) (hs:xbg ((bI s).drop p)=.form):R=([],p,4):=by
 obtain⟨f,_,hr⟩:=h.pos hp
 rw[hs] at hr;exact hr
theorem TInv.fin {s:ByteArray} {R:List Int × Nat × Int} {p:Nat} {out:List Int} (h:TInv s R p out) (hp:p<s.size) (hs:xbg ((bI s).drop p)=.fin):R=(out,p+1,0):=by
 obtain⟨f,_,hr⟩:=h.pos hp
 rw[hs] at hr;exact hr
theorem TInv.piece {s:ByteArray} {R:List Int × Nat × Int} {p n:Nat} {c:Int} {out:List Int} (h:TInv s R p out) (hp:p<s.size) (hs:xbg ((bI s).drop p)=.piece (xaY c) n) (h1:1≤n) (h2:n≤((bI s).drop p).length):TInv s R (p+n) (out++xaY c):=by
 obtain⟨f,hf,hr⟩:=h.pos hp
 rw[hs] at hr
 rw[List.length_drop,xaj] at h2
 refine⟨by omega,?_,?_,?_⟩
 ·rw[hr]
  show xaW f (((bI s).drop p).drop n) _ _=_
  rw[List.drop_drop,xdM f s.size _ _ _ (by rw[List.length_drop,xaj];omega) (by rw[List.length_drop,xaj];omega)]
 ·have:=h.len
  have:=xge c
  rw[List.length_append];omega
 ·intro b hb
  rcases List.mem_append.1 hb with hb|hb
  ·exact h.byte b hb
  ·exact xkP c b hb
theorem xf3 (s:ByteArray) (p:Nat) (h:p<s.size):(bI s).drop p=((s[p]'h).toNat:Int) :: (bI s).drop (p+1):=by
 have h1:=xny s p h
 have hk:p<(bI s).length:=by rw[xaj];exact h
 rw[List.drop_eq_getElem_cons hk]
 rw[List.getElem?_eq_getElem hk] at h1
 injection h1 with h2
 rw[h2]
def xgQ (R:List Int × Nat × Int) (w:World) (e:Ending) (w':World):Prop:=e=.returned (.tuple #[.string (str R.1),.int .i64 (R.2.1:Nat),.int .i64 R.2.2])∧Below w.heap.size w w'
def xw3:Value→Nat
 | .int _ n=>n.toNat
 | _=>0
theorem xrH (s:ByteArray) (p0:Nat) (w:World) (hp0:p0≤s.size) (hs:s.size≤10000):Calls Tryz.prog 238 #[.string s,.int .i64 p0] w (xgQ (xaW s.size ((bI s).drop p0) p0 []) w):=by
 have H0:Hid (TInv s (xaW s.size ((bI s).drop p0) p0 []) p0 []):=lH ⟨hp0,rfl,by simp,by simp⟩
 generalize xaW s.size ((bI s).drop p0) p0 []=R at *
 have e0:str []={ data:=#[] }:=rfl
 have HD0:=lH (Bd.fresh w)
 have HB0:Hid (Below w.heap.size w (w.alloc (.cells #[.pointer none,.slice none 0 0] 174))):=lH ((Below.refl _ w).alloc (Nat.le_refl _) _)
 unfold xgQ
 clear hp0
 go_enter Tryz.func238,Tryz.ntmps238
 go_wp2_with fail
 go_loopw [1] (fun i wr=>∃ (p:Nat) (out:List Int),i=.int .i64 p∧Hid (TInv s R p out)∧Hid (Bd w.heap.size out wr)∧Hid (Below w.heap.size w wr)) (fun i _=>s.size - xw3 i)
 case atStart=>exact⟨p0,[],rfl,H0,HD0,HB0⟩
 case round =>
  obtain⟨p,out,rfl,HI,HD,HB⟩:=hrel
  have hle:=HI.out.le
  have hps:(p:Int)≤(s.size:Int):=by omega
  have hln:=HI.out.len
  have HPL:=lH (fun W=>xrp (s.extract p s.size) W (by rw[ByteArray.size_extract];omega))
  unfold xiE at HPL
  rw[xhc s p hle] at HPL
  have HLN:=lH (show out.length≤4*p∧p≤s.size from ⟨hln,hle⟩)
  clear hln hle
  go_wp2_with fail
  refine(HPL.out _).mono ?_
  rintro e w1 ⟨⟨k,rfl,hk1,hk2,hk3⟩,hb1⟩
  obtain⟨q,hq⟩:∃ q,p+k=q:=⟨_,rfl⟩
  have hq2:(p:Int)+(k:Int)=(q:Int):=by omega
  have hle:=HLN.out.2
  have hqs:q≤s.size:=by rw[ByteArray.size_extract] at hk1;omega
  have hpq:(p:Int)≤(q:Int):=by omega
  have hqi:(q:Int)≤(s.size:Int):=by omega
  have hbe:bI (s.extract p q)=((bI s).drop p).take k:=by rw[xch _ _ _ (by omega),show q - p=k by omega]
  have HI1:Hid (TInv s R q (out++bI (s.extract p q))):=lH (by rw[hbe,← hq];exact HI.out.plain hk2)
  have HNP:Hid (¬ xlJ ((bI s).drop q)):=lH (by rw[← hq,← List.drop_drop];exact hk3)
  have HD1:=lH (HD.out.kept hb1)
  have HB1:=lH (HB.out.trans (hb1.mono HB.out.size))
  have HWS:=lH (fun W (hb:Bd w.heap.size out W)=>xAI w.heap.size out (s.extract p q) W hb (by have:=HLN.out.1;omega) (by rw[ByteArray.size_extract];omega))
  have wq:IntKind.i64.wrap (q:Int)=(q:Int):=by rw[IntKind.wrap_i64];omega
  have HPQ:Hid (p≤q):=lH (by omega)
  generalize out++bI (s.extract p q)=out1 at *
  clear hq hk1 hk2 hk3 hb1 hbe hle hpq
  go_wp2_with fail
  refine(HWS.out _ HD1.out).mono ?_
  rintro e w2 ⟨rfl,g1,g2,g3⟩
  have HD2:=lH g1
  have HB2:=lH (HB1.out.trans g2)
  clear g1 g2 g3
  by_cases hend:q=s.size
  ·have HR:Hid (R=([],q,3)):=lH (by rw[hend];exact HI1.out.short (by rw[List.drop_of_length_le (by rw[xaj];omega)];rfl))
   have hend2:(q:Int)=(s.size:Int):=by omega
   have hend3:((q:Int) == (s.size:Int))=true:=by simpa using hend2
   clear hend hend2
   go_wp2_with fail
   refine bodyPost_ret (v:=.tuple #[.string { data:=#[] },.int .i64 q,.int .i64 3]) (by simp[results,Tryz.results238,go_sem]) rfl ⟨by rw[HR.out,e0],HB2.out⟩
  have hlt:q<s.size:=by omega
  have hlt2:(q:Int)<(s.size:Int):=by omega
  have hend3:((q:Int) == (s.size:Int))=false:=by
   rw[beq_eq_false_iff_ne];omega
  have hsp:=xf3 s q hlt
  have hbl:=(s[q]'hlt).toNat_lt
  obtain⟨b,hbv⟩:∃ b:Int,((s[q]'hlt).toNat:Int)=b:=⟨_,rfl⟩
  rw[hbv] at hsp
  clear hend
  by_cases h34:b=34
  ·have HR:Hid (R=(out1,q+1,0)):=lH (HI1.out.fin hlt (by rw[hsp,h34];exact xrQ _))
   have HST:=lH (fun W (hb:Bd w.heap.size out1 W)=>xBY w.heap.size out1 W hb HI1.out.byte)
   have w1q:IntKind.i64.wrap ((q:Int)+1)=(q:Int)+1:=by rw[IntKind.wrap_i64];omega
   subst h34
   clear hsp hbl
   go_wp2_with fail
   refine(HST.out _ HD2.out).mono ?_
   rintro e w3 ⟨rfl,g2⟩
   have HB3:=lH (HB2.out.trans g2)
   clear g2
   go_wp2_with fail
   refine bodyPost_ret (v:=.tuple #[.string (str out1),.int .i64 ((q:Int)+1),.int .i64 0]) (by simp[results,Tryz.results238,go_sem]) rfl ⟨by rw[HR.out];rfl,HB3.out⟩
  have b34:(b == 34)=false:=by rw[beq_eq_false_iff_ne];exact h34
  by_cases h92:b=92
  ·subst h92
   have hst:xbg ((bI s).drop q)=xk5 ((bI s).drop q):=by rw[hsp];exact xeW _
   have hfr:=xhc s q (Nat.le_of_lt hlt)
   have HMK:=lH (fun W=>xuF (s.extract q s.size) W (by rw[ByteArray.size_extract];omega) (by rw[ByteArray.size_extract];omega) (by rw[hfr,hsp];rfl))
   unfold xfh at HMK
   rw[hfr] at HMK
   have HST:=lH hst
   have HLEN:Hid (((bI s).drop q).length=s.size - q):=lH (by rw[List.length_drop,xaj])
   have HLT:=lH hlt
   clear hsp hbl hfr hst
   go_wp2_with fail
   refine(HMK.out _).mono ?_
   rintro e w3 ⟨⟨c,n,er,rfl,hok⟩,hb3⟩
   have HB3:=lH (HB2.out.trans (hb3.mono HB2.out.size))
   have HD3:=lH (HD2.out.kept hb3)
   clear hb3
   rcases hok with ⟨rfl,h1⟩|⟨rfl,h1⟩|⟨rfl,h1,h2,h3,h4⟩
   ·have HR:Hid (R=([],s.size,3)):=lH (HI1.out.short (by rw[HST.out];exact h1))
    clear h1
    go_wp2_with fail
    refine bodyPost_ret (v:=.tuple #[.string { data:=#[] },.int .i64 s.size,.int .i64 3]) (by simp[results,Tryz.results238,go_sem]) rfl ⟨by rw[HR.out,e0],HB3.out⟩
   ·have HR:Hid (R=([],q,4)):=lH (HI1.out.form HLT.out (by rw[HST.out];exact h1))
    clear h1
    go_wp2_with fail
    refine bodyPost_ret (v:=.tuple #[.string { data:=#[] },.int .i64 q,.int .i64 4]) (by simp[results,Tryz.results238,go_sem]) rfl ⟨by rw[HR.out,e0],HB3.out⟩
   ·have HI2:=lH (HI1.out.piece HLT.out (by rw[HST.out];exact h1) h3 h4)
    have HL1:Hid (out1.length≤900000):=lH (by have:=HI1.out.len;omega)
    have HWR:=lH (fun W (hb:Bd w.heap.size out1 W)=>xBC w.heap.size out1 c W hb h2 (by have:=HL1.out;omega))
    have hn:n≤s.size - q:=by rw[← HLEN.out];exact h4
    have wn:IntKind.i64.wrap ((q:Int)+(n:Int))=(q:Int)+(n:Int):=by rw[IntKind.wrap_i64];omega
    have HN:=lH (show 1≤n∧n≤s.size - q from ⟨h3,hn⟩)
    clear h1 h2 h3 h4 hn
    go_wp2_with fail
    refine(HWR.out _ HD3.out).mono ?_
    rintro e w4 ⟨rfl,g1,g2,g3⟩
    have HD4:=lH g1
    have HB4:=lH (HB3.out.trans g2)
    clear g1 g2 g3
    go_wp2_with fail
    refine⟨⟨q+n,_,by go_num,HI2,HD4,HB4⟩,?_⟩
    have:=HN.out
    have:=HPQ.out
    have:=HLT.out
    simp only[xw3]
    omega
  ·have HR:Hid (R=([],q,4)):=lH (HI1.out.form hlt (xwl HNP.out (by rw[hsp];simp) (by rw[hsp];exact h34) (by rw[hsp];exact h92)))
   have b92:(b == 92)=false:=by rw[beq_eq_false_iff_ne];exact h92
   clear hsp hbl
   go_wp2_with fail
   refine bodyPost_ret (v:=.tuple #[.string { data:=#[] },.int .i64 q,.int .i64 4]) (by simp[results,Tryz.results238,go_sem]) rfl ⟨by rw[HR.out,e0],HB2.out⟩
theorem xuP (l:List Int) (p:Nat) (hp:p<l.length) (h:l.getD p 0=34):xa8 l p=xaW l.length (l.drop (p+1)) (p+1) []:=by
 unfold xa8
 rw[if_neg (by omega),if_neg (by omega),if_neg (by rw[Int.toNat_natCast];exact fun hq=>hq h)]
 rw[Int.toNat_natCast]
theorem xkV (s:ByteArray) (p:Nat) (w:World) (hp:p≤s.size) (hs:s.size≤10000):Calls Tryz.prog 204 #[.string s,.int .i64 p] w fun e w'=>e=.returned (.tuple #[.string (str (xa8 (bI s) p).1),.int .i64 ((xa8 (bI s) p).2.1:Nat),.int .i64 (xa8 (bI s) p).2.2])∧Below w.heap.size w w':=by
 have e0:str []={ data:=#[] }:=rfl
 have hl:=xaj s
 have n0:¬ (p:Int)<0:=by omega
 by_cases he:p=s.size
 ·have HR:Hid (xa8 (bI s) p=([],p,3)):=lH (by
   unfold xa8
   rw[if_neg (by omega),if_pos (by omega),Int.toNat_natCast])
  rw[HR.out,e0]
  have q1:(p:Int)≤(s.size:Int):=by omega
  have q2:((p:Int) == (s.size:Int))=true:=by simpa using (show (p:Int)=s.size by omega)
  clear HR hl he hp
  go_enter Tryz.func204,Tryz.ntmps204
  go_wp2_with fail
  refine bodyPost_ret (v:=.tuple #[.string { data:=#[] },.int .i64 p,.int .i64 3]) (by simp[results,Tryz.results204,go_sem]) rfl ⟨rfl,by go_grown⟩
 have hlt:p<s.size:=by omega
 have hsp:=xf3 s p hlt
 have hgd:(bI s).getD p 0=((s[p]'hlt).toNat:Int):=by
  rw[List.getD_eq_getElem?_getD,xny s p hlt];rfl
 have hbl:=(s[p]'hlt).toNat_lt
 obtain⟨b,hbv⟩:∃ b:Int,((s[p]'hlt).toNat:Int)=b:=⟨_,rfl⟩
 rw[hbv] at hgd
 have q1:(p:Int)<(s.size:Int):=by omega
 have q2:((p:Int) == (s.size:Int))=false:=by rw[beq_eq_false_iff_ne];omega
 by_cases h34:b=34
 ·have HR:Hid (xa8 (bI s) p=xaW s.size ((bI s).drop (p+1)) (p+1) []):=lH (by
   rw[xuP _ _ (by omega) (by rw[hgd,h34]),hl])
  have HK:=lH (fun W=>xrH s (p+1) W (by omega) hs)
  unfold xgQ at HK
  rw[HR.out]
  generalize xaW s.size ((bI s).drop (p+1)) (p+1) []=R at *
  have w1:IntKind.i64.wrap ((p:Int)+1)=((p+1:Nat):Int):=by rw[IntKind.wrap_i64];omega
  subst h34
  clear HR hsp hbl hgd hl he
  go_enter Tryz.func204,Tryz.ntmps204
  go_wp2_with fail
  refine(HK.out _).mono ?_
  rintro e w1 ⟨rfl,hb1⟩
  go_wp2_with fail
  refine bodyPost_ret (v:=.tuple #[.string (str R.1),.int .i64 (R.2.1:Nat),.int .i64 R.2.2]) (by simp[results,Tryz.results204,go_sem]) rfl ⟨rfl,hb1⟩
 ·have HR:Hid (xa8 (bI s) p=([],p,4)):=lH (by
   unfold xa8
   rw[if_neg (by omega),if_neg (by omega),Int.toNat_natCast,if_pos (by rw[hgd];exact h34)])
  rw[HR.out,e0]
  have b34:(b == 34)=false:=by rw[beq_eq_false_iff_ne];exact h34
  clear HR hsp hbl hgd hl he
  go_enter Tryz.func204,Tryz.ntmps204
  go_wp2_with fail
  refine bodyPost_ret (v:=.tuple #[.string { data:=#[] },.int .i64 p,.int .i64 4]) (by simp[results,Tryz.results204,go_sem]) rfl ⟨rfl,by go_grown⟩
theorem xdD (w:World) (o:Obj):(w.alloc o).heap[w.heap.size]?=some o:=by
 show (w.heap.push o)[w.heap.size]?=_
 simp
theorem xbi {w:World} {o:Obj} {k:Nat} (h:k<w.heap.size):(w.alloc o).heap[k]?=w.heap[k]?:=((Below.refl w.heap.size w).alloc (Nat.le_refl _) o).block k h
theorem xeU (sz bytes:Nat) (W:World) (B:Nat) (TS E ty:TypeId) (z:Value) (ht:Tryz.prog.underlying TS=some (.slice E)) (hI:(Tryz.prog.info? E).map (fun i=>(i.zero,i.size,i.bytes))=some (some z,sz,bytes)) (hzs:z.cells.size=sz) (hsz:0<sz) (hby:bytes≤64)
  (v:Value) (n:Nat) (L:List Value) (hown:W.ownsRow B E sz v n L) (ad:Addr) (m c:Nat) (xs:List Value) (hxs:xs.length=m*sz) (hnews:∀ j u,xs[j]?=some u→W.cell? (ad.add j)=some u) (hone:∀ u ∈ xs,u.oneCell'=true) (hm:0<m) (hl:n+m≤1000000000) (hb:B≤W.heap.size) :
  ∃ v' w',(Builtin.append_ #[TS,TS] ty #[v,.slice (some ad) m c]).run Tryz.prog W=.ok v' w'∧w'.ownsRow B E sz v' (n+m) (L++xs)∧W.grownBy w' v.ownBlock∧(v'.ownBlock=v.ownBlock∨∃ g,v'.ownBlock=some g∧W.heap.size≤g):=by
 obtain⟨i0,hi,hz0,hz1,hz2⟩:=xao hI
 have hbb:(n+m)*bytes≤1000000000*64:=Nat.mul_le_mul hl hby
 obtain⟨v',w',hr,h2,h3,h4⟩:=run_append_own (P:=Tryz.prog) W B TS ty E i0 _ sz bytes ht hi hz0 hz1 hz2 hzs hsz v n L hown ad m c xs hxs hnews hone (by unfold maxLen;omega) (by omega) hb
 refine⟨v',w',hr,h2,h3,?_⟩
 rcases hown.2 with ⟨rfl,hn⟩|⟨g,cap,cur,rfl,hbg,hg,hnc,hcm,hcs,htake⟩
 ·obtain⟨_,_,hr2,h22,_,_⟩:=run_append_own (P:=Tryz.prog) W W.heap.size TS ty E i0 _ sz bytes ht hi hz0 hz1 hz2 hzs hsz (.slice none 0 0) n L ⟨hown.1,.inl ⟨rfl,hn⟩⟩ ad m c xs hxs hnews hone (by unfold maxLen;omega) (by omega) (Nat.le_refl _)
  rw[hr] at hr2
  injection hr2 with e1 e2
  subst e1 e2
  rcases h22.2 with ⟨rfl,_⟩|⟨g,cap,cur,rfl,hg,_⟩
  ·exact .inl rfl
  ·exact .inr ⟨g,rfl,hg⟩
 ·have hL:L.length=n*i0.size:=by rw[hz1];exact hown.1
  by_cases hroom:n+m≤cap
  ·have hmul:(n+m)*sz≤cap*sz:=Nat.mul_le_mul_right _ hroom
   have hr2:=run_append_room (P:=Tryz.prog) W TS ty E i0 ht hi g n cap cur hg ad m c xs (by rw[hz1];exact hxs) hnews hone hroom (by rw[hz1,hxs,hcs,← Nat.add_mul];exact hmul)
   rw[hr] at hr2
   injection hr2 with e1 e2
   rw[e1]
   exact .inl rfl
  ·have hr2:=run_append_grow (P:=Tryz.prog) W TS ty E i0 _ ht hi hz0 ⟨g,0,none⟩ n cap L hL (World.ownsRow.cells hown rfl) ad m c xs (by rw[hz1];exact hxs) hnews (by omega) (by omega) (growslice_fits (by omega) (by rw[hz2];omega))
   rw[hr] at hr2
   injection hr2 with e1 e2
   rw[e1]
   exact .inr ⟨_,rfl,Nat.le_refl _⟩
theorem xys:(Tryz.prog.info? 20).map (fun i=>(i.zero,i.size,i.bytes))=some (some .nilIface,1,16):=by kernel_rfl
theorem xrR {S:Nat→Prop} {w:World} {v:Js} {x:Value} (h:xas S w v x):x.oneCell'=true:=by
 cases v <;> rw[xas] at h
 ·rw[h];rfl
 ·rw[h];rfl
 ·rw[h];rfl
 ·obtain⟨t,rfl,_⟩:=h;rfl
 ·obtain⟨a,c,rfl,_⟩:=h;rfl
 ·obtain⟨a,c,rfl,_⟩:=h;rfl
 ·rw[h];rfl
abbrev Its:=List (List Int × Js)
def xfL:Its→Jl→Jl
 | [],l=>l
 | (n,v) :: t,l=>.cons n v (xfL t l)
theorem xhb:∀ (vs:Its) (n:List Int) (v:Js) (l:Jl),xfL (vs++[(n,v)]) l=xfL vs (.cons n v l)
 | [],n,v,l=>rfl
 | (m,u) :: t,n,v,l=>by rw[List.cons_append,xfL,xhb t n v l,xfL]
theorem xlb:∀ (vs:Its) (j:Nat) (n:List Int) (v:Js),(xfL vs .nil).at? j=some (n,v)→vs[j]?=some (n,v)
 | [],j,n,v,h=>by cases h
 | (m,u) :: t,0,n,v,h=>by simpa[xfL,Jl.at?] using h
 | (m,u) :: t,j+1,n,v,h=>by simpa using xlb t j n v h
theorem xet:∀ vs:Its,(xfL vs .nil).length=vs.length
 | []=>rfl
 | (m,u) :: t=>by rw[xfL,Jl.length,xet t];rfl
theorem xhF:∀ vs:Its,(xfL vs .nil).names=vs.map (·.1)
 | []=>rfl
 | (m,u) :: t=>by rw[xfL,Jl.names,xhF t];rfl
def szI (pr:Bool):Nat:=if pr then 2 else 1
def tyI (pr:Bool):TypeId:=if pr then 350 else 20
def slI (pr:Bool):TypeId:=if pr then 136 else 343
def xdm (pr:Bool) (S:Nat→Prop) (w:World) (p:List Int × Js) (cs:List Value):Prop :=
 ∃ x,xas S w p.2 x∧if pr=true then ∃ t:ByteArray,cs=[.string t,x]∧bI t=p.1∧p.1.length≤5000 else cs=[x]
theorem xdm.len {pr:Bool} {S:Nat→Prop} {w:World} {p:List Int × Js} {cs:List Value} (h:xdm pr S w p cs):cs.length=szI pr:=by
 obtain⟨x,_,h⟩:=h
 cases pr
 ·simp at h;rw[h];rfl
 ·simp at h;obtain⟨t,rfl,_⟩:=h;rfl
theorem xdm.one {pr:Bool} {S:Nat→Prop} {w:World} {p:List Int × Js} {cs:List Value} (h:xdm pr S w p cs):∀ u ∈ cs,u.oneCell'=true:=by
 obtain⟨x,hx,h⟩:=h
 have:=xrR hx
 cases pr
 ·simp at h;subst h;intro u hu;obtain rfl:u=x:=by simpa using hu
  exact this
 ·simp at h;obtain⟨t,rfl,_⟩:=h;intro u hu
  rcases(by simpa using hu:u=.string t∨u=x) with rfl|rfl
  ·rfl
  ·exact this
theorem xdm.keep {pr:Bool} {S S':Nat→Prop} {w w':World} {p:List Int × Js} {cs:List Value} (hS:∀ b,S b→b<w.heap.size→S' b) (hs:w.heap.size≤w'.heap.size) (hk:∀ b,S b→b<w.heap.size→w'.heap[b]?=w.heap[b]?) (h:xdm pr S w p cs):xdm pr S' w' p cs:=by
 obtain⟨x,hx,h⟩:=h
 exact⟨x,xas.keep hS hs hk _ _ hx,h⟩
def xgP (pr:Bool) (B:Nat) (X:Nat→Prop) (vs:Its) (l:Value) (w:World):Prop :=
 ∃ xs:List Value,w.ownsRow B (tyI pr) (szI pr) l vs.length xs∧∀ j p,vs[j]?=some p→xdm pr (fun b=>X b∧l.ownBlock≠some b) w p ((xs.drop (j*szI pr)).take (szI pr))
theorem xiw {pr:Bool} {B:Nat} {X:Nat→Prop} {vs:Its} {l:Value} {w:World} (h:xgP pr B X vs l w):∀ b,l.ownBlock=some b→B≤b∧b<w.heap.size:=by
 obtain⟨xs,h1,_⟩:=h
 exact World.ownsRow.lt h1
theorem xjB {pr:Bool} {B:Nat} {X:Nat→Prop} {vs:Its} {l:Value} {w w':World} (h:xgP pr B X vs l w) (hs:w.heap.size≤w'.heap.size) (hr:∀ b,l.ownBlock=some b→w'.heap[b]?=w.heap[b]?) (hk:∀ b,X b→l.ownBlock≠some b→b<w.heap.size→w'.heap[b]?=w.heap[b]?):xgP pr B X vs l w':=by
 obtain⟨xs,h1,h2⟩:=h
 refine⟨xs,?_,fun j p hp=>(h2 j p hp).keep (fun _ e _=>e) hs (fun b hb hlt=>hk b hb.1 hb.2 hlt)⟩
 obtain⟨g1,g2⟩:=h1
 refine⟨g1,?_⟩
 rcases g2 with g2|⟨g,cap,cur,hv,hg,hh,r⟩
 ·exact .inl g2
 ·refine .inr ⟨g,cap,cur,hv,hg,?_,r⟩
  rw[hr g (by rw[hv];rfl)];exact hh
theorem xn9 {pr:Bool} {B:Nat} {X:Nat→Prop} {vs:Its} {l:Value} {w w':World} (h:xgP pr B X vs l w) (hb:Below w.heap.size w w'):xgP pr B X vs l w' :=
 xjB h hb.size (fun b e=>hb.block b (xiw h b e).2) (fun b _ _ hlt=>hb.block b hlt)
theorem xqV {pr:Bool} {B:Nat} {X:Nat→Prop} {vs:Its} {l:Value} {w:World} {p:List Int × Js} {cs:List Value} (ty:TypeId) (h:xgP pr B X vs l w) (hi:vs.length≤1000000) (h0:B≤w.heap.size)
  (hx:xdm pr (fun b=>X b∧l.ownBlock≠some b) w p cs):∃ v' w',(Builtin.append_ #[slI pr,slI pr] ty #[l,.slice (some ⟨w.heap.size,0,none⟩) 1 1]).run Tryz.prog (w.alloc (.cells cs.toArray (tyI pr)))=.ok v' w'∧xgP pr B X (vs++[p]) v' w' ∧
   (w.alloc (.cells cs.toArray (tyI pr))).grownBy w' l.ownBlock∧(v'.ownBlock=l.ownBlock∨∃ g,v'.ownBlock=some g∧w.heap.size≤g):=by
 obtain⟨xs,h1,h2⟩:=h
 have hlt:=World.ownsRow.lt h1
 have hxl:xs.length=vs.length*szI pr:=h1.1
 have hcl:=hx.len
 have hcell:∀ j u,cs[j]?=some u→(w.alloc (.cells cs.toArray (tyI pr))).cell? ((⟨w.heap.size,0,none⟩:Addr).add j)=some u:=by
  intro j u hu
  rw[Go.WideShapes.add_plain,World.cell?_alloc_mark]
  simpa using hu
 obtain⟨v',w',hr,g1,g2,g3⟩:∃ v' w',(Builtin.append_ #[slI pr,slI pr] ty #[l,.slice (some ⟨w.heap.size,0,none⟩) 1 1]).run Tryz.prog (w.alloc (.cells cs.toArray (tyI pr)))=.ok v' w'∧w'.ownsRow B (tyI pr) (szI pr) v' (vs.length+1) (xs++cs)∧(w.alloc (.cells cs.toArray (tyI pr))).grownBy w' l.ownBlock∧(v'.ownBlock=l.ownBlock∨∃ g,v'.ownBlock=some g∧(w.alloc (.cells cs.toArray (tyI pr))).heap.size≤g):=by
  cases pr
  ·exact xeU 1 16 (w.alloc (.cells cs.toArray 20)) B 343 20 ty _ Tryz.underlying343 xys rfl (by omega) (by omega) l vs.length xs (h1.alloc _) ⟨w.heap.size,0,none⟩ 1 1 cs (by rw[hcl];rfl) hcell hx.one (by omega) (by omega) (by simp;omega)
  ·exact xeU 2 32 (w.alloc (.cells cs.toArray 350)) B 136 350 ty (.agg #[.string { data:=#[] },.nilIface]) Tryz.underlying136 (by kernel_rfl) rfl (by omega) (by omega) l vs.length xs (h1.alloc _) ⟨w.heap.size,0,none⟩ 1 1 cs (by rw[hcl];rfl) hcell hx.one (by omega) (by omega) (by simp;omega)
 have hsz:(w.alloc (.cells cs.toArray (tyI pr))).heap.size=w.heap.size+1:=by simp
 have hS:∀ b,(X b∧l.ownBlock≠some b)→b<w.heap.size→X b∧v'.ownBlock≠some b:=by
  intro b hb hlt
  refine⟨hb.1,?_⟩
  rcases g3 with e|⟨g,e,hg⟩
  ·rw[e];exact hb.2
  ·rw[e]
   intro e'
   obtain rfl:g=b:=by simpa using e'
   omega
 have hk:∀ b,(X b∧l.ownBlock≠some b)→b<w.heap.size→w'.heap[b]?=w.heap[b]?:=fun b hb hlt =>
  (g2.block b (by omega) (fun e=>hb.2 e.symm)).trans (xbi hlt)
 have hs:w.heap.size≤w'.heap.size:=by have:=g2.size;omega
 refine⟨v',w',hr,⟨xs++cs,by rw[List.length_append];exact g1,fun j q hq=>?_⟩,g2,?_⟩
 ·by_cases hj:j<vs.length
  ·rw[List.getElem?_append_left hj] at hq
   have hmul:(j+1)*szI pr≤vs.length*szI pr:=Nat.mul_le_mul_right _ hj
   rw[Nat.add_mul,Nat.one_mul] at hmul
   rw[List.drop_append_of_le_length (by omega),List.take_append_of_le_length (by rw[List.length_drop];omega)]
   exact(h2 j q hq).keep hS hs hk
  ·have hjl:=(List.getElem?_eq_some_iff.1 hq).1
   rw[List.length_append,List.length_singleton] at hjl
   obtain rfl:j=vs.length:=by omega
   rw[List.getElem?_append_right (by omega),Nat.sub_self] at hq
   obtain rfl:p=q:=by simpa using hq
   rw[← hxl,List.drop_left,List.take_of_length_le (by omega)]
   exact hx.keep hS hs hk
 ·rcases g3 with e|⟨g,e,hg⟩
  ·exact .inl e
  ·exact .inr ⟨g,e,by omega⟩
theorem xdw {pr:Bool} {B:Nat} {X:Nat→Prop} {vs:Its} {l:Value} {w:World} (h:xgP pr B X vs l w):∃ a cap,l=.slice a vs.length cap∧vs.length≤cap∧cap≤maxLen ∧
  ∀ k p,vs[k]?=some p→∃ g cs,a=some ⟨g,0,none⟩∧B≤g∧g<w.heap.size∧(∀ j u,cs[j]?=some u→w.cell? ⟨g,k*szI pr+j,none⟩=some u)∧xdm pr X w p cs:=by
 obtain⟨xs,h1,h2⟩:=h
 have hlt:=World.ownsRow.lt h1
 have h1':=h1
 have hxl:xs.length=vs.length*szI pr:=h1.1
 rcases h1.2 with ⟨rfl,hn⟩|⟨g,cap,cur,rfl,hg,hh,hle,hm,_⟩
 ·refine⟨none,0,by rw[hn],by omega,by omega,fun k p hk=>?_⟩
  have:=(List.getElem?_eq_some_iff.1 hk).1
  omega
 ·refine⟨some ⟨g,0,none⟩,cap,rfl,hle,hm,fun k p hk=>?_⟩
  have hkl:=(List.getElem?_eq_some_iff.1 hk).1
  refine⟨g,(xs.drop (k*szI pr)).take (szI pr),rfl,(hlt g rfl).1,(hlt g rfl).2,fun j u hu=>?_,(h2 k p hk).keep (fun _ e _=>e.1) (Nat.le_refl _) (fun _ _ _=>rfl)⟩
  have hj:=(List.getElem?_eq_some_iff.1 hu).1
  rw[List.length_take] at hj
  rw[List.getElem?_take_of_lt (by omega),List.getElem?_drop] at hu
  have:=World.ownsRow.cells h1' rfl (k*szI pr+j) u hu
  rw[Go.WideShapes.add_plain,Nat.zero_add] at this
  exact this
theorem xsQ {B:Nat} {X:Nat→Prop} {vs:Its} {l:Value} {w:World} (h:xgP false B X vs l w) (hX:∀ b,B≤b→b<w.heap.size→l.ownBlock=some b→X b):xas X w (.arr (xfL vs .nil)) (.iface 343 l):=by
 obtain⟨a,cap,rfl,h1,h2,h3⟩:=xdw h
 rw[xas,xet]
 refine⟨a,cap,rfl,h1,h2,xhm.of _ _ fun k n v hk=>?_⟩
 obtain⟨g,cs,rfl,hg,hlt,hc,x,hx,hcs⟩:=h3 k (n,v) (xlb vs k n v hk)
 simp only[Bool.false_eq_true,if_false] at hcs
 subst hcs
 refine⟨g,0,x,rfl,hX g hg hlt rfl,hlt,?_,hx⟩
 have:=hc 0 x rfl
 simpa[szI] using this
theorem xke {B:Nat} {X:Nat→Prop} {vs:Its} {l:Value} {w:World} (h:xgP true B X vs l w) (hX:∀ b,B≤b→b<w.heap.size→l.ownBlock=some b→X b):xas X w (.obj (xfL vs .nil)) (.iface 136 l):=by
 obtain⟨a,cap,rfl,h1,h2,h3⟩:=xdw h
 rw[xas,xet]
 refine⟨a,cap,rfl,h1,h2,xfv.of _ _ fun k n v hk=>?_⟩
 obtain⟨g,cs,rfl,hg,hlt,hc,x,hx,hcs⟩:=h3 k (n,v) (xlb vs k n v hk)
 simp only[if_true] at hcs
 obtain⟨t,rfl,ht,hn⟩:=hcs
 refine⟨g,0,x,t,rfl,hX g hg hlt rfl,hlt,?_,ht,hn,?_,hx⟩
 ·have:=hc 0 _ rfl
  simpa[szI] using this
 ·have:=hc 1 _ rfl
  simpa[szI] using this
end Go.Proofs.YtjkgkmmkehnggaaGreatDoor
namespace Go.Proofs.YtjkgkmmkehnggaaGreatDoor
set_option linter.unusedVariables false
set_option linter.unusedSimpArgs false
open Go.RowKit
set_option maxRecDepth 20000
set_option maxHeartbeats 2000000
theorem xx2 (l t:List Int) (n:Nat) (h:xk5 l=.piece t n):t.length≤n:=by
 match l,h with
 | [],h=>cases h
 | [a],h=>cases h
 | a :: b :: r,h =>
  rw[xd2] at h
  cases h2:xwq b with
  | some x=>rw[h2] at h;simp only[St.piece.injEq] at h;rw[← h.1,← h.2];simp
  | none =>
   rw[h2] at h
   simp only at h
   split at h
   ·unfold xp0 at h;split at h <;> cases h
   split at h
   ·simp only[St.piece.injEq] at h;rw[← h.1,← h.2];have:=xge (xan (a :: b :: r)).1;omega
   split at h
   ·cases h
   split at h
   ·unfold xp0 at h;split at h <;> cases h
   split at h
   ·cases h
   ·simp only[St.piece.injEq] at h;rw[← h.1,← h.2];have:=xge (65536+1024*((xan (a :: b :: r)).1 - 55296)+(xan ((a :: b :: r).drop 6)).1 - 56320);omega
theorem xme (l t:List Int) (n:Nat) (h:xbg l=.piece t n):t.length≤n:=by
 cases l with
 | nil=>cases h
 | cons b s =>
  rw[xbg] at h
  split at h
  ·cases h
  split at h
  ·exact xx2 _ _ _ h
  split at h
  ·cases h
  ·simp only[St.piece.injEq] at h;rw[← h.1,← h.2];exact Nat.le_refl _
theorem xjX:∀ (f:Nat) (l:List Int) (p:Nat) (out:List Int),(xaW f l p out).1.length≤out.length+l.length
 | 0,l,p,out=>by simp[xaW]
 | f+1,l,p,out=>by
  rw[xay]
  cases hs:xbg l with
  | short=>simp
  | form=>simp
  | fin=>simp
  | piece t n =>
   have h1:=xme l t n hs
   have h2:=(xcN l t n hs).len
   have:=xjX f (l.drop n) (p+n) (out++t)
   simp only
   rw[List.length_append,List.length_drop] at this
   omega
theorem xj1 (l:List Int):(xav l).1.length≤l.length:=by
 cases l with
 | nil=>simp[xav]
 | cons b t =>
  rw[xav]
  split
  ·have:=xjX (t.length+1) t 1 [];simp at this ⊢;omega
  ·simp
def BEq (l:List Int) (n k:Nat):Prop:=n≤k∧k≤l.length∧k+xab (l.drop k)=n+xab (l.drop n)
theorem BEq.same {l:List Int} {n:Nat} (h:n≤l.length):BEq l n n:=⟨Nat.le_refl _,h,rfl⟩
def xdY (g d:Nat) (ob:Bool) (names:List (List Int)) (l:List Int):(List Int × Js) × Nat × Int :=
 if (xbh ob names l).2.2≠0 then (([],.nul),(xbh ob names l).2.1,(xbh ob names l).2.2) else
 (((xbh ob names l).1,(xai g (d+1) (l.drop (xbh ob names l).2.1)).1),(xbh ob names l).2.1+(xai g (d+1) (l.drop (xbh ob names l).2.1)).2.1,(xai g (d+1) (l.drop (xbh ob names l).2.1)).2.2)
theorem xef (f d:Nat) (ob:Bool) (fin:Int) (names:List (List Int)) (k:Nat) (l:List Int):xax (f+1) d ob fin names k l =
  if l≠[]∧64≤k then (.nil,0,21) else if (xdY f d ob names l).2.2≠0 then (.nil,(xdY f d ob names l).2.1,(xdY f d ob names l).2.2)
  else xtr f d ob fin names k l (xdY f d ob names l).1.1 (xdY f d ob names l).1.2 ((xdY f d ob names l).2.1+xab (l.drop (xdY f d ob names l).2.1)):=by
 rw[xc5]
 unfold xdY
 by_cases h1:l≠[]∧64≤k
 ·rw[if_pos h1,if_pos h1]
 rw[if_neg h1,if_neg h1]
 by_cases h2:(xbh ob names l).2.2≠0
 ·rw[if_pos h2,if_pos h2,if_pos h2]
 ·rw[if_neg h2,if_neg h2]
def TkE (R:Js × Nat × Int) (l:List Int) (p:Nat) (w:World) (e:Ending) (w':World):Prop :=
 (∃ x v k,e=.returned (.tuple #[x,.int .i64 ((p+k:Nat):Int),.int .i64 R.2.2])∧xas (fun b=>w.heap.size≤b) w' v x∧(R.2.2=0→v=R.1∧BEq l R.2.1 k)∧(R.2.2≠0→k=R.2.1))∧Below w.heap.size w w'
def xxE (g:Nat):Prop:=∀ (d:Nat) (s:ByteArray) (p:Nat) (w:World),p≤s.size→s.size≤5000→2*(s.size - p)+1≤g→d≤5→QTab w →
 Calls Tryz.prog 134 #[.string s,.int .i64 p,.int .i64 d] w (TkE (xai g d ((bI s).drop p)) ((bI s).drop p) p w)
def xBa (g:Nat) (s:ByteArray) (q:Nat):Prop:=∀ (d p:Nat) (w:World),q≤p→p≤s.size→d≤5→QTab w →
 Calls Tryz.prog 134 #[.string s,.int .i64 p,.int .i64 d] w (TkE (xai g d ((bI s).drop p)) ((bI s).drop p) p w)
theorem xxE.at {g0 g:Nat} (h:xxE g0) {s:ByteArray} {q:Nat} (hs:s.size≤5000) (h0:2*(s.size - q)+1≤g0) (h1:2*(s.size - q)+1≤g):xBa g s q:=by
 intro d p w hqp hp hd ht
 have hl:((bI s).drop p).length=s.size - p:=by rw[List.length_drop,xaj]
 rw[(xAy g).1 g0 d ((bI s).drop p) (by rw[hl];omega) (by rw[hl];omega)]
 exact h d s p w hp hs (by omega) hd ht
def xlV (R:(List Int × Js) × Nat × Int) (l:List Int) (q:Nat) (I:Its→World→Prop) (vs:Its) (e:Ending) (W':World):Prop :=
 ∃ vs' k,e=.returned (.tuple #[.int .i64 ((q+k:Nat):Int),.int .i64 R.2.2])∧I vs' W'∧(R.2.2=0→vs'=vs++[R.1]∧BEq l R.2.1 k)∧(R.2.2≠0→k=R.2.1)
structure Ls (pr:Bool) (bs bd B bl:Nat) (s:ByteArray) (d:Nat) (w0:World) (vs:Its) (W:World):Prop where
 ex:∃ l,W.cell? ⟨bl,0,none⟩=some l∧xgP pr B (fun b=>B≤b∧b≠bl) vs l W∧l.ownBlock≠some bl
 free:W.frozen? ⟨bl,0,none⟩=false
 cs:W.cell? ⟨bs,0,none⟩=some (.string s)
 cd:W.cell? ⟨bd,0,none⟩=some (.int .i64 d)
 ord:w0.heap.size≤bs∧bs<B∧w0.heap.size≤bd∧bd<B∧B≤bl∧bl<W.heap.size
 bel:Below w0.heap.size w0 W
theorem Ls.below {pr:Bool} {bs bd B bl:Nat} {s:ByteArray} {d:Nat} {w0:World} {vs:Its} {W W':World} (h:Ls pr bs bd B bl s d w0 vs W) (hb:Below W.heap.size W W'):Ls pr bs bd B bl s d w0 vs W':=by
 obtain⟨⟨l,h1,h2,h3⟩,hf,hs,hd,⟨o1,o2,o3,o4,o5,o6⟩,hbl⟩:=h
 refine⟨⟨l,(hb.cell (p:=⟨bl,0,none⟩) o6).trans h1,xn9 h2 hb,h3⟩,(World.frozen?_of_block (a:=⟨bl,0,none⟩) (hb.block bl o6)).trans hf,(hb.cell (p:=⟨bs,0,none⟩) (by show bs<_;omega)).trans hs,(hb.cell (p:=⟨bd,0,none⟩) (by show bd<_;omega)).trans hd,⟨o1,o2,o3,o4,o5,Nat.lt_of_lt_of_le o6 hb.size⟩,hbl.trans (hb.mono hbl.size)⟩
theorem Ls.more {pr:Bool} {bs bd B bl:Nat} {s:ByteArray} {d:Nat} {w0:World} {vs:Its} {W:World} (h:Ls pr bs bd B bl s d w0 vs W) (hv:vs.length≤1000000) :
  ∃ l,W.cell? ⟨bl,0,none⟩=some l∧(∀ b,l.ownBlock=some b→b<W.heap.size)∧∀ (W1:World) (m:Nat) (p:List Int × Js) (cs:List Value),Below W.heap.size W W1→W.heap.size≤m→xdm pr (fun b=>m≤b) W1 p cs →
   ∃ v' W2,(Builtin.append_ #[slI pr,slI pr] (slI pr) #[l,.slice (some ⟨W1.heap.size,0,none⟩) 1 1]).run Tryz.prog (W1.alloc (.cells cs.toArray (tyI pr)))=.ok v' W2∧W2.cell? ⟨bl,0,none⟩=some l∧W2.frozen? ⟨bl,0,none⟩=false ∧
    Ls pr bs bd B bl s d w0 (vs++[p]) (W2.setCell ⟨bl,0,none⟩ v'):=by
 obtain⟨l,h1,h2,h3⟩:=h.ex
 refine⟨l,h1,fun b e=>(xiw h2 b e).2,fun W1 m p cs hb hm hx=>?_⟩
 have hord:=h.ord
 obtain⟨⟨l',h1',h2',h3'⟩,hf,hs,hd,⟨o1,o2,o3,o4,o5,o6⟩,hbl⟩:=h.below hb
 have hll:l=l':=by
  have:=(hb.cell (p:=⟨bl,0,none⟩) hord.2.2.2.2.2).trans h1
  rw[h1'] at this
  exact(Option.some.inj this).symm
 subst hll
 obtain⟨v',W2,hr,g1,g2,g3⟩:=xqV (slI pr) h2' hv (by omega) (hx.keep (S':=fun b=>(B≤b∧b≠bl)∧l.ownBlock≠some b) (fun b e _=>⟨⟨by omega,by have:=hord.2.2.2.2.2;omega⟩,fun x=>by have:=(xiw h2 b x).2;omega⟩) (Nat.le_refl _) (fun _ _ _=>rfl))
 have hsz:(W1.alloc (.cells cs.toArray (tyI pr))).heap.size=W1.heap.size+1:=by simp
 have hB:=fun b e=>(xiw h2' b e).1
 have k1:∀ k,k<W1.heap.size→l.ownBlock≠some k→W2.heap[k]?=W1.heap[k]?:=fun k hk hne=>(g2.block k (by omega) (fun e=>hne e.symm)).trans (xbi hk)
 have hs2:=g2.size
 have c0:W2.cell? ⟨bl,0,none⟩=some l:=(World.cell?_of_block (a:=⟨bl,0,none⟩) (k1 bl o6 h3)).trans h1'
 have c1:W2.frozen? ⟨bl,0,none⟩=false:=(World.frozen?_of_block (a:=⟨bl,0,none⟩) (k1 bl o6 h3)).trans hf
 have hset:∀ k,k≠bl→(W2.setCell ⟨bl,0,none⟩ v').heap[k]?=W2.heap[k]?:=fun k hk=>Below.heap_setCell _ _ _ k hk
 have hsz2:(W2.setCell ⟨bl,0,none⟩ v').heap.size=W2.heap.size:=by simp[World.size_setCell]
 have hvb:v'.ownBlock≠some bl:=by
  rcases g3 with e|⟨g,e,hg⟩
  ·rw[e];exact h3
  ·rw[e];intro e2;injection e2 with e2;omega
 refine⟨v',W2,hr,c0,c1,⟨⟨v',World.cell?_setCell_same _ _ _ c0,?_,hvb⟩,?_,?_,?_,⟨o1,o2,o3,o4,o5,by omega⟩,?_⟩⟩
 ·exact xjB g1 (by omega) (fun b e=>hset b (fun x=>hvb (by rw[e,x]))) (fun b hb _ _=>hset b hb.2)
 ·rw[World.frozen?_setCell];exact c1
 ·exact(World.cell?_of_block (a:=⟨bs,0,none⟩) ((hset bs (by omega)).trans (k1 bs (by omega) (fun e=>by have:=hB bs e;omega)))).trans hs
 ·exact(World.cell?_of_block (a:=⟨bd,0,none⟩) ((hset bd (by omega)).trans (k1 bd (by omega) (fun e=>by have:=hB bd e;omega)))).trans hd
 ·have hb1:Below w0.heap.size w0 W2:=Below.grown (hbl.alloc (by omega) _) g2 (by omega) (fun k e=>by have:=hB k e;omega)
  exact hb1.setCell (p:=⟨bl,0,none⟩) (by show w0.heap.size≤bl;omega) _
def xDu (v:Js):Prop:=∀ (S:Nat→Prop) (d:Nat) (w:World) (x:Value),xas S w v x→d≤5→Calls Tryz.prog 275 #[x,.int .i64 d] w fun e w'=>e=.returned (.int .i64 (xtH d v))∧Below w.heap.size w w'
theorem xBX (n:Int):xDu (.num n):=by
 intro S d w x h hd
 rw[xas] at h
 subst h
 rw[xtH]
 have a1:=fun W=>xcU 20 4 3 (.int .i64 n) _ _ Tryz.underlying4 rfl xCN (by decide) W
 have a2:=fun W=>xhM 20 3 (.int .i64 n) _ Tryz.underlying3 rfl W
 unfold xkr
 by_cases h1:n < -9007199254740991
 ·rw[if_pos (by omega)]
  have e1:decide (n < -9007199254740991)=true:=by simp;omega
  go_enter Tryz.func275,Tryz.ntmps275
  go_wp2_with fail
  go_ret
  exact⟨rfl,by go_grown⟩
 have e1:decide (n < -9007199254740991)=false:=by simp;omega
 by_cases h2:9007199254740991<n
 ·rw[if_pos (by omega)]
  have e2:decide (9007199254740991<n)=true:=by simp;omega
  go_enter Tryz.func275,Tryz.ntmps275
  go_wp2_with fail
  go_ret
  exact⟨rfl,by go_grown⟩
 rw[if_neg (by omega)]
 have e2:decide (9007199254740991<n)=false:=by simp;omega
 go_enter Tryz.func275,Tryz.ntmps275
 go_wp2_with fail
 go_ret
 exact⟨rfl,by go_grown⟩
theorem xok (S:Nat→Prop) (n:Int) (x:Value) (w:World) (h:xas S w (.num n) x):Calls Tryz.prog 246 #[x] w fun e w'=>e=.returned (.int .i64 (xtH 1 (.num n)))∧Below w.heap.size w w':=by
 have H:=lH (fun W (hb:Below w.heap.size w W)=>xBX n S 1 W x (h.below hb) (by omega))
 clear h
 generalize xtH 1 (.num n)=R at H
 go_enter Tryz.func246,Tryz.ntmps246
 go_wp2_with fail
 refine(H.out _ (by go_grown)).mono ?_
 rintro e w1 ⟨rfl,hb⟩
 go_wp2_with fail
 go_ret
 exact⟨rfl,hb⟩
end Go.Proofs.YtjkgkmmkehnggaaGreatDoor
namespace Go.Proofs.YtjkgkmmkehnggaaGreatDoor
set_option linter.unusedVariables false
set_option linter.unusedSimpArgs false
open Go.RowKit
set_option maxRecDepth 20000
def uI (l:List UInt8):List Int:=l.map (fun c=>(c.toNat:Int))
theorem xsS (l:List UInt8):bI ⟨l.toArray⟩=uI l:=by unfold bI uI;simp
theorem xCK (s:ByteArray):bI s=uI s.data.toList:=rfl
theorem xrG (f g:UInt8→Bool) (h:∀ n,n<256→f (UInt8.ofNat n)=g (UInt8.ofNat n)) (c:UInt8):f c=g c:=by
 have:=h c.toNat c.toNat_lt
 rwa[UInt8.ofNat_toNat] at this
theorem xgm (f:List Int→Nat) (p:Int→Bool) (q:UInt8→Bool) (h0:f []=0) (h1:∀ b t,f (b :: t)=if p b then f t+1 else 0) (hq:∀ c:UInt8,q c=p (c.toNat:Int)) :
  ∀ l:List UInt8,(l.dropWhile q).length+f (uI l)=l.length
 | []=>by simp[uI,h0]
 | c :: t=>by
  have ih:=xgm f p q h0 h1 hq t
  unfold uI at ih ⊢
  rw[List.map_cons,h1,← hq,List.dropWhile_cons]
  cases q c
  ·simp
  ·simp only[if_true,List.length_cons];omega
theorem xpj (l:List UInt8):(Lib.trimLeftS l [32,9,10,13]).length+xab (uI l)=l.length :=
 xgm xab isB _ rfl (fun b t=>by rw[xab]) (xrG _ (fun c=>isB (c.toNat:Int)) (by decide +kernel)) l
theorem xoO (l:List UInt8):(Lib.trimLeftS l [48,49,50,51,52,53,54,55,56,57,43,45,46,101,69]).length+xb8 (uI l)=l.length :=
 xgm xb8 isN _ rfl (fun b t=>by rw[xb8]) (xrG _ (fun c=>isN (c.toNat:Int)) (by decide +kernel)) l
theorem xCl (c:UInt8):([48,49,50,51,52,53,54,55,56,57]:List UInt8).contains c=isD (c.toNat:Int) :=
 xrG (fun c=>([48,49,50,51,52,53,54,55,56,57]:List UInt8).contains c) (fun c=>isD (c.toNat:Int)) (by decide +kernel) c
theorem xc2 (q:UInt8→Bool):∀ l:List UInt8,l.dropWhile q=[]↔l.all q=true
 | []=>by simp
 | c :: t=>by
  rw[List.dropWhile_cons,List.all_cons]
  cases h:q c
  ·simp
  ·simp[xc2 q t]
theorem xuk (l:List UInt8):(Lib.trimS l [48,49,50,51,52,53,54,55,56,57]=[])↔(uI l).all isD=true:=by
 unfold Lib.trimS Lib.trimLeftS Lib.trimRightS
 rw[xc2]
 have hall:∀ m:List UInt8,(uI m).all isD=m.all (fun c=>([48,49,50,51,52,53,54,55,56,57]:List UInt8).contains c):=by
  intro m
  unfold uI
  rw[List.all_map]
  congr 1
  funext c
  exact(xCl c).symm
 rw[hall]
 constructor
 ·intro h
  have h1:=fun x (hx:x ∈ (l.reverse.dropWhile (fun c=>([48,49,50,51,52,53,54,55,56,57]:List UInt8).contains c)).reverse)=>List.all_eq_true.1 h x hx
  cases hd:l.reverse.dropWhile (fun c=>([48,49,50,51,52,53,54,55,56,57]:List UInt8).contains c) with
  | nil =>
   have:=(xc2 _ _).1 hd
   rw[List.all_eq_true] at this ⊢
   exact fun x hx=>this x (List.mem_reverse.2 hx)
  | cons c t =>
   have hc:=h1 c (by rw[hd];simp)
   have:=List.head?_dropWhile_not (fun c=>([48,49,50,51,52,53,54,55,56,57]:List UInt8).contains c) l.reverse
   rw[hd] at this
   simp only[List.head?_cons] at this
   rw[hc] at this
   cases this
 ·intro h
  rw[List.all_eq_true] at h ⊢
  intro x hx
  exact h x (List.mem_reverse.1 ((List.dropWhile_sublist _).subset (List.mem_reverse.1 hx)))
theorem xeJ:∀ (l:List Int) (a b:Int),(∀ c ∈ l,48≤c)→0≤b→b≤a→b≤l.foldl (fun n c=>10*n+(c - 48)) a
 | [],a,b,_,_,h=>h
 | c :: t,a,b,hl,h0,h=>by
  rw[List.foldl_cons]
  have:=hl c (List.mem_cons_self ..)
  exact xeJ t _ b (fun x hx=>hl x (List.mem_cons_of_mem _ hx)) h0 (by omega)
theorem xgJ:∀ (l:List UInt8) (acc:Nat),(uI l).all isD=true →
  (∃ u,Lib.parseUint10 acc l=.ok u∧(uI l).foldl (fun n c=>10*n+(c - 48)) (acc:Int)=u)∨Lib.parseUint10 acc l=.range∧18446744073709551616≤(uI l).foldl (fun n c=>10*n+(c - 48)) (acc:Int)
 | [],acc,_=>.inl ⟨acc,rfl,rfl⟩
 | c :: t,acc,h=>by
  have hc:uI (c :: t)=(c.toNat:Int) :: uI t:=rfl
  rw[hc,List.all_cons,Bool.and_eq_true] at h
  obtain⟨h1,h2⟩:=h
  have hd:48≤c.toNat∧c.toNat≤57:=by
   unfold isD at h1
   simp only[Bool.and_eq_true,decide_eq_true_eq] at h1
   omega
  have h48:∀ x ∈ uI t,48≤x:=by
   intro x hx
   have:=List.all_eq_true.1 h2 x hx
   unfold isD at this
   simp only[Bool.and_eq_true,decide_eq_true_eq] at this
   exact this.1
  rw[hc,List.foldl_cons,Lib.parseUint10,if_pos hd]
  by_cases g1:1844674407370955162≤acc
  ·rw[if_pos g1]
   exact .inr ⟨rfl,xeJ _ _ _ h48 (by omega) (by omega)⟩
  rw[if_neg g1]
  by_cases g2:18446744073709551616≤acc*10+(c.toNat - 48)
  ·rw[if_pos g2]
   exact .inr ⟨rfl,xeJ _ _ _ h48 (by omega) (by omega)⟩
  rw[if_neg g2]
  have hcast:((acc*10+(c.toNat - 48):Nat):Int)=10*(acc:Int)+((c.toNat:Int) - 48):=by omega
  have:=xgJ t (acc*10+(c.toNat - 48)) h2
  rw[hcast] at this
  exact this
theorem xAa (l:List UInt8) (h:¬ xmb (uI l)):(∃ v,Lib.atoiAll l=.ok v∧v=(if xfz (uI l) then - xhy (xaX (uI l)) else xhy (xaX (uI l))))∨Lib.atoiAll l=.range∧xkr<xhy (xaX (uI l)):=by
 unfold xmb at h
 have h1:¬ xaX (uI l)=[]:=fun e=>h (.inl e)
 have h3:(xaX (uI l)).all isD=true:=Decidable.byContradiction fun e=>h (.inr (.inr e))
 cases l with
 | nil=>exact absurd rfl h1
 | cons c t =>
  have hc:uI (c :: t)=(c.toNat:Int) :: uI t:=rfl
  rw[hc] at h1 h3 ⊢
  by_cases hm:(c.toNat:Int)=45
  ·have hc45:c=45:=UInt8.toNat_inj.1 (by simpa using (show c.toNat=45 by omega))
   rw[xaX,if_pos hm] at h1 h3 ⊢
   have hn:xfz ((c.toNat:Int) :: uI t)=true:=by unfold xfz;rw[hm];rfl
   rw[hn,if_pos rfl,hc45,Lib.atoiAll_minus]
   have ht:¬ t=[]:=fun e=>h1 (by rw[e];rfl)
   unfold Lib.parseMag
   rw[if_neg ht]
   rcases xgJ t 0 h3 with ⟨u,e1,e2⟩|⟨e1,e2⟩
   ·rw[e1,Lib.signed]
    have e2:xhy (uI t)=u:=e2
    by_cases g:9223372036854775808<u
    ·rw[if_pos g];exact .inr ⟨rfl,by unfold xkr;omega⟩
    ·rw[if_neg g];exact .inl ⟨_,rfl,by rw[e2]⟩
   ·rw[e1,Lib.signed]
    have e2:18446744073709551616≤xhy (uI t):=e2
    exact .inr ⟨rfl,by unfold xkr;omega⟩
  ·rw[xaX,if_neg hm] at h1 h3 ⊢
   have hn:xfz ((c.toNat:Int) :: uI t)=false:=by unfold xfz;simpa using hm
   rw[hn]
   have hd:isD (c.toNat:Int)=true:=by rw[List.all_cons,Bool.and_eq_true] at h3;exact h3.1
   have hd:48≤c.toNat∧c.toNat≤57:=by
    unfold isD at hd
    simp only[Bool.and_eq_true,decide_eq_true_eq] at hd
    omega
   rw[Lib.atoiAll_plain c t (by omega) (by omega)]
   unfold Lib.parseMag
   rw[if_neg (by simp)]
   rcases xgJ (c :: t) 0 h3 with ⟨u,e1,e2⟩|⟨e1,e2⟩
   ·rw[e1,Lib.signless]
    have e2:xhy ((c.toNat:Int) :: uI t)=u:=e2
    by_cases g:9223372036854775808≤u
    ·rw[if_pos g];exact .inr ⟨rfl,by unfold xkr;omega⟩
    ·rw[if_neg g];exact .inl ⟨_,rfl,by rw[e2];simp⟩
   ·rw[e1,Lib.signless]
    have e2:18446744073709551616≤xhy ((c.toNat:Int) :: uI t):=e2
    exact .inr ⟨rfl,by unfold xkr;omega⟩
theorem xmW:∀ (w l:List Int) (i:Nat),xb3 w l i=if w <+: l then (i+w.length,0) else if l <+: w then (i+l.length,3) else (0,4)
 | [],l,i=>by rw[xb3,if_pos (List.nil_prefix)];simp
 | c :: w,[],i=>by rw[xb3,if_neg (by simp),if_pos (List.nil_prefix)];simp
 | c :: w,b :: t,i=>by
  rw[xb3]
  by_cases h:b=c
  ·subst h
   rw[if_pos rfl,xmW w t (i+1)]
   simp only[List.cons_prefix_cons,true_and,List.length_cons]
   simp only[show i+1+w.length=i+(w.length+1) by omega,show i+1+t.length=i+(t.length+1) by omega]
  ·rw[if_neg h,if_neg (by rw[List.cons_prefix_cons];exact fun e=>h e.1.symm),if_neg (by rw[List.cons_prefix_cons];exact fun e=>h e.1)]
theorem xAA (p l:List UInt8):Lib.hasPrefix l p=decide (uI p <+: uI l):=by
 have:Lib.hasPrefix l p=p.isPrefixOf l:=rfl
 rw[this]
 have h:=xdz p l
 rw[Bool.eq_iff_iff,h,decide_eq_true_iff]
 exact⟨fun⟨t,e⟩=>⟨t,e.symm⟩,fun⟨t,e⟩=>⟨t,e.symm⟩⟩
theorem xBh:∀ (l:List UInt8) (c:Int),0≤c→c<256→(Lib.indexByte l c.toNat.toUInt8<0↔c ∉ uI l)∧-1≤Lib.indexByte l c.toNat.toUInt8
 | [],c,h0,h1=>by simp[Lib.indexByte,uI]
 | b :: l,c,h0,h1=>by
  have ih:=xBh l c h0 h1
  have hc:uI (b :: l)=(b.toNat:Int) :: uI l:=rfl
  rw[hc,List.mem_cons,Lib.indexByte]
  have he:(b == c.toNat.toUInt8)=decide (c=(b.toNat:Int)):=by
   rw[Bool.eq_iff_iff,beq_iff_eq,decide_eq_true_iff]
   constructor
   ·rintro rfl
    have:c.toNat<256:=by omega
    show c=((UInt8.ofNat c.toNat).toNat:Int)
    rw[UInt8.toNat_ofNat_of_lt' (by show _<256;omega)];omega
   ·rintro rfl
    simp[Nat.toUInt8]
  rw[he]
  by_cases hb:c=(b.toNat:Int)
  ·rw[decide_eq_true hb];simp[hb]
  ·rw[decide_eq_false hb]
   simp only[Bool.false_eq_true,if_false,hb,false_or]
   by_cases g:Lib.indexByte l c.toNat.toUInt8=-1
   ·rw[g];simp only[beq_self_eq_true,if_true]
    exact⟨⟨fun _=>(ih.1.1 (by omega)),fun _=>by omega⟩,by omega⟩
   ·have g2:(Lib.indexByte l c.toNat.toUInt8 == -1)=false:=by rw[beq_eq_false_iff_ne];exact g
    rw[g2]
    simp only[Bool.false_eq_true,if_false]
    exact⟨⟨fun h=>by omega,fun h=>absurd (ih.1.2 h) (by omega)⟩,by omega⟩
theorem xug (l:List UInt8):uI (Lib.trimPrefix l [45])=xaX (uI l):=by
 unfold Lib.trimPrefix
 cases l with
 | nil=>rfl
 | cons c t =>
  have hp:Lib.hasPrefix (c :: t) [45]=decide ((c.toNat:Int)=45):=by
   rw[xAA,Bool.eq_iff_iff,decide_eq_true_iff,decide_eq_true_iff]
   show [(45:Int)] <+: (c.toNat:Int) :: uI t↔_
   rw[List.cons_prefix_cons]
   exact⟨fun h=>h.1.symm,fun h=>⟨h.symm,List.nil_prefix⟩⟩
  have hc:uI (c :: t)=(c.toNat:Int) :: uI t:=rfl
  rw[hp,hc,xaX]
  by_cases h:(c.toNat:Int)=45
  ·rw[decide_eq_true h,if_pos h];rfl
  ·rw[decide_eq_false h,if_neg h];rfl
theorem xgN:∀ (f:Nat) (l:List Int) (p q:Nat) (out:List Int),xaW f l (p+q) out=((xaW f l p out).1,(xaW f l p out).2.1+q,(xaW f l p out).2.2)
 | 0,l,p,q,out=>by simp[xaW];omega
 | f+1,l,p,q,out=>by
  rw[xay,xay]
  cases xbg l with
  | short=>simp;omega
  | form=>simp
  | fin=>simp;omega
  | piece t n =>
   simp only
   rw[show p+q+n=p+n+q by omega]
   exact xgN f _ _ q _
theorem xh6 (l:List Int) (p:Nat) (hp:p≤l.length):xa8 l p=((xav (l.drop p)).1,p+(xav (l.drop p)).2.1,(xav (l.drop p)).2.2):=by
 unfold xa8
 rw[if_neg (by omega)]
 by_cases he:(p:Int)=l.length
 ·rw[if_pos he,List.drop_of_length_le (by omega)]
  simp[xav]
 ·rw[if_neg he,Int.toNat_natCast]
  have hlt:p<l.length:=by omega
  have hd:l.drop p=l.getD p 0 :: l.drop (p+1):=by
   rw[List.getD_eq_getElem?_getD,List.getElem?_eq_getElem hlt,Option.getD_some,List.drop_eq_getElem_cons hlt]
  rw[hd,xav]
  by_cases h:l.getD p 0=34
  ·rw[if_neg (by rw[h];simp),if_pos h,show p+1=1+p by omega,xgN l.length _ 1 p []]
   have:=xdM l.length ((l.drop (1+p)).length+1) (l.drop (1+p)) 1 [] (by rw[List.length_drop];omega) (by omega)
   rw[this,Nat.add_comm p]
  ·rw[if_pos h,if_neg h];simp
end Go.Proofs.YtjkgkmmkehnggaaGreatDoor
