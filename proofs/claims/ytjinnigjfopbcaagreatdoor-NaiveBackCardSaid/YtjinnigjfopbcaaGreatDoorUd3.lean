/- dJk dJd dLb dLc dNo dNc dNk dNn dPb dPl dPm. -/
import Derived.Test.YtjinnigjfopbcaaGreatDoorUs
import Derived.Test.YtjinnigjfopbcaaGreatDoorUd2
import Derived.Test.YtjinnigjfopbcaaGreatDoorRt
set_option maxHeartbeats 16000000
namespace Go.Proofs.YtjinnigjfopbcaaGreatDoor
set_option linter.unusedVariables false
set_option linter.unusedSimpArgs false
open Go.RowKit
set_option maxRecDepth 20000
structure TInv (s:ByteArray) (R:List Int × Nat × Int) (p:Nat) (out:List Int):Prop where
 le:p≤s.size
 run:R=xaZ s.size ((bI s).drop p) p out
 len:out.length≤4*p
 byte:∀ b ∈ out,0≤b∧b<256
theorem TInv.plain {s:ByteArray} {R:List Int × Nat × Int} {p k:Nat} {out:List Int} (h:TInv s R p out) (hk:Adv ((bI s).drop p) k):TInv s R (p+k) (out++((bI s).drop p).take k):=by
 have h1:=hk.1
 have hp:=h.le
 rw[List.length_drop,xah] at h1
 refine⟨by omega,?_,?_,?_⟩
 ·rw[h.run,hk.2 _ _ _ (by rw[List.length_drop,xah];omega),List.drop_drop]
 ·have:=h.len
  rw[List.length_append,List.length_take,List.length_drop,xah]
  omega
 ·intro b hb
  rcases List.mem_append.1 hb with hb|hb
  ·exact h.byte b hb
  ·exact xrz s b (List.mem_of_mem_drop (List.mem_of_mem_take hb))
theorem TInv.short {s:ByteArray} {R:List Int × Nat × Int} {p:Nat} {out:List Int} (h:TInv s R p out) (hs:xbh ((bI s).drop p)=.short):R=([],s.size,3):=by
 have hp:=h.le
 have e:p+((bI s).drop p).length=s.size:=by rw[List.length_drop,xah];omega
 rw[h.run]
 cases hf:s.size with
 | zero=>rw[xaZ,← hf,e]
 | succ f =>
  rw[xaC,hs]
  show ([],p+_,3)=_
  rw[e,hf]
theorem TInv.pos {s:ByteArray} {R:List Int × Nat × Int} {p:Nat} {out:List Int} (h:TInv s R p out) (hp:p<s.size):∃ f,s.size=f+1∧R=match xbh ((bI s).drop p) with
  | .short=>([],p+((bI s).drop p).length,3)
  | .form=>([],p,4)
  | .fin=>(out,p+1,0)
  | .piece t n=>xaZ f (((bI s).drop p).drop n) (p+n) (out++t):=by
 obtain⟨f,hf⟩:∃ f,s.size=f+1:=⟨s.size - 1,by omega⟩
 refine⟨f,hf,?_⟩
 have:=h.run
 rw[hf,xaC] at this
 exact this
theorem TInv.form {s:ByteArray} {R:List Int × Nat × Int} {p:Nat} {out:List Int} (h:TInv s R p out) (hp:p<s.size) (hs:xbh ((bI s).drop p)=.form):R=([],p,4):=by
 obtain⟨f,_,hr⟩:=h.pos hp
 rw[hs] at hr;exact hr
theorem TInv.fin {s:ByteArray} {R:List Int × Nat × Int} {p:Nat} {out:List Int} (h:TInv s R p out) (hp:p<s.size) (hs:xbh ((bI s).drop p)=.fin):R=(out,p+1,0):=by
 obtain⟨f,_,hr⟩:=h.pos hp
 rw[hs] at hr;exact hr
theorem TInv.piece {s:ByteArray} {R:List Int × Nat × Int} {p n:Nat} {c:Int} {out:List Int} (h:TInv s R p out) (hp:p<s.size) (hs:xbh ((bI s).drop p)=.piece (xa3 c) n) (h1:1≤n) (h2:n≤((bI s).drop p).length):TInv s R (p+n) (out++xa3 c):=by
 obtain⟨f,hf,hr⟩:=h.pos hp
 rw[hs] at hr
 rw[List.length_drop,xah] at h2
 refine⟨by omega,?_,?_,?_⟩
 ·rw[hr]
  show xaZ f (((bI s).drop p).drop n) _ _=_
  rw[List.drop_drop,xdR f s.size _ _ _ (by rw[List.length_drop,xah];omega) (by rw[List.length_drop,xah];omega)]
 ·have:=h.len
  have:=xf0 c
  rw[List.length_append];omega
 ·intro b hb
  rcases List.mem_append.1 hb with hb|hb
  ·exact h.byte b hb
  ·exact xgJ c b hb
theorem xge (s:ByteArray) (p:Nat) (h:p<s.size):(bI s).drop p=((s[p]'h).toNat:Int) :: (bI s).drop (p+1):=by
 have h1:=xmU s p h
 have hk:p<(bI s).length:=by rw[xah];exact h
 rw[List.drop_eq_getElem_cons hk]
 rw[List.getElem?_eq_getElem hk] at h1
 injection h1 with h2
 rw[h2]
def xgW (R:List Int × Nat × Int) (w:World) (e:Ending) (w':World):Prop:=e=.returned (.tuple #[.string (str R.1),.int .i64 (R.2.1:Nat),.int .i64 R.2.2])∧Below w.heap.size w w'
def xvS:Value→Nat
 | .int _ n=>n.toNat
 | _=>0
theorem xrk (s:ByteArray) (p0:Nat) (w:World) (hp0:p0≤s.size) (hs:s.size≤10000):Calls Tryz.prog 281 #[.string s,.int .i64 p0] w (xgW (xaZ s.size ((bI s).drop p0) p0 []) w):=by
 have H0:Hid (TInv s (xaZ s.size ((bI s).drop p0) p0 []) p0 []):=lH ⟨hp0,rfl,by simp,by simp⟩
 generalize xaZ s.size ((bI s).drop p0) p0 []=R at *
 have e0:str []={ data:=#[] }:=rfl
 have HD0:=lH (Bd.fresh w)
 have HB0:Hid (Below w.heap.size w (w.alloc (.cells #[.pointer none,.slice none 0 0] 254))):=lH ((Below.refl _ w).alloc (Nat.le_refl _) _)
 unfold xgW
 clear hp0
 go_enter Tryz.func281,Tryz.ntmps281
 go_wp2_with fail
 go_loopw [1] (fun i wr=>∃ (p:Nat) (out:List Int),i=.int .i64 p∧Hid (TInv s R p out)∧Hid (Bd w.heap.size out wr)∧Hid (Below w.heap.size w wr)) (fun i _=>s.size - xvS i)
 case atStart=>exact⟨p0,[],rfl,H0,HD0,HB0⟩
 case round =>
  obtain⟨p,out,rfl,HI,HD,HB⟩:=hrel
  have hle:=HI.out.le
  have hps:(p:Int)≤(s.size:Int):=by omega
  have hln:=HI.out.len
  have HPL:=lH (fun W=>xqg (s.extract p s.size) W (by rw[ByteArray.size_extract];omega))
  unfold xiw at HPL
  rw[xgG s p hle] at HPL
  have HLN:=lH (show out.length≤4*p∧p≤s.size from ⟨hln,hle⟩)
  clear hln hle
  go_wp2_with fail
  refine(HPL.out _).mono ?_
  rintro e w1 ⟨⟨k,rfl,hk1,hk2,hk3⟩,hb1⟩
  obtain⟨q,hq⟩:∃ q,p+k=q:=⟨_,rfl⟩
  have hq2:(p:Int)+(k:Int)=(q:Int):=by omega
  have hle:=HLN.out.2
  have hqs:q≤s.size:=by rw[ByteArray.size_extract] at hk1;omega
  have hpq:(p:Int)≤(q:Int):=by omega
  have hqi:(q:Int)≤(s.size:Int):=by omega
  have hbe:bI (s.extract p q)=((bI s).drop p).take k:=by rw[xca _ _ _ (by omega),show q - p=k by omega]
  have HI1:Hid (TInv s R q (out++bI (s.extract p q))):=lH (by rw[hbe,← hq];exact HI.out.plain hk2)
  have HNP:Hid (¬ xlA ((bI s).drop q)):=lH (by rw[← hq,← List.drop_drop];exact hk3)
  have HD1:=lH (HD.out.kept hb1)
  have HB1:=lH (HB.out.trans (hb1.mono HB.out.size))
  have HWS:=lH (fun W (hb:Bd w.heap.size out W)=>xAk w.heap.size out (s.extract p q) W hb (by have:=HLN.out.1;omega) (by rw[ByteArray.size_extract];omega))
  have wq:IntKind.i64.wrap (q:Int)=(q:Int):=by rw[IntKind.wrap_i64];omega
  have HPQ:Hid (p≤q):=lH (by omega)
  generalize out++bI (s.extract p q)=out1 at *
  clear hq hk1 hk2 hk3 hb1 hbe hle hpq
  go_wp2_with fail
  refine(HWS.out _ HD1.out).mono ?_
  rintro e w2 ⟨rfl,g1,g2,g3⟩
  have HD2:=lH g1
  have HB2:=lH (HB1.out.trans g2)
  clear g1 g2 g3
  by_cases hend:q=s.size
  ·have HR:Hid (R=([],q,3)):=lH (by rw[hend];exact HI1.out.short (by rw[List.drop_of_length_le (by rw[xah];omega)];rfl))
   have hend2:(q:Int)=(s.size:Int):=by omega
   have hend3:((q:Int) == (s.size:Int))=true:=by simpa using hend2
   clear hend hend2
   go_wp2_with fail
   refine bodyPost_ret (v:=.tuple #[.string { data:=#[] },.int .i64 q,.int .i64 3]) (by simp[results,Tryz.results281,go_sem]) rfl ⟨by rw[HR.out,e0],HB2.out⟩
  have hlt:q<s.size:=by omega
  have hlt2:(q:Int)<(s.size:Int):=by omega
  have hend3:((q:Int) == (s.size:Int))=false:=by
   rw[beq_eq_false_iff_ne];omega
  have hsp:=xge s q hlt
  have hbl:=(s[q]'hlt).toNat_lt
  obtain⟨b,hbv⟩:∃ b:Int,((s[q]'hlt).toNat:Int)=b:=⟨_,rfl⟩
  rw[hbv] at hsp
  clear hend
  by_cases h34:b=34
  ·have HR:Hid (R=(out1,q+1,0)):=lH (HI1.out.fin hlt (by rw[hsp,h34];exact xsA _))
   have HST:=lH (fun W (hb:Bd w.heap.size out1 W)=>xAg w.heap.size out1 W hb HI1.out.byte)
   have w1q:IntKind.i64.wrap ((q:Int)+1)=(q:Int)+1:=by rw[IntKind.wrap_i64];omega
   subst h34
   clear hsp hbl
   go_wp2_with fail
   refine(HST.out _ HD2.out).mono ?_
   rintro e w3 ⟨rfl,g2⟩
   have HB3:=lH (HB2.out.trans g2)
   clear g2
   go_wp2_with fail
   refine bodyPost_ret (v:=.tuple #[.string (str out1),.int .i64 ((q:Int)+1),.int .i64 0]) (by simp[results,Tryz.results281,go_sem]) rfl ⟨by rw[HR.out];rfl,HB3.out⟩
  have b34:(b == 34)=false:=by rw[beq_eq_false_iff_ne];exact h34
  by_cases h92:b=92
  ·subst h92
   have hst:xbh ((bI s).drop q)=xkP ((bI s).drop q):=by rw[hsp];exact xeq _
   have hfr:=xgG s q (Nat.le_of_lt hlt)
   have HMK:=lH (fun W=>xt8 (s.extract q s.size) W (by rw[ByteArray.size_extract];omega) (by rw[ByteArray.size_extract];omega) (by rw[hfr,hsp];rfl))
   unfold xfk at HMK
   rw[hfr] at HMK
   have HST:=lH hst
   have HLEN:Hid (((bI s).drop q).length=s.size - q):=lH (by rw[List.length_drop,xah])
   have HLT:=lH hlt
   clear hsp hbl hfr hst
   go_wp2_with fail
   refine(HMK.out _).mono ?_
   rintro e w3 ⟨⟨c,n,er,rfl,hok⟩,hb3⟩
   have HB3:=lH (HB2.out.trans (hb3.mono HB2.out.size))
   have HD3:=lH (HD2.out.kept hb3)
   clear hb3
   rcases hok with ⟨rfl,h1⟩|⟨rfl,h1⟩|⟨rfl,h1,h2,h3,h4⟩
   ·have HR:Hid (R=([],s.size,3)):=lH (HI1.out.short (by rw[HST.out];exact h1))
    clear h1
    go_wp2_with fail
    refine bodyPost_ret (v:=.tuple #[.string { data:=#[] },.int .i64 s.size,.int .i64 3]) (by simp[results,Tryz.results281,go_sem]) rfl ⟨by rw[HR.out,e0],HB3.out⟩
   ·have HR:Hid (R=([],q,4)):=lH (HI1.out.form HLT.out (by rw[HST.out];exact h1))
    clear h1
    go_wp2_with fail
    refine bodyPost_ret (v:=.tuple #[.string { data:=#[] },.int .i64 q,.int .i64 4]) (by simp[results,Tryz.results281,go_sem]) rfl ⟨by rw[HR.out,e0],HB3.out⟩
   ·have HI2:=lH (HI1.out.piece HLT.out (by rw[HST.out];exact h1) h3 h4)
    have HL1:Hid (out1.length≤900000):=lH (by have:=HI1.out.len;omega)
    have HWR:=lH (fun W (hb:Bd w.heap.size out1 W)=>xzp w.heap.size out1 c W hb h2 (by have:=HL1.out;omega))
    have hn:n≤s.size - q:=by rw[← HLEN.out];exact h4
    have wn:IntKind.i64.wrap ((q:Int)+(n:Int))=(q:Int)+(n:Int):=by rw[IntKind.wrap_i64];omega
    have HN:=lH (show 1≤n∧n≤s.size - q from ⟨h3,hn⟩)
    clear h1 h2 h3 h4 hn
    go_wp2_with fail
    refine(HWR.out _ HD3.out).mono ?_
    rintro e w4 ⟨rfl,g1,g2,g3⟩
    have HD4:=lH g1
    have HB4:=lH (HB3.out.trans g2)
    clear g1 g2 g3
    go_wp2_with fail
    refine⟨⟨q+n,_,by go_num,HI2,HD4,HB4⟩,?_⟩
    have:=HN.out
    have:=HPQ.out
    have:=HLT.out
    simp only[xvS]
    omega
  ·have HR:Hid (R=([],q,4)):=lH (HI1.out.form hlt (xsJ HNP.out (by rw[hsp];simp) (by rw[hsp];exact h34) (by rw[hsp];exact h92)))
   have b92:(b == 92)=false:=by rw[beq_eq_false_iff_ne];exact h92
   clear hsp hbl
   go_wp2_with fail
   refine bodyPost_ret (v:=.tuple #[.string { data:=#[] },.int .i64 q,.int .i64 4]) (by simp[results,Tryz.results281,go_sem]) rfl ⟨by rw[HR.out,e0],HB2.out⟩
theorem xtB (l:List Int) (p:Nat) (hp:p<l.length) (h:l.getD p 0=34):xbg l p=xaZ l.length (l.drop (p+1)) (p+1) []:=by
 unfold xbg
 rw[if_neg (by omega),if_neg (by omega),if_neg (by rw[Int.toNat_natCast];exact fun hq=>hq h)]
 rw[Int.toNat_natCast]
theorem xkc (s:ByteArray) (p:Nat) (w:World) (hp:p≤s.size) (hs:s.size≤10000):Calls Tryz.prog 230 #[.string s,.int .i64 p] w fun e w'=>e=.returned (.tuple #[.string (str (xbg (bI s) p).1),.int .i64 ((xbg (bI s) p).2.1:Nat),.int .i64 (xbg (bI s) p).2.2])∧Below w.heap.size w w':=by
 have e0:str []={ data:=#[] }:=rfl
 have hl:=xah s
 have n0:¬ (p:Int)<0:=by omega
 by_cases he:p=s.size
 ·have HR:Hid (xbg (bI s) p=([],p,3)):=lH (by
   unfold xbg
   rw[if_neg (by omega),if_pos (by omega),Int.toNat_natCast])
  rw[HR.out,e0]
  have q1:(p:Int)≤(s.size:Int):=by omega
  have q2:((p:Int) == (s.size:Int))=true:=by simpa using (show (p:Int)=s.size by omega)
  clear HR hl he hp
  go_enter Tryz.func230,Tryz.ntmps230
  go_wp2_with fail
  refine bodyPost_ret (v:=.tuple #[.string { data:=#[] },.int .i64 p,.int .i64 3]) (by simp[results,Tryz.results230,go_sem]) rfl ⟨rfl,by go_grown⟩
 have hlt:p<s.size:=by omega
 have hsp:=xge s p hlt
 have hgd:(bI s).getD p 0=((s[p]'hlt).toNat:Int):=by
  rw[List.getD_eq_getElem?_getD,xmU s p hlt];rfl
 have hbl:=(s[p]'hlt).toNat_lt
 obtain⟨b,hbv⟩:∃ b:Int,((s[p]'hlt).toNat:Int)=b:=⟨_,rfl⟩
 rw[hbv] at hgd
 have q1:(p:Int)<(s.size:Int):=by omega
 have q2:((p:Int) == (s.size:Int))=false:=by rw[beq_eq_false_iff_ne];omega
 by_cases h34:b=34
 ·have HR:Hid (xbg (bI s) p=xaZ s.size ((bI s).drop (p+1)) (p+1) []):=lH (by
   rw[xtB _ _ (by omega) (by rw[hgd,h34]),hl])
  have HK:=lH (fun W=>xrk s (p+1) W (by omega) hs)
  unfold xgW at HK
  rw[HR.out]
  generalize xaZ s.size ((bI s).drop (p+1)) (p+1) []=R at *
  have w1:IntKind.i64.wrap ((p:Int)+1)=((p+1:Nat):Int):=by rw[IntKind.wrap_i64];omega
  subst h34
  clear HR hsp hbl hgd hl he
  go_enter Tryz.func230,Tryz.ntmps230
  go_wp2_with fail
  refine(HK.out _).mono ?_
  rintro e w1 ⟨rfl,hb1⟩
  go_wp2_with fail
  refine bodyPost_ret (v:=.tuple #[.string (str R.1),.int .i64 (R.2.1:Nat),.int .i64 R.2.2]) (by simp[results,Tryz.results230,go_sem]) rfl ⟨rfl,hb1⟩
 ·have HR:Hid (xbg (bI s) p=([],p,4)):=lH (by
   unfold xbg
   rw[if_neg (by omega),if_neg (by omega),Int.toNat_natCast,if_pos (by rw[hgd];exact h34)])
  rw[HR.out,e0]
  have b34:(b == 34)=false:=by rw[beq_eq_false_iff_ne];exact h34
  clear HR hsp hbl hgd hl he
  go_enter Tryz.func230,Tryz.ntmps230
  go_wp2_with fail
  refine bodyPost_ret (v:=.tuple #[.string { data:=#[] },.int .i64 p,.int .i64 4]) (by simp[results,Tryz.results230,go_sem]) rfl ⟨rfl,by go_grown⟩
end Go.Proofs.YtjinnigjfopbcaaGreatDoor
namespace Go.Proofs.YtjinnigjfopbcaaGreatDoor
set_option linter.unusedVariables false
set_option linter.unusedSimpArgs false
set_option maxRecDepth 20000
theorem xun (l:List Int) (p:Nat) (t:List Int) (h:l.drop p=34 :: t) (hp:p<l.length):xbg l p=xaZ l.length t (p+1) []:=by
 unfold xbg
 have h1:l.getD p 0=34:=by
  rw[List.getD_eq_getElem?_getD,List.getElem?_eq_getElem hp]
  rw[List.drop_eq_getElem_cons hp] at h
  injection h
 have h2:l.drop (p+1)=t:=by
  rw[List.drop_eq_getElem_cons hp] at h
  injection h
 rw[if_neg (by omega),if_neg (by omega),Int.toNat_natCast,if_neg (by rw[h1];simp),h2]
theorem xcd (l:List Int):xbg l 0=match l with
  | []=>([],0,3)
  | b :: t=>if b=34 then xaZ (t.length+1) t 1 [] else ([],0,4):=by
 cases l with
 | nil=>rfl
 | cons b t =>
  by_cases h:b=34
  ·subst h
   have:=xun (34 :: t) 0 t rfl (by simp)
   rw[show ((0:Nat):Int)=0 from rfl] at this
   rw[this]
   simp
  ·unfold xbg
   rw[if_neg (by simp;omega),if_neg (by simp;omega)]
   simp[h]
theorem xn4 (l:List Int) (h:(xbg l 0).2.2≠0):(xbg l 0).1=[]∧(xbg l 0).2.1≤l.length∧((xbg l 0).2.2=3→(xbg l 0).2.1=l.length):=by
 rw[xcd] at h ⊢
 cases l with
 | nil=>exact⟨rfl,Nat.le_refl _,fun _=>rfl⟩
 | cons b t =>
  simp only at h ⊢
  by_cases hb:b=34
  ·rw[if_pos hb] at h ⊢
   obtain⟨a,c,d⟩:=xkG _ t 1 [] (by omega) h
   refine⟨a,by rw[List.length_cons];omega,fun e=>?_⟩
   have:=d e
   rw[List.length_cons]
   omega
  ·rw[if_neg hb]
   exact⟨rfl,Nat.zero_le _,fun e=>by cases e⟩
theorem xjL (l:List Int) (h:(xbg l 0).2.2=0):(∃ k,Val (xbg l 0).1 k)∧2≤(xbg l 0).2.1∧(xbg l 0).2.1≤l.length∧(∀ x,xbg (l.take (xbg l 0).2.1++x) 0=xbg l 0) ∧
  ∀ j,j<(xbg l 0).2.1→(xbg (l.take j) 0).1=[]∧((xbg (l.take j) 0).2.2=3∧(xbg (l.take j) 0).2.1=j∨(xbg (l.take j) 0).2.2=4):=by
 have hz:=xcd l
 cases l with
 | nil=>rw[hz] at h;cases h
 | cons b t =>
  simp only at hz
  by_cases hb:b=34
  ·rw[if_pos hb] at hz
   subst hb
   rw[hz] at h ⊢
   obtain⟨n,u,k,e1,e2,e3,e4,e5,e6⟩:=xhY _ t 1 [] (by omega) h
   rw[e1]
   simp only[List.nil_append] at e5 ⊢
   refine⟨⟨k,e4⟩,by omega,by rw[List.length_cons];omega,fun x=>?_,fun j hj=>?_⟩
   ·rw[show 1+n=n+1 by omega,List.take_succ_cons,List.cons_append,xcd]
    simp only
    rw[if_pos trivial,e5 x _ (by omega)]
    congr 2
    omega
   ·cases j with
    | zero=>rw[List.take_zero,xcd];exact⟨rfl,.inl ⟨rfl,rfl⟩⟩
    | succ j =>
     rw[List.take_succ_cons,xcd]
     simp only
     rw[if_pos trivial]
     have:=e6 j ((t.take j).length+1) (by omega) (by omega)
     rw[show 1+j=j+1 by omega] at this
     exact this
  ·rw[if_neg hb] at hz
   rw[hz] at h
   cases h
theorem xwC (b:Int):isD b=true↔48≤b∧b≤57:=by simp[isD]
theorem xyD (a:List Int) (h:∀ b ∈ a,isD b=true):0≤xhE a:=by
 suffices H:∀ (a:List Int) (n:Int),0≤n→(∀ b ∈ a,isD b=true)→0≤a.foldl (fun n c=>10*n+(c - 48)) n from H a 0 (Int.le_refl 0) h
 intro a
 induction a with
 | nil=>intro n hn _;exact hn
 | cons c a ih =>
  intro n hn h
  rw[List.foldl_cons]
  have:=(xwC c).1 (h c (.head _))
  exact ih _ (by omega) (fun b hb=>h b (.tail _ hb))
theorem xnl:∀ l:List Int,xb8 l≤l.length
 | []=>Nat.le_refl _
 | b :: t=>by
  rw[xb8,List.length_cons]
  have:=xnl t
  split <;> omega
theorem xcN:∀ l:List Int,xaa l≤l.length
 | []=>Nat.le_refl _
 | b :: t=>by
  rw[xaa,List.length_cons]
  have:=xcN t
  split <;> omega
theorem xrp (l:List Int) (h:(xhi l).2.2=0):∃ n,(xhi l).1=.num n∧n≤xi6∧-xi6≤n∧(xhi l).2.1=xb8 l∧1≤xb8 l:=by
 unfold xhi at h ⊢
 by_cases hb:xl8 (l.take (xb8 l))
 ·rw[if_pos hb] at h;cases h
 rw[if_neg hb] at h ⊢
 by_cases hm:xi6<xhE (xaY (l.take (xb8 l)))
 ·rw[if_pos hm] at h;cases h
 rw[if_neg hm]
 have ha:(xaY (l.take (xb8 l))).all isD=true:=by
  by_cases ha:(xaY (l.take (xb8 l))).all isD=true
  ·exact ha
  ·exact absurd (.inr (.inr ha)) hb
 have h0:=xyD _ (List.all_eq_true.1 ha)
 refine⟨_,rfl,?_,?_,rfl,?_⟩
 ·split <;> simp only[xi6] at hm ⊢ <;> omega
 ·split <;> simp only[xi6] at hm ⊢ <;> omega
 ·rcases Nat.eq_zero_or_pos (xb8 l) with e|e
  ·refine absurd (.inl ?_) hb
   rw[e]
   rfl
  ·exact e
theorem xxB (l:List Int):(xhi l).2.1≤l.length:=by
 unfold xhi
 split
 ·exact Nat.zero_le _
 split
 ·exact Nat.zero_le _
 ·exact xnl l
theorem xmq (l:List Int):xay l=xbg l 0:=by rw[xcd];cases l <;> rfl
theorem xgd (l:List Int):(xay l).2.1≤l.length:=by
 rw[xmq]
 by_cases h:(xbg l 0).2.2=0
 ·exact(xjL l h).2.2.1
 ·exact(xn4 l h).2.1
theorem xqT (l:List Int) (h:(xay l).2.2=0):2≤(xay l).2.1∧0≤xas (xay l).1:=by
 rw[xmq] at h ⊢
 obtain⟨⟨k,hv⟩,h2,_⟩:=xjL l h
 exact⟨h2,by rw[xmR hv];omega⟩
theorem xib:∀ (w l:List Int) (i:Nat),(xb3 w l i).1≤i+l.length∧((xb3 w l i).2=0→(xb3 w l i).1=i+w.length)
 | [],l,i=>⟨Nat.le_add_right _ _,fun _=>rfl⟩
 | _ :: _,[],i=>⟨Nat.le_add_right _ _,fun h=>by cases h⟩
 | c :: w,b :: t,i=>by
  rw[xb3]
  split
  ·obtain⟨a,d⟩:=xib w t (i+1)
   exact⟨by rw[List.length_cons];omega,fun h=>by rw[d h,List.length_cons];omega⟩
  ·exact⟨Nat.zero_le _,fun h=>by cases h⟩
theorem xiW (w:List Int) (v:Js) (l:List Int) (hw:1≤w.length):(xcn w v l).2.1≤l.length∧((xcn w v l).2.2=0→1≤(xcn w v l).2.1∧(xcn w v l).1=v):=by
 obtain⟨a,d⟩:=xib w l 0
 unfold xcn
 split
 ·rename_i h
  exact⟨by simpa using a,fun _=>⟨by rw[d h];omega,rfl⟩⟩
 ·rename_i h
  exact⟨by simpa using a,fun h'=>absurd h' h⟩
theorem xt0 (ob:Bool) (names:List (List Int)) (l:List Int):(xbk ob names l).2.1≤l.length:=by
 unfold xbk
 by_cases ho:ob=false
 ·rw[if_pos ho];exact Nat.zero_le _
 rw[if_neg ho]
 have hl:=xgd l
 rcases ht:xay l with ⟨name,n,e⟩
 rw[ht] at hl
 simp only at hl ⊢
 have hb:=xcN (l.drop n)
 have hb2:=xcN (l.drop (n+xaa (l.drop n)+1))
 rw[List.length_drop] at hb hb2
 split
 ·exact hl
 split
 ·exact Nat.zero_le _
 split
 ·simp only;omega
 rename_i h3
 have h3:n+xaa (l.drop n)<l.length:=by
  have:=mt List.drop_eq_nil_iff.2 h3
  omega
 split <;> simp only <;> omega
def xrZ (f d:Nat) (ob:Bool) (fin:Int) (names:List (List Int)) (k:Nat) (l name:List Int) (v:Js) (m:Nat):Jl × Nat × Int :=
 if l.drop m=[] then (.nil,m,3) else if xbH (l.drop m)=fin then (.cons name v .nil,m+1,0) else if xbH (l.drop m)≠44 then (.nil,m,4) else
 if (xaA f d ob fin (names++[name]) (k+1) (l.drop (m+1+xaa (l.drop (m+1))))).2.2≠0 then
  (.nil,m+1+xaa (l.drop (m+1))+(xaA f d ob fin (names++[name]) (k+1) (l.drop (m+1+xaa (l.drop (m+1))))).2.1,(xaA f d ob fin (names++[name]) (k+1) (l.drop (m+1+xaa (l.drop (m+1))))).2.2)
 else (.cons name v (xaA f d ob fin (names++[name]) (k+1) (l.drop (m+1+xaa (l.drop (m+1))))).1,m+1+xaa (l.drop (m+1))+(xaA f d ob fin (names++[name]) (k+1) (l.drop (m+1+xaa (l.drop (m+1))))).2.1,0)
theorem xc7 (f d:Nat) (ob:Bool) (fin:Int) (names:List (List Int)) (k:Nat) (l:List Int):xaA (f+1) d ob fin names k l =
  if l≠[]∧64≤k then (.nil,0,21) else if (xbk ob names l).2.2≠0 then (.nil,(xbk ob names l).2.1,(xbk ob names l).2.2) else
  if (xai f (d+1) (l.drop (xbk ob names l).2.1)).2.2≠0 then (.nil,(xbk ob names l).2.1+(xai f (d+1) (l.drop (xbk ob names l).2.1)).2.1,(xai f (d+1) (l.drop (xbk ob names l).2.1)).2.2)
  else xrZ f d ob fin names k l (xbk ob names l).1 (xai f (d+1) (l.drop (xbk ob names l).2.1)).1 ((xbk ob names l).2.1+(xai f (d+1) (l.drop (xbk ob names l).2.1)).2.1+xaa (l.drop ((xbk ob names l).2.1+(xai f (d+1) (l.drop (xbk ob names l).2.1)).2.1))):=by
 rw[xaA]
 rfl
theorem xcf (f d:Nat) (b:Int) (t:List Int) (h:b=91∨b=123):xai (f+1) d (b :: t) =
  if 4<d then (.nul,0,20) else if xbH (t.drop (xaa t))=b+2 then (if b=91 then .arr .nil else .obj .nil,xaa t+2,0)
   else if (xaA f d (decide (b=123)) (b+2) [] 0 (t.drop (xaa t))).2.2≠0 then (.nul,xaa t+1+(xaA f d (decide (b=123)) (b+2) [] 0 (t.drop (xaa t))).2.1,(xaA f d (decide (b=123)) (b+2) [] 0 (t.drop (xaa t))).2.2)
   else (if b=91 then .arr (xaA f d (decide (b=123)) (b+2) [] 0 (t.drop (xaa t))).1 else .obj (xaA f d (decide (b=123)) (b+2) [] 0 (t.drop (xaa t))).1,xaa t+1+(xaA f d (decide (b=123)) (b+2) [] 0 (t.drop (xaa t))).2.1,0):=by
 rw[xai,if_neg (by omega),if_neg (by omega),if_neg (by omega),if_neg (by omega),if_pos h]
def xe7 (l:List Int):Js × Nat × Int :=
 match l with
 | []=>(.nul,0,3)
 | b :: t =>
  if b=110 then xcn [110,117,108,108] .nul (b :: t)
  else if b=102 then xcn [102,97,108,115,101] (.bool false) (b :: t)
  else if b=116 then xcn [116,114,117,101] (.bool true) (b :: t)
  else if b=34 then (if (xay (b :: t)).2.2=0 then (.str (xay (b :: t)).1,(xay (b :: t)).2.1,0) else (.nul,(xay (b :: t)).2.1,(xay (b :: t)).2.2))
  else if b=45∨isD b=true then xhi (b :: t)
  else (.nul,0,4)
theorem xd2 (f d:Nat) (l:List Int) (h:xbH l≠91∧xbH l≠123):xai (f+1) d l=xe7 l:=by
 cases l with
 | nil=>rfl
 | cons b t =>
  have h1:¬ (b=91∨b=123):=by rintro(e|e);exact h.1 e;exact h.2 e
  rw[xai,xe7]
  repeat' split
  all_goals first|rfl|exact absurd ‹b=91∨b=123› h1
theorem xuu (l:List Int):(xe7 l).2.1≤l.length∧((xe7 l).2.2=0→1≤(xe7 l).2.1):=by
 cases l with
 | nil=>exact⟨Nat.le_refl _,fun h=>by cases h⟩
 | cons b t =>
  rw[xe7]
  by_cases h1:b=110
  ·rw[if_pos h1]
   obtain⟨a,c⟩:=xiW [110,117,108,108] .nul (b :: t) (by simp)
   exact⟨a,fun h=>(c h).1⟩
  rw[if_neg h1]
  by_cases h2:b=102
  ·rw[if_pos h2]
   obtain⟨a,c⟩:=xiW [102,97,108,115,101] (.bool false) (b :: t) (by simp)
   exact⟨a,fun h=>(c h).1⟩
  rw[if_neg h2]
  by_cases h3:b=116
  ·rw[if_pos h3]
   obtain⟨a,c⟩:=xiW [116,114,117,101] (.bool true) (b :: t) (by simp)
   exact⟨a,fun h=>(c h).1⟩
  rw[if_neg h3]
  by_cases h4:b=34
  ·rw[if_pos h4]
   have ht:=xgd (b :: t)
   have ho:=xqT (b :: t)
   split
   ·rename_i h;exact⟨ht,fun _=>by have:=ho h;simp only;omega⟩
   ·rename_i h;exact⟨ht,fun h'=>absurd h' h⟩
  rw[if_neg h4]
  by_cases h5:b=45∨isD b=true
  ·rw[if_pos h5]
   refine⟨xxB _,fun h=>?_⟩
   obtain⟨n,e1,e2,e3,e4,e5⟩:=xrp _ h
   omega
  rw[if_neg h5]
  exact⟨Nat.zero_le _,fun h=>by cases h⟩
def InV (r:Js × Nat × Int) (n:Nat):Prop:=r.2.1≤n∧(r.2.2=0→1≤r.2.1)
def InL (r:Jl × Nat × Int) (n:Nat):Prop:=r.2.1≤n∧(r.2.2=0→1≤r.2.1)
theorem xuh {l:List Int} {m:Nat} (h:l.drop m≠[]):m<l.length:=by
 have:=mt List.drop_eq_nil_iff.2 h
 omega
theorem xst {l:List Int} {b:Int} (h:xbH l=b) (hb:b≠-1):1≤l.length:=by
 cases l with
 | nil=>exact absurd h.symm hb
 | cons c t=>simp
theorem xv6 (f:Nat):(∀ d l,InV (xai f d l) l.length)∧∀ d ob fin names k l,InL (xaA f d ob fin names k l) l.length:=by
 induction f with
 | zero=>exact⟨fun d l=>⟨by rw[xai];exact Nat.le_refl _,fun h=>by rw[xai] at h;cases h⟩,fun d ob fin names k l=>⟨by rw[xaA];exact Nat.le_refl _,fun h=>by rw[xaA] at h;cases h⟩⟩
 | succ f ih =>
  refine⟨fun d l=>?_,fun d ob fin names k l=>?_⟩
  ·by_cases h:xbH l=91∨xbH l=123
   ·cases l with
    | nil=>rcases h with h|h <;> cases h
    | cons b t =>
     have h:b=91∨b=123:=h
     rw[xcf f d b t h]
     have hb:=xcN t
     have hi:=ih.2 d (decide (b=123)) (b+2) [] 0 (t.drop (xaa t))
     unfold InL at hi
     rw[List.length_drop] at hi
     unfold InV
     rw[List.length_cons]
     split
     ·exact⟨Nat.zero_le _,fun h=>by cases h⟩
     split
     ·rename_i h2
      have:=xst h2 (by omega)
      rw[List.length_drop] at this
      exact⟨by simp only;omega,fun _=>by simp only;omega⟩
     split
     ·rename_i h3;exact⟨by simp only;omega,fun h'=>absurd h' h3⟩
     ·exact⟨by simp only;omega,fun _=>by simp only;omega⟩
   ·rw[xd2 f d l ⟨fun e=>h (.inl e),fun e=>h (.inr e)⟩]
    exact xuu l
  ·rw[xc7]
   have hp:=xt0 ob names l
   generalize xbk ob names l=P at hp ⊢
   have hv:=ih.1 (d+1) (l.drop P.2.1)
   generalize xai f (d+1) (l.drop P.2.1)=V at hv ⊢
   unfold InV at hv
   rw[List.length_drop] at hv
   have hm:=xcN (l.drop (P.2.1+V.2.1))
   rw[List.length_drop] at hm
   have hm:P.2.1+V.2.1+xaa (l.drop (P.2.1+V.2.1))≤l.length:=by omega
   generalize P.2.1+V.2.1+xaa (l.drop (P.2.1+V.2.1))=m at hm ⊢
   unfold InL
   split
   ·exact⟨Nat.zero_le _,fun h=>by cases h⟩
   split
   ·rename_i h;exact⟨hp,fun h'=>absurd h' h⟩
   split
   ·rename_i h;exact⟨by simp only;omega,fun h'=>absurd h' h⟩
   unfold xrZ
   split
   ·exact⟨hm,fun h=>by cases h⟩
   rename_i h4
   have h4:=xuh h4
   split
   ·exact⟨by simp only;omega,fun _=>by simp only;omega⟩
   split
   ·exact⟨hm,fun h=>by cases h⟩
   have hq:=xcN (l.drop (m+1))
   rw[List.length_drop] at hq
   have hq:m+1+xaa (l.drop (m+1))≤l.length:=by omega
   have hq1:1≤m+1+xaa (l.drop (m+1)):=by omega
   generalize m+1+xaa (l.drop (m+1))=q at hq hq1 ⊢
   have hi:=ih.2 d ob fin (names++[P.1]) (k+1) (l.drop q)
   unfold InL at hi
   rw[List.length_drop] at hi
   split
   ·rename_i h;exact⟨by simp only;omega,fun h'=>absurd h' h⟩
   ·exact⟨by simp only;omega,fun _=>by simp only;omega⟩
theorem xz0 (f:Nat):(∀ g d l,2*l.length+1≤f→2*l.length+1≤g→xai f d l=xai g d l)∧∀ g d ob fin names k l,2*l.length+2≤f→2*l.length+2≤g→xaA f d ob fin names k l=xaA g d ob fin names k l:=by
 induction f with
 | zero=>exact⟨fun g d l h=>by omega,fun g d ob fin names k l h=>by omega⟩
 | succ f ih =>
  refine⟨fun g d l hf hg=>?_,fun g d ob fin names k l hf hg=>?_⟩
  ·cases g with
   | zero=>omega
   | succ g =>
    by_cases h:xbH l=91∨xbH l=123
    ·cases l with
     | nil=>rcases h with h|h <;> cases h
     | cons b t =>
      have h:b=91∨b=123:=h
      rw[List.length_cons] at hf hg
      rw[xcf f d b t h,xcf g d b t h,ih.2 g d _ _ _ _ _ (by rw[List.length_drop];omega) (by rw[List.length_drop];omega)]
    ·have h:xbH l≠91∧xbH l≠123:=⟨fun e=>h (.inl e),fun e=>h (.inr e)⟩
     rw[xd2 f d l h,xd2 g d l h]
  ·cases g with
   | zero=>omega
   | succ g =>
    rw[xc7,xc7,ih.1 g (d+1) _ (by rw[List.length_drop];omega) (by rw[List.length_drop];omega)]
    unfold xrZ
    by_cases hl:l.length=0
    ·obtain rfl:l=[]:=List.eq_nil_of_length_eq_zero hl
     simp only[List.drop_nil,if_true]
    ·rw[ih.2 g d _ _ _ _ _ (by rw[List.length_drop];omega) (by rw[List.length_drop];omega)]
end Go.Proofs.YtjinnigjfopbcaaGreatDoor
namespace Go.Proofs.YtjinnigjfopbcaaGreatDoor
set_option linter.unusedVariables false
set_option linter.unusedSimpArgs false
open Go.RowKit
set_option maxRecDepth 20000
theorem xiI {S:Nat→Prop} {w:World} {v:Js} {x:Value} (h:xaq S w v x):x=.nilIface∨∃ t y,x=.iface t y:=by
 cases v <;> rw[xaq] at h
 ·exact .inl h
 ·exact .inr ⟨_,_,h⟩
 ·exact .inr ⟨_,_,h⟩
 ·obtain⟨t,rfl,_⟩:=h;exact .inr ⟨_,_,rfl⟩
 ·obtain⟨a,c,rfl,_⟩:=h;exact .inr ⟨_,_,rfl⟩
 ·obtain⟨a,c,rfl,_⟩:=h;exact .inr ⟨_,_,rfl⟩
 ·exact .inr ⟨_,_,h⟩
theorem xA4:maxLen=9223372036854775807:=by decide
def xq7 (w:World) (b:Nat) (k n:Int) (s:ByteArray) (nv kv:Value):Prop:=w.cell? ⟨b,0,none⟩=some (.int .u8 k)∧w.cell? ⟨b,1,none⟩=some (.int .i64 n)∧w.cell? ⟨b,2,none⟩=some (.string s)∧w.cell? ⟨b,3,none⟩=some nv∧w.cell? ⟨b,4,none⟩=some kv
theorem xq7.made (w:World) (k n:Int) (s:ByteArray) (nv kv:Value) (T:TypeId):xq7 (w.alloc (.cells #[.int .u8 k,.int .i64 n,.string s,nv,kv] T)) w.heap.size k n s nv kv:=by
 refine⟨?_,?_,?_,?_,?_⟩ <;> rw[World.cell?_alloc_mark] <;> rfl
theorem cell_kept {w w':World} {a:Addr} {v:Value} (hb:Below w.heap.size w w') (h:w.cell? a=some v):w'.cell? a=some v:=(hb.cell (World.block_lt_of_cell? _ _ h)).trans h
theorem xq7.later {w w':World} {b:Nat} {k n:Int} {s:ByteArray} {nv kv:Value} (h:xq7 w b k n s nv kv) (hb:Below w.heap.size w w'):xq7 w' b k n s nv kv :=
 ⟨cell_kept hb h.1,cell_kept hb h.2.1,cell_kept hb h.2.2.1,cell_kept hb h.2.2.2.1,cell_kept hb h.2.2.2.2⟩
theorem xdN (w:World) (o:Obj):(w.alloc o).heap[w.heap.size]?=some o:=by
 show (w.heap.push o)[w.heap.size]?=_
 simp
theorem xbi {w:World} {o:Obj} {k:Nat} (h:k<w.heap.size):(w.alloc o).heap[k]?=w.heap[k]?:=((Below.refl w.heap.size w).alloc (Nat.le_refl _) o).block k h
theorem xep (sz bytes:Nat) (W:World) (B:Nat) (TS E ty:TypeId) (z:Value) (ht:Tryz.prog.underlying TS=some (.slice E)) (hI:(Tryz.prog.info? E).map (fun i=>(i.zero,i.size,i.bytes))=some (some z,sz,bytes)) (hzs:z.cells.size=sz) (hsz:0<sz) (hby:bytes≤64)
  (v:Value) (n:Nat) (L:List Value) (hown:W.ownsRow B E sz v n L) (ad:Addr) (m c:Nat) (xs:List Value) (hxs:xs.length=m*sz) (hnews:∀ j u,xs[j]?=some u→W.cell? (ad.add j)=some u) (hone:∀ u ∈ xs,u.oneCell'=true) (hm:0<m) (hl:n+m≤1000000000) (hb:B≤W.heap.size) :
  ∃ v' w',(Builtin.append_ #[TS,TS] ty #[v,.slice (some ad) m c]).run Tryz.prog W=.ok v' w'∧w'.ownsRow B E sz v' (n+m) (L++xs)∧W.grownBy w' v.ownBlock∧(v'.ownBlock=v.ownBlock∨∃ g,v'.ownBlock=some g∧W.heap.size≤g):=by
 obtain⟨i0,hi,hz0,hz1,hz2⟩:=xau hI
 have hbb:(n+m)*bytes≤1000000000*64:=Nat.mul_le_mul hl hby
 obtain⟨v',w',hr,h2,h3,h4⟩:=run_append_own (P:=Tryz.prog) W B TS ty E i0 _ sz bytes ht hi hz0 hz1 hz2 hzs hsz v n L hown ad m c xs hxs hnews hone (by unfold maxLen;omega) (by omega) hb
 refine⟨v',w',hr,h2,h3,?_⟩
 rcases hown.2 with ⟨rfl,hn⟩|⟨g,cap,cur,rfl,hbg,hg,hnc,hcm,hcs,htake⟩
 ·obtain⟨_,_,hr2,h22,_,_⟩:=run_append_own (P:=Tryz.prog) W W.heap.size TS ty E i0 _ sz bytes ht hi hz0 hz1 hz2 hzs hsz (.slice none 0 0) n L ⟨hown.1,.inl ⟨rfl,hn⟩⟩ ad m c xs hxs hnews hone (by unfold maxLen;omega) (by omega) (Nat.le_refl _)
  rw[hr] at hr2
  injection hr2 with e1 e2
  subst e1 e2
  rcases h22.2 with ⟨rfl,_⟩|⟨g,cap,cur,rfl,hg,_⟩
  ·exact .inl rfl
  ·exact .inr ⟨g,rfl,hg⟩
 ·have hL:L.length=n*i0.size:=by rw[hz1];exact hown.1
  by_cases hroom:n+m≤cap
  ·have hmul:(n+m)*sz≤cap*sz:=Nat.mul_le_mul_right _ hroom
   have hr2:=run_append_room (P:=Tryz.prog) W TS ty E i0 ht hi g n cap cur hg ad m c xs (by rw[hz1];exact hxs) hnews hone hroom (by rw[hz1,hxs,hcs,← Nat.add_mul];exact hmul)
   rw[hr] at hr2
   injection hr2 with e1 e2
   rw[e1]
   exact .inl rfl
  ·have hr2:=run_append_grow (P:=Tryz.prog) W TS ty E i0 _ ht hi hz0 ⟨g,0,none⟩ n cap L hL (World.ownsRow.cells hown rfl) ad m c xs (by rw[hz1];exact hxs) hnews (by omega) (by omega) (growslice_fits (by omega) (by rw[hz2];omega))
   rw[hr] at hr2
   injection hr2 with e1 e2
   rw[e1]
   exact .inr ⟨_,rfl,Nat.le_refl _⟩
theorem xyi:(Tryz.prog.info? 20).map (fun i=>(i.zero,i.size,i.bytes))=some (some .nilIface,1,16):=by kernel_rfl
theorem xpp {S:Nat→Prop} {w:World} {v:Js} {x:Value} (h:xaq S w v x):x.oneCell'=true:=by
 cases v <;> rw[xaq] at h
 ·rw[h];rfl
 ·rw[h];rfl
 ·rw[h];rfl
 ·obtain⟨t,rfl,_⟩:=h;rfl
 ·obtain⟨a,c,rfl,_⟩:=h;rfl
 ·obtain⟨a,c,rfl,_⟩:=h;rfl
 ·rw[h];rfl
end Go.Proofs.YtjinnigjfopbcaaGreatDoor
namespace Go.Proofs.YtjinnigjfopbcaaGreatDoor
set_option linter.unusedVariables false
set_option linter.unusedSimpArgs false
open Go.RowKit
set_option maxRecDepth 20000
set_option maxHeartbeats 1000000
theorem xkA (n:Int) (d:Nat) (w:World):Calls Tryz.prog 373 #[.int .i64 n,.int .i64 d] w fun e w'=>e=.returned (.int .i64 (if 4<d then 20 else if 64<n then 21 else 0))∧Below w.heap.size w w':=by
 by_cases h1:4<d
 ·rw[if_pos h1]
  have e1:decide (4<(d:Int))=true:=by simp;omega
  go_enter Tryz.func373,Tryz.ntmps373
  go_wp2_with fail
  go_ret
  exact⟨rfl,by go_grown⟩
 have e1:decide (4<(d:Int))=false:=by simp;omega
 rw[if_neg h1]
 by_cases h2:64<n
 ·rw[if_pos h2]
  have e2:decide (64<n)=true:=by simp;omega
  go_enter Tryz.func373,Tryz.ntmps373
  go_wp2_with fail
  go_ret
  exact⟨rfl,by go_grown⟩
 rw[if_neg h2]
 have e2:decide (64<n)=false:=by simp;omega
 go_enter Tryz.func373,Tryz.ntmps373
 go_wp2_with fail
 go_ret
 exact⟨rfl,by go_grown⟩
theorem xnR (t name:ByteArray) (y:Value) (hy:y=.nilIface∨∃ u z,y=.iface u z) (b:Nat) (w:World) (hb:b<w.heap.size) (hc:w.cell? ⟨b,0,none⟩=some (.string name)) :
  Calls Tryz.prog 316 #[.agg #[.string t,y],.pointer (some ⟨b,0,none⟩)] w fun e w'=>e=.returned (.bool (decide (t=name)))∧Below w.heap.size w w':=by
 have hne:b≠w.heap.size:=by omega
 obtain⟨q,hq,hqd⟩:∃ q,(t.toList == name.toList)=q∧q=decide (t=name):=by
  by_cases h:t=name
  ·exact⟨_,xeb h,by rw[decide_eq_true h]⟩
  ·exact⟨_,xjn h,by rw[decide_eq_false h]⟩
 rw[← hqd]
 clear hqd
 rcases hy with rfl|⟨u,z,rfl⟩
 ·go_enter Tryz.func316,Tryz.ntmps316
  go_wp2_with fail
  go_ret
  exact⟨rfl,by go_grown⟩
 ·go_enter Tryz.func316,Tryz.ntmps316
  go_wp2_with fail
  go_ret
  exact⟨rfl,by go_grown⟩
theorem xja {S:Nat→Prop} {w:World} {v:Js} {x:Value} (h:xaq S w v x):x=.nilIface∨∃ u z,x=.iface u z:=xiI h
theorem xt4 (S:Nat→Prop) (a:Option Addr) (n cap:Nat) (l:Jl) (name:ByteArray) (b:Nat) (w:World) (hr:xea S w a 0 l) (hn:n≤l.length) (hcap:n≤cap) (hm:cap≤maxLen) (hb:b<w.heap.size) (hcb:w.cell? ⟨b,0,none⟩=some (.string name)) :
  Calls Tryz.prog 315 #[.slice a n cap,.func (.func 316) #[] #[.pointer (some ⟨b,0,none⟩)]] w fun e w'=>(∃ r,e=.returned (.int .i64 r)∧PlR (bI name) (l.names.take n) r)∧Below w.heap.size w w':=by
 have HR:=lH hr
 have hml:(n:Int)≤9223372036854775807:=by rw[xA4] at hm;omega
 clear hr
 go_enter Tryz.func315,Tryz.ntmps315
 go_wp2_with fail
 go_loopw [8] (fun s wr=>∃ i:Nat,i≤n∧s=.int .i64 i∧Hid (∀ j,j<i→l.names[j]?≠some (bI name))∧Below w.heap.size w wr) (fun s _=>n - (intOf s).toNat)
 case atStart=>exact⟨0,Nat.zero_le _,rfl,lH (fun j hj=>absurd hj (Nat.not_lt_zero _)),Below.refl _ _⟩
 case round =>
  obtain⟨i,hi,rfl,HM,hbw⟩:=hrel
  by_cases hlt:i<n
  ·obtain⟨nm,v,hat⟩:=Jl.lt_at l i (by omega)
   obtain⟨g,off,y,t,rfl,_,hg,l0,hbt,_,l1,hav⟩:=xea.at l 0 i nm v HR.out hat
   rw[Nat.zero_add] at l0 l1
   replace l0:=(hbw.cell hg).trans l0
   replace l1:=(hbw.cell hg).trans l1
   have hi2:(i:Int)<(n:Int):=by omega
   have HNA:=lH (Jl.names_at l i nm v hat)
   have HBT:=lH hbt
   have hyf:=xja hav
   have HE:=lH (xnR t name y hyf b wr (Nat.lt_of_lt_of_le hb hbw.size) ((hbw.cell hb).trans hcb))
   have hy1:=xpp hav
   clear hbt hav hat
   by_cases hp:t=name
   ·have HP:=lH hp
    rw[decide_eq_true hp] at HE
    clear hp
    rcases hyf with rfl|⟨u,z,rfl⟩
    ·go_wp2_with fail
     refine HE.out.mono ?_
     rintro e w1 ⟨rfl,hb⟩
     have hbw1:=hbw.trans (hb.mono hbw.size)
     clear hb hbw l0 l1 HE
     go_wp2_with fail
     go_ret
     exact⟨⟨i,rfl,.inr ⟨i,rfl,by rw[List.getElem?_take_of_lt hlt,HNA.out,← HBT.out,HP.out],fun j hj e=>HM.out j hj (by rwa[List.getElem?_take_of_lt (by omega)] at e)⟩⟩,hbw1⟩
    ·go_wp2_with fail
     refine HE.out.mono ?_
     rintro e w1 ⟨rfl,hb⟩
     have hbw1:=hbw.trans (hb.mono hbw.size)
     clear hb hbw l0 l1 HE
     go_wp2_with fail
     go_ret
     exact⟨⟨i,rfl,.inr ⟨i,rfl,by rw[List.getElem?_take_of_lt hlt,HNA.out,← HBT.out,HP.out],fun j hj e=>HM.out j hj (by rwa[List.getElem?_take_of_lt (by omega)] at e)⟩⟩,hbw1⟩
   ·have HP:=lH hp
    rw[decide_eq_false hp] at HE
    clear hp
    have HM2:Hid (∀ j,j<i+1→l.names[j]?≠some (bI name)):=lH (fun j hj e=>by
     rcases Nat.lt_or_ge j i with h|h
     ·exact HM.out j h e
     ·obtain rfl:j=i:=by omega
      rw[HNA.out,← HBT.out] at e
      exact HP.out (xvH (by simpa using e)))
    rcases hyf with rfl|⟨u,z,rfl⟩
    ·go_wp2_with fail
     refine HE.out.mono ?_
     rintro e w1 ⟨rfl,hb⟩
     have hbw1:=hbw.trans (hb.mono hbw.size)
     clear hb hbw l0 l1 HE
     go_wp2_with fail
     go_roundw
     case rel=>exact⟨i+1,by omega,by go_num,HM2,hbw1⟩
     case measure=>simp[intOf];omega
    ·go_wp2_with fail
     refine HE.out.mono ?_
     rintro e w1 ⟨rfl,hb⟩
     have hbw1:=hbw.trans (hb.mono hbw.size)
     clear hb hbw l0 l1 HE
     go_wp2_with fail
     go_roundw
     case rel=>exact⟨i+1,by omega,by go_num,HM2,hbw1⟩
     case measure=>simp[intOf];omega
  ·obtain rfl:i=n:=by omega
   go_wp2_with fail
   go_ret
   refine⟨⟨-1,rfl,.inl ⟨rfl,fun hmem=>?_⟩⟩,hbw⟩
   obtain⟨j,hj⟩:=List.getElem?_of_mem hmem
   have hjl:=(List.getElem?_eq_some_iff.1 hj).1
   rw[List.length_take] at hjl
   rw[List.getElem?_take_of_lt (by omega)] at hj
   exact HM.out j (by omega) hj
theorem xfJ (S:Nat→Prop) (a:Option Addr) (n cap:Nat) (l:Jl) (name:ByteArray) (w:World) (hr:xea S w a 0 l) (hn:n≤l.length) (hcap:n≤cap) (hm:cap≤maxLen) :
  Calls Tryz.prog 285 #[.slice a n cap,.string name] w fun e w'=>(∃ r,e=.returned (.int .i64 r)∧PlR (bI name) (l.names.take n) r)∧Below w.heap.size w w':=by
 have H:=lH (fun W T (hW:W=w.alloc (.cells #[.string name] T))=>xt4 S a n cap l name w.heap.size W (by subst hW;exact xea.keep (fun _ e _=>e) (by simp) (fun b _ h=>xbi h) l a 0 hr) hn hcap hm (by subst hW;simp) (by subst hW;rw[World.cell?_alloc_mark];rfl))
 clear hr
 go_enter Tryz.func285,Tryz.ntmps285
 go_wp2_with fail
 refine(H.out _ _ rfl).mono ?_
 rintro e w1 ⟨⟨r,rfl,hr⟩,hb⟩
 have HR:=lH hr
 have HB:=lH (((Below.refl _ w).alloc (Nat.le_refl _) _).trans (hb.mono (by simp)))
 clear hr hb
 go_wp2_with fail
 go_ret
 exact⟨⟨r,rfl,HR.out⟩,HB.out⟩
end Go.Proofs.YtjinnigjfopbcaaGreatDoor
namespace Go.Proofs.YtjinnigjfopbcaaGreatDoor
set_option linter.unusedVariables false
set_option linter.unusedSimpArgs false
open Go.RowKit
set_option maxRecDepth 20000
abbrev Its:=List (List Int × Js)
def xfF:Its→Jl→Jl
 | [],l=>l
 | (n,v) :: t,l=>.cons n v (xfF t l)
theorem xgF:∀ (vs:Its) (n:List Int) (v:Js) (l:Jl),xfF (vs++[(n,v)]) l=xfF vs (.cons n v l)
 | [],n,v,l=>rfl
 | (m,u) :: t,n,v,l=>by rw[List.cons_append,xfF,xgF t n v l,xfF]
theorem xkZ:∀ (vs:Its) (j:Nat) (n:List Int) (v:Js),(xfF vs .nil).at? j=some (n,v)→vs[j]?=some (n,v)
 | [],j,n,v,h=>by cases h
 | (m,u) :: t,0,n,v,h=>by simpa[xfF,Jl.at?] using h
 | (m,u) :: t,j+1,n,v,h=>by simpa using xkZ t j n v h
theorem xeN:∀ vs:Its,(xfF vs .nil).length=vs.length
 | []=>rfl
 | (m,u) :: t=>by rw[xfF,Jl.length,xeN t];rfl
theorem xhJ:∀ vs:Its,(xfF vs .nil).names=vs.map (·.1)
 | []=>rfl
 | (m,u) :: t=>by rw[xfF,Jl.names,xhJ t];rfl
def szI (pr:Bool):Nat:=if pr then 2 else 1
def tyI (pr:Bool):TypeId:=if pr then 404 else 20
def slI (pr:Bool):TypeId:=if pr then 157 else 397
def xdA (pr:Bool) (S:Nat→Prop) (w:World) (p:List Int × Js) (cs:List Value):Prop :=
 ∃ x,xaq S w p.2 x∧if pr=true then ∃ t:ByteArray,cs=[.string t,x]∧bI t=p.1∧p.1.length≤5000 else cs=[x]
theorem xdA.len {pr:Bool} {S:Nat→Prop} {w:World} {p:List Int × Js} {cs:List Value} (h:xdA pr S w p cs):cs.length=szI pr:=by
 obtain⟨x,_,h⟩:=h
 cases pr
 ·simp at h;rw[h];rfl
 ·simp at h;obtain⟨t,rfl,_⟩:=h;rfl
theorem xdA.one {pr:Bool} {S:Nat→Prop} {w:World} {p:List Int × Js} {cs:List Value} (h:xdA pr S w p cs):∀ u ∈ cs,u.oneCell'=true:=by
 obtain⟨x,hx,h⟩:=h
 have:=xpp hx
 cases pr
 ·simp at h;subst h;intro u hu;obtain rfl:u=x:=by simpa using hu
  exact this
 ·simp at h;obtain⟨t,rfl,_⟩:=h;intro u hu
  rcases(by simpa using hu:u=.string t∨u=x) with rfl|rfl
  ·rfl
  ·exact this
theorem xdA.keep {pr:Bool} {S S':Nat→Prop} {w w':World} {p:List Int × Js} {cs:List Value} (hS:∀ b,S b→b<w.heap.size→S' b) (hs:w.heap.size≤w'.heap.size) (hk:∀ b,S b→b<w.heap.size→w'.heap[b]?=w.heap[b]?) (h:xdA pr S w p cs):xdA pr S' w' p cs:=by
 obtain⟨x,hx,h⟩:=h
 exact⟨x,xaq.keep hS hs hk _ _ hx,h⟩
def xg7 (pr:Bool) (B:Nat) (X:Nat→Prop) (vs:Its) (l:Value) (w:World):Prop :=
 ∃ xs:List Value,w.ownsRow B (tyI pr) (szI pr) l vs.length xs∧∀ j p,vs[j]?=some p→xdA pr (fun b=>X b∧l.ownBlock≠some b) w p ((xs.drop (j*szI pr)).take (szI pr))
theorem xim {pr:Bool} {B:Nat} {X:Nat→Prop} {vs:Its} {l:Value} {w:World} (h:xg7 pr B X vs l w):∀ b,l.ownBlock=some b→B≤b∧b<w.heap.size:=by
 obtain⟨xs,h1,_⟩:=h
 exact World.ownsRow.lt h1
theorem xkr {pr:Bool} {B:Nat} {X:Nat→Prop} {vs:Its} {l:Value} {w w':World} (h:xg7 pr B X vs l w) (hs:w.heap.size≤w'.heap.size) (hr:∀ b,l.ownBlock=some b→w'.heap[b]?=w.heap[b]?) (hk:∀ b,X b→l.ownBlock≠some b→b<w.heap.size→w'.heap[b]?=w.heap[b]?):xg7 pr B X vs l w':=by
 obtain⟨xs,h1,h2⟩:=h
 refine⟨xs,?_,fun j p hp=>(h2 j p hp).keep (fun _ e _=>e) hs (fun b hb hlt=>hk b hb.1 hb.2 hlt)⟩
 obtain⟨g1,g2⟩:=h1
 refine⟨g1,?_⟩
 rcases g2 with g2|⟨g,cap,cur,hv,hg,hh,r⟩
 ·exact .inl g2
 ·refine .inr ⟨g,cap,cur,hv,hg,?_,r⟩
  rw[hr g (by rw[hv];rfl)];exact hh
theorem xnx {pr:Bool} {B:Nat} {X:Nat→Prop} {vs:Its} {l:Value} {w w':World} (h:xg7 pr B X vs l w) (hb:Below w.heap.size w w'):xg7 pr B X vs l w' :=
 xkr h hb.size (fun b e=>hb.block b (xim h b e).2) (fun b _ _ hlt=>hb.block b hlt)
theorem xr7 {pr:Bool} {B:Nat} {X:Nat→Prop} {vs:Its} {l:Value} {w:World} {p:List Int × Js} {cs:List Value} (ty:TypeId) (h:xg7 pr B X vs l w) (hi:vs.length≤1000000) (h0:B≤w.heap.size)
  (hx:xdA pr (fun b=>X b∧l.ownBlock≠some b) w p cs):∃ v' w',(Builtin.append_ #[slI pr,slI pr] ty #[l,.slice (some ⟨w.heap.size,0,none⟩) 1 1]).run Tryz.prog (w.alloc (.cells cs.toArray (tyI pr)))=.ok v' w'∧xg7 pr B X (vs++[p]) v' w' ∧
   (w.alloc (.cells cs.toArray (tyI pr))).grownBy w' l.ownBlock∧(v'.ownBlock=l.ownBlock∨∃ g,v'.ownBlock=some g∧w.heap.size≤g):=by
 obtain⟨xs,h1,h2⟩:=h
 have hlt:=World.ownsRow.lt h1
 have hxl:xs.length=vs.length*szI pr:=h1.1
 have hcl:=hx.len
 have hcell:∀ j u,cs[j]?=some u→(w.alloc (.cells cs.toArray (tyI pr))).cell? ((⟨w.heap.size,0,none⟩:Addr).add j)=some u:=by
  intro j u hu
  rw[Go.WideShapes.add_plain,World.cell?_alloc_mark]
  simpa using hu
 obtain⟨v',w',hr,g1,g2,g3⟩:∃ v' w',(Builtin.append_ #[slI pr,slI pr] ty #[l,.slice (some ⟨w.heap.size,0,none⟩) 1 1]).run Tryz.prog (w.alloc (.cells cs.toArray (tyI pr)))=.ok v' w'∧w'.ownsRow B (tyI pr) (szI pr) v' (vs.length+1) (xs++cs)∧(w.alloc (.cells cs.toArray (tyI pr))).grownBy w' l.ownBlock∧(v'.ownBlock=l.ownBlock∨∃ g,v'.ownBlock=some g∧(w.alloc (.cells cs.toArray (tyI pr))).heap.size≤g):=by
  cases pr
  ·exact xep 1 16 (w.alloc (.cells cs.toArray 20)) B 397 20 ty _ Tryz.underlying397 xyi rfl (by omega) (by omega) l vs.length xs (h1.alloc _) ⟨w.heap.size,0,none⟩ 1 1 cs (by rw[hcl];rfl) hcell hx.one (by omega) (by omega) (by simp;omega)
  ·exact xep 2 32 (w.alloc (.cells cs.toArray 404)) B 157 404 ty (.agg #[.string { data:=#[] },.nilIface]) Tryz.underlying157 (by kernel_rfl) rfl (by omega) (by omega) l vs.length xs (h1.alloc _) ⟨w.heap.size,0,none⟩ 1 1 cs (by rw[hcl];rfl) hcell hx.one (by omega) (by omega) (by simp;omega)
 have hsz:(w.alloc (.cells cs.toArray (tyI pr))).heap.size=w.heap.size+1:=by simp
 have hS:∀ b,(X b∧l.ownBlock≠some b)→b<w.heap.size→X b∧v'.ownBlock≠some b:=by
  intro b hb hlt
  refine⟨hb.1,?_⟩
  rcases g3 with e|⟨g,e,hg⟩
  ·rw[e];exact hb.2
  ·rw[e]
   intro e'
   obtain rfl:g=b:=by simpa using e'
   omega
 have hk:∀ b,(X b∧l.ownBlock≠some b)→b<w.heap.size→w'.heap[b]?=w.heap[b]?:=fun b hb hlt =>
  (g2.block b (by omega) (fun e=>hb.2 e.symm)).trans (xbi hlt)
 have hs:w.heap.size≤w'.heap.size:=by have:=g2.size;omega
 refine⟨v',w',hr,⟨xs++cs,by rw[List.length_append];exact g1,fun j q hq=>?_⟩,g2,?_⟩
 ·by_cases hj:j<vs.length
  ·rw[List.getElem?_append_left hj] at hq
   have hmul:(j+1)*szI pr≤vs.length*szI pr:=Nat.mul_le_mul_right _ hj
   rw[Nat.add_mul,Nat.one_mul] at hmul
   rw[List.drop_append_of_le_length (by omega),List.take_append_of_le_length (by rw[List.length_drop];omega)]
   exact(h2 j q hq).keep hS hs hk
  ·have hjl:=(List.getElem?_eq_some_iff.1 hq).1
   rw[List.length_append,List.length_singleton] at hjl
   obtain rfl:j=vs.length:=by omega
   rw[List.getElem?_append_right (by omega),Nat.sub_self] at hq
   obtain rfl:p=q:=by simpa using hq
   rw[← hxl,List.drop_left,List.take_of_length_le (by omega)]
   exact hx.keep hS hs hk
 ·rcases g3 with e|⟨g,e,hg⟩
  ·exact .inl e
  ·exact .inr ⟨g,e,by omega⟩
theorem xdl {pr:Bool} {B:Nat} {X:Nat→Prop} {vs:Its} {l:Value} {w:World} (h:xg7 pr B X vs l w):∃ a cap,l=.slice a vs.length cap∧vs.length≤cap∧cap≤maxLen ∧
  ∀ k p,vs[k]?=some p→∃ g cs,a=some ⟨g,0,none⟩∧B≤g∧g<w.heap.size∧(∀ j u,cs[j]?=some u→w.cell? ⟨g,k*szI pr+j,none⟩=some u)∧xdA pr X w p cs:=by
 obtain⟨xs,h1,h2⟩:=h
 have hlt:=World.ownsRow.lt h1
 have h1':=h1
 have hxl:xs.length=vs.length*szI pr:=h1.1
 rcases h1.2 with ⟨rfl,hn⟩|⟨g,cap,cur,rfl,hg,hh,hle,hm,_⟩
 ·refine⟨none,0,by rw[hn],by omega,by omega,fun k p hk=>?_⟩
  have:=(List.getElem?_eq_some_iff.1 hk).1
  omega
 ·refine⟨some ⟨g,0,none⟩,cap,rfl,hle,hm,fun k p hk=>?_⟩
  have hkl:=(List.getElem?_eq_some_iff.1 hk).1
  refine⟨g,(xs.drop (k*szI pr)).take (szI pr),rfl,(hlt g rfl).1,(hlt g rfl).2,fun j u hu=>?_,(h2 k p hk).keep (fun _ e _=>e.1) (Nat.le_refl _) (fun _ _ _=>rfl)⟩
  have hj:=(List.getElem?_eq_some_iff.1 hu).1
  rw[List.length_take] at hj
  rw[List.getElem?_take_of_lt (by omega),List.getElem?_drop] at hu
  have:=World.ownsRow.cells h1' rfl (k*szI pr+j) u hu
  rw[Go.WideShapes.add_plain,Nat.zero_add] at this
  exact this
theorem xpZ {B:Nat} {X:Nat→Prop} {vs:Its} {l:Value} {w:World} (h:xg7 false B X vs l w) (hX:∀ b,B≤b→b<w.heap.size→l.ownBlock=some b→X b):xaq X w (.arr (xfF vs .nil)) (.iface 397 l):=by
 obtain⟨a,cap,rfl,h1,h2,h3⟩:=xdl h
 rw[xaq,xeN]
 refine⟨a,cap,rfl,h1,h2,xf7.of _ _ fun k n v hk=>?_⟩
 obtain⟨g,cs,rfl,hg,hlt,hc,x,hx,hcs⟩:=h3 k (n,v) (xkZ vs k n v hk)
 simp only[Bool.false_eq_true,if_false] at hcs
 subst hcs
 refine⟨g,0,x,rfl,hX g hg hlt rfl,hlt,?_,hx⟩
 have:=hc 0 x rfl
 simpa[szI] using this
theorem xkB {B:Nat} {X:Nat→Prop} {vs:Its} {l:Value} {w:World} (h:xg7 true B X vs l w) (hX:∀ b,B≤b→b<w.heap.size→l.ownBlock=some b→X b):xaq X w (.obj (xfF vs .nil)) (.iface 157 l):=by
 obtain⟨a,cap,rfl,h1,h2,h3⟩:=xdl h
 rw[xaq,xeN]
 refine⟨a,cap,rfl,h1,h2,xea.of _ _ fun k n v hk=>?_⟩
 obtain⟨g,cs,rfl,hg,hlt,hc,x,hx,hcs⟩:=h3 k (n,v) (xkZ vs k n v hk)
 simp only[if_true] at hcs
 obtain⟨t,rfl,ht,hn⟩:=hcs
 refine⟨g,0,x,t,rfl,hX g hg hlt rfl,hlt,?_,ht,hn,?_,hx⟩
 ·have:=hc 0 _ rfl
  simpa[szI] using this
 ·have:=hc 1 _ rfl
  simpa[szI] using this
end Go.Proofs.YtjinnigjfopbcaaGreatDoor
namespace Go.Proofs.YtjinnigjfopbcaaGreatDoor
set_option linter.unusedVariables false
set_option linter.unusedSimpArgs false
open Go.RowKit
set_option maxRecDepth 20000
set_option maxHeartbeats 2000000
theorem xwi (l t:List Int) (n:Nat) (h:xkP l=.piece t n):t.length≤n:=by
 match l,h with
 | [],h=>cases h
 | [a],h=>cases h
 | a :: b :: r,h =>
  rw[xdX] at h
  cases h2:xvm b with
  | some x=>rw[h2] at h;simp only[St.piece.injEq] at h;rw[← h.1,← h.2];simp
  | none =>
   rw[h2] at h
   simp only at h
   split at h
   ·unfold xph at h;split at h <;> cases h
   split at h
   ·simp only[St.piece.injEq] at h;rw[← h.1,← h.2];have:=xf0 (xan (a :: b :: r)).1;omega
   split at h
   ·cases h
   split at h
   ·unfold xph at h;split at h <;> cases h
   split at h
   ·cases h
   ·simp only[St.piece.injEq] at h;rw[← h.1,← h.2];have:=xf0 (65536+1024*((xan (a :: b :: r)).1 - 55296)+(xan ((a :: b :: r).drop 6)).1 - 56320);omega
theorem xld (l t:List Int) (n:Nat) (h:xbh l=.piece t n):t.length≤n:=by
 cases l with
 | nil=>cases h
 | cons b s =>
  rw[xbh] at h
  split at h
  ·cases h
  split at h
  ·exact xwi _ _ _ h
  split at h
  ·cases h
  ·simp only[St.piece.injEq] at h;rw[← h.1,← h.2];exact Nat.le_refl _
theorem xky:∀ (f:Nat) (l:List Int) (p:Nat) (out:List Int),(xaZ f l p out).1.length≤out.length+l.length
 | 0,l,p,out=>by simp[xaZ]
 | f+1,l,p,out=>by
  rw[xaC]
  cases hs:xbh l with
  | short=>simp
  | form=>simp
  | fin=>simp
  | piece t n =>
   have h1:=xld l t n hs
   have h2:=(xcM l t n hs).len
   have:=xky f (l.drop n) (p+n) (out++t)
   simp only
   rw[List.length_append,List.length_drop] at this
   omega
theorem xi4 (l:List Int):(xay l).1.length≤l.length:=by
 cases l with
 | nil=>simp[xay]
 | cons b t =>
  rw[xay]
  split
  ·have:=xky (t.length+1) t 1 [];simp at this ⊢;omega
  ·simp
def BEq (l:List Int) (n k:Nat):Prop:=n≤k∧k≤l.length∧k+xaa (l.drop k)=n+xaa (l.drop n)
theorem BEq.same {l:List Int} {n:Nat} (h:n≤l.length):BEq l n n:=⟨Nat.le_refl _,h,rfl⟩
def xdU (g d:Nat) (ob:Bool) (names:List (List Int)) (l:List Int):(List Int × Js) × Nat × Int :=
 if (xbk ob names l).2.2≠0 then (([],.nul),(xbk ob names l).2.1,(xbk ob names l).2.2) else
 (((xbk ob names l).1,(xai g (d+1) (l.drop (xbk ob names l).2.1)).1),(xbk ob names l).2.1+(xai g (d+1) (l.drop (xbk ob names l).2.1)).2.1,(xai g (d+1) (l.drop (xbk ob names l).2.1)).2.2)
theorem xd7 (f d:Nat) (ob:Bool) (fin:Int) (names:List (List Int)) (k:Nat) (l:List Int):xaA (f+1) d ob fin names k l =
  if l≠[]∧64≤k then (.nil,0,21) else if (xdU f d ob names l).2.2≠0 then (.nil,(xdU f d ob names l).2.1,(xdU f d ob names l).2.2)
  else xrZ f d ob fin names k l (xdU f d ob names l).1.1 (xdU f d ob names l).1.2 ((xdU f d ob names l).2.1+xaa (l.drop (xdU f d ob names l).2.1)):=by
 rw[xc7]
 unfold xdU
 by_cases h1:l≠[]∧64≤k
 ·rw[if_pos h1,if_pos h1]
 rw[if_neg h1,if_neg h1]
 by_cases h2:(xbk ob names l).2.2≠0
 ·rw[if_pos h2,if_pos h2,if_pos h2]
 ·rw[if_neg h2,if_neg h2]
def TkE (R:Js × Nat × Int) (l:List Int) (p:Nat) (w:World) (e:Ending) (w':World):Prop :=
 (∃ x v k,e=.returned (.tuple #[x,.int .i64 ((p+k:Nat):Int),.int .i64 R.2.2])∧xaq (fun b=>w.heap.size≤b) w' v x∧(R.2.2=0→v=R.1∧BEq l R.2.1 k)∧(R.2.2≠0→k=R.2.1))∧Below w.heap.size w w'
def xxE (g:Nat):Prop:=∀ (d:Nat) (s:ByteArray) (p:Nat) (w:World),p≤s.size→s.size≤5000→2*(s.size - p)+1≤g→d≤5→QTab w →
 Calls Tryz.prog 152 #[.string s,.int .i64 p,.int .i64 d] w (TkE (xai g d ((bI s).drop p)) ((bI s).drop p) p w)
def xzd (g:Nat) (s:ByteArray) (q:Nat):Prop:=∀ (d p:Nat) (w:World),q≤p→p≤s.size→d≤5→QTab w →
 Calls Tryz.prog 152 #[.string s,.int .i64 p,.int .i64 d] w (TkE (xai g d ((bI s).drop p)) ((bI s).drop p) p w)
theorem xxE.at {g0 g:Nat} (h:xxE g0) {s:ByteArray} {q:Nat} (hs:s.size≤5000) (h0:2*(s.size - q)+1≤g0) (h1:2*(s.size - q)+1≤g):xzd g s q:=by
 intro d p w hqp hp hd ht
 have hl:((bI s).drop p).length=s.size - p:=by rw[List.length_drop,xah]
 rw[(xz0 g).1 g0 d ((bI s).drop p) (by rw[hl];omega) (by rw[hl];omega)]
 exact h d s p w hp hs (by omega) hd ht
def xkS (R:(List Int × Js) × Nat × Int) (l:List Int) (q:Nat) (I:Its→World→Prop) (vs:Its) (e:Ending) (W':World):Prop :=
 ∃ vs' k,e=.returned (.tuple #[.int .i64 ((q+k:Nat):Int),.int .i64 R.2.2])∧I vs' W'∧(R.2.2=0→vs'=vs++[R.1]∧BEq l R.2.1 k)∧(R.2.2≠0→k=R.2.1)
structure Ls (pr:Bool) (bs bd B bl:Nat) (s:ByteArray) (d:Nat) (w0:World) (vs:Its) (W:World):Prop where
 ex:∃ l,W.cell? ⟨bl,0,none⟩=some l∧xg7 pr B (fun b=>B≤b∧b≠bl) vs l W∧l.ownBlock≠some bl
 free:W.frozen? ⟨bl,0,none⟩=false
 cs:W.cell? ⟨bs,0,none⟩=some (.string s)
 cd:W.cell? ⟨bd,0,none⟩=some (.int .i64 d)
 ord:w0.heap.size≤bs∧bs<B∧w0.heap.size≤bd∧bd<B∧B≤bl∧bl<W.heap.size
 bel:Below w0.heap.size w0 W
theorem Ls.below {pr:Bool} {bs bd B bl:Nat} {s:ByteArray} {d:Nat} {w0:World} {vs:Its} {W W':World} (h:Ls pr bs bd B bl s d w0 vs W) (hb:Below W.heap.size W W'):Ls pr bs bd B bl s d w0 vs W':=by
 obtain⟨⟨l,h1,h2,h3⟩,hf,hs,hd,⟨o1,o2,o3,o4,o5,o6⟩,hbl⟩:=h
 refine⟨⟨l,(hb.cell (p:=⟨bl,0,none⟩) o6).trans h1,xnx h2 hb,h3⟩,(World.frozen?_of_block (a:=⟨bl,0,none⟩) (hb.block bl o6)).trans hf,(hb.cell (p:=⟨bs,0,none⟩) (by show bs<_;omega)).trans hs,(hb.cell (p:=⟨bd,0,none⟩) (by show bd<_;omega)).trans hd,⟨o1,o2,o3,o4,o5,Nat.lt_of_lt_of_le o6 hb.size⟩,hbl.trans (hb.mono hbl.size)⟩
theorem Ls.more {pr:Bool} {bs bd B bl:Nat} {s:ByteArray} {d:Nat} {w0:World} {vs:Its} {W:World} (h:Ls pr bs bd B bl s d w0 vs W) (hv:vs.length≤1000000) :
  ∃ l,W.cell? ⟨bl,0,none⟩=some l∧(∀ b,l.ownBlock=some b→b<W.heap.size)∧∀ (W1:World) (m:Nat) (p:List Int × Js) (cs:List Value),Below W.heap.size W W1→W.heap.size≤m→xdA pr (fun b=>m≤b) W1 p cs →
   ∃ v' W2,(Builtin.append_ #[slI pr,slI pr] (slI pr) #[l,.slice (some ⟨W1.heap.size,0,none⟩) 1 1]).run Tryz.prog (W1.alloc (.cells cs.toArray (tyI pr)))=.ok v' W2∧W2.cell? ⟨bl,0,none⟩=some l∧W2.frozen? ⟨bl,0,none⟩=false ∧
    Ls pr bs bd B bl s d w0 (vs++[p]) (W2.setCell ⟨bl,0,none⟩ v'):=by
 obtain⟨l,h1,h2,h3⟩:=h.ex
 refine⟨l,h1,fun b e=>(xim h2 b e).2,fun W1 m p cs hb hm hx=>?_⟩
 have hord:=h.ord
 obtain⟨⟨l',h1',h2',h3'⟩,hf,hs,hd,⟨o1,o2,o3,o4,o5,o6⟩,hbl⟩:=h.below hb
 have hll:l=l':=by
  have:=(hb.cell (p:=⟨bl,0,none⟩) hord.2.2.2.2.2).trans h1
  rw[h1'] at this
  exact(Option.some.inj this).symm
 subst hll
 obtain⟨v',W2,hr,g1,g2,g3⟩:=xr7 (slI pr) h2' hv (by omega) (hx.keep (S':=fun b=>(B≤b∧b≠bl)∧l.ownBlock≠some b) (fun b e _=>⟨⟨by omega,by have:=hord.2.2.2.2.2;omega⟩,fun x=>by have:=(xim h2 b x).2;omega⟩) (Nat.le_refl _) (fun _ _ _=>rfl))
 have hsz:(W1.alloc (.cells cs.toArray (tyI pr))).heap.size=W1.heap.size+1:=by simp
 have hB:=fun b e=>(xim h2' b e).1
 have k1:∀ k,k<W1.heap.size→l.ownBlock≠some k→W2.heap[k]?=W1.heap[k]?:=fun k hk hne=>(g2.block k (by omega) (fun e=>hne e.symm)).trans (xbi hk)
 have hs2:=g2.size
 have c0:W2.cell? ⟨bl,0,none⟩=some l:=(World.cell?_of_block (a:=⟨bl,0,none⟩) (k1 bl o6 h3)).trans h1'
 have c1:W2.frozen? ⟨bl,0,none⟩=false:=(World.frozen?_of_block (a:=⟨bl,0,none⟩) (k1 bl o6 h3)).trans hf
 have hset:∀ k,k≠bl→(W2.setCell ⟨bl,0,none⟩ v').heap[k]?=W2.heap[k]?:=fun k hk=>Below.heap_setCell _ _ _ k hk
 have hsz2:(W2.setCell ⟨bl,0,none⟩ v').heap.size=W2.heap.size:=by simp[World.size_setCell]
 have hvb:v'.ownBlock≠some bl:=by
  rcases g3 with e|⟨g,e,hg⟩
  ·rw[e];exact h3
  ·rw[e];intro e2;injection e2 with e2;omega
 refine⟨v',W2,hr,c0,c1,⟨⟨v',World.cell?_setCell_same _ _ _ c0,?_,hvb⟩,?_,?_,?_,⟨o1,o2,o3,o4,o5,by omega⟩,?_⟩⟩
 ·exact xkr g1 (by omega) (fun b e=>hset b (fun x=>hvb (by rw[e,x]))) (fun b hb _ _=>hset b hb.2)
 ·rw[World.frozen?_setCell];exact c1
 ·exact(World.cell?_of_block (a:=⟨bs,0,none⟩) ((hset bs (by omega)).trans (k1 bs (by omega) (fun e=>by have:=hB bs e;omega)))).trans hs
 ·exact(World.cell?_of_block (a:=⟨bd,0,none⟩) ((hset bd (by omega)).trans (k1 bd (by omega) (fun e=>by have:=hB bd e;omega)))).trans hd
 ·have hb1:Below w0.heap.size w0 W2:=Below.grown (hbl.alloc (by omega) _) g2 (by omega) (fun k e=>by have:=hB k e;omega)
  exact hb1.setCell (p:=⟨bl,0,none⟩) (by show w0.heap.size≤bl;omega) _
end Go.Proofs.YtjinnigjfopbcaaGreatDoor
