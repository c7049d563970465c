/- Zo Zp Zq Zr Zs Zt. -/
import Derived.Test.YtdnmgpcfgcidbaaGreatDoorTZ1
import Derived.Test.YtdnmgpcfgcidbaaGreatDoorTd5
import Derived.Test.YtdnmgpcfgcidbaaGreatDoorTc2
import Derived.Deep.CutBlock
namespace Go.Proofs.YtdnmgpcfgcidbaaGreatDoor
set_option linter.unusedVariables false
set_option linter.unusedSimpArgs false
open Go.RowKit
set_option maxRecDepth 20000
def escV:St→ByteArray × Int × Int
 | .short=>({ data:=#[] },0,3)
 | .form=>({ data:=#[] },0,4)
 | .fin=>({ data:=#[] },0,0)
 | .piece t n=>(str t,n,0)
def frmL (j:Nat):Int:=([34,92,47,98,102,110,114,116]:List Int).getD j 0
theorem two_none {b:Int} (h:∀ j:Nat,j<8→frmL j≠b):twoP b=none:=by
 unfold twoP
 rw[if_neg,if_neg,if_neg,if_neg,if_neg,if_neg,if_neg,if_neg]
 ·intro e;exact h 7 (by omega) (by rw[e];rfl)
 ·intro e;exact h 6 (by omega) (by rw[e];rfl)
 ·intro e;exact h 5 (by omega) (by rw[e];rfl)
 ·intro e;exact h 4 (by omega) (by rw[e];rfl)
 ·intro e;exact h 3 (by omega) (by rw[e];rfl)
 ·intro e;exact h 2 (by omega) (by rw[e];rfl)
 ·intro e;exact h 1 (by omega) (by rw[e];rfl)
 ·intro e;exact h 0 (by omega) (by rw[e];rfl)
theorem escV_bad {e:Int} (h:e=3∨e=4):escV (badE e)=({ data:=#[] },0,e):=by
 rcases h with rfl|rfl <;> rfl
theorem esc_short (a:Int):escP [a]=.short:=rfl
theorem esc_two (a b x:Int) (t:List Int) (h:twoP b=some x):escP (a :: b :: t)=.piece [x] 2:=by unfold escP;simp only[h]
theorem esc_non (a b:Int) (t:List Int) (h:twoP b=none):escP (a :: b :: t)=if (fourP (a :: b :: t)).2≠0 then badE (fourP (a :: b :: t)).2 else if (fourP (a :: b :: t)).1<55296∨57343<(fourP (a :: b :: t)).1 then .piece (encC (fourP (a :: b :: t)).1) 6 else if 56319<(fourP (a :: b :: t)).1 then .form else
  if (fourP ((a :: b :: t).drop 6)).2≠0 then badE (fourP ((a :: b :: t).drop 6)).2 else if (fourP ((a :: b :: t).drop 6)).1<56320∨57343<(fourP ((a :: b :: t).drop 6)).1 then .form
  else .piece (encC (65536+1024*((fourP (a :: b :: t)).1 - 55296)+(fourP ((a :: b :: t).drop 6)).1 - 56320)) 12:=by
 conv=>lhs;unfold escP
 simp only[h]
set_option maxHeartbeats 8000000 in
theorem rescape_any (s:ByteArray) (p:Nat) (w:World) (hs:s.size≤1000000) (hp:p<s.size):Calls Tryz.prog 222 #[.string s,.int .i64 p] w fun e w'=>e=.returned (.tuple #[.string (escV (escP ((bI s).drop p))).1,.int .i64 (escV (escP ((bI s).drop p))).2.1,.int .i64 (escV (escP ((bI s).drop p))).2.2])∧Below w.heap.size w w':=by
 have hsp:=bI_split s p hp
 obtain⟨l,hl⟩:∃ l,(bI s).drop p=l:=⟨_,rfl⟩
 have HF1:=Lib.hid (fun W=>rfour_any s p W hs (by omega))
 rw[hl] at HF1
 obtain⟨j,hj⟩:∃ j:Nat,j=p+1:=⟨_,rfl⟩
 have hw:IntKind.i64.wrap ((p:Int)+1)=(j:Int):=by rw[IntKind.wrap_i64] <;> omega
 by_cases hge:s.size≤p+1
 ·have he:l=[((s[p]'hp).toNat:Int)]:=by rw[← hl,hsp,List.drop_eq_nil_of_le (by rw[bI_len];exact hge)]
  have hge2:(s.size:Int)≤(j:Int):=by omega
  rw[hl,he,esc_short]
  clear he hsp hj hge HF1 hl
  go_enter Tryz.func222,Tryz.ntmps222
  go_wp2_with fail
  refine bodyPost_ret (results_tmp3 rfl _ _ _) rfl ⟨rfl,Below.refl _ _⟩
 have hjl:j<s.size:=by omega
 have hge2:¬ (s.size:Int)≤(j:Int):=by omega
 have hj0:(0:Int)≤(j:Int):=by omega
 have hj1:(j:Int)<(s.size:Int):=by omega
 have hs2:=bI_split s j hjl
 obtain⟨b,hb⟩:∃ b,((s[j]'hjl).toNat:Int)=b:=⟨_,rfl⟩
 rw[hb] at hs2
 rw[show p+1=j by omega,hs2,hl] at hsp
 obtain⟨a,ha⟩:∃ a,((s[p]'hp).toNat:Int)=a:=⟨_,rfl⟩
 rw[ha] at hsp
 have HE2:=Lib.hid (fun x h=>(congrArg escP hsp).trans (esc_two a b x _ h))
 have HEO:=Lib.hid (fun h=>(congrArg escP hsp).trans (esc_non a b _ h))
 rw[← hsp] at HEO
 have hd6:(bI s).drop (p+6)=l.drop 6:=by rw[← hl,List.drop_drop]
 have HF2:=Lib.hid (fun W=>rfour_any s (p+6) W hs (by omega))
 rw[hd6] at HF2
 rw[hl]
 obtain⟨R,hR⟩:∃ R,escV (escP l)=R:=⟨_,rfl⟩
 rw[hR]
 have HR:=Lib.hid hR
 have hfe:=four_err 6 0 0 l
 have hfe2:=four_err 6 0 0 (l.drop 6)
 have hflt:=four_lt l
 have hflt2:=four_lt (l.drop 6)
 rw[show fourG 6 0 0 l=fourP l from rfl] at hfe
 rw[show fourG 6 0 0 (l.drop 6)=fourP (l.drop 6) from rfl] at hfe2
 generalize fourP (l.drop 6)=Q at *
 generalize fourP l=P at *
 have HFE:=Lib.hid (And.intro hfe (And.intro hfe2 (And.intro hflt hflt2)))
 have hq6:IntKind.i64.wrap ((p:Int)+6)=((p+6:Nat):Int):=by rw[IntKind.wrap_i64] <;> omega
 clear hsp hs2 hl ha hd6 hR hge hfe hfe2 hflt hflt2
 have HJ:=Lib.hid hj
 clear hj
 go_enter Tryz.func222,Tryz.ntmps222
 go_wp2_with fail
 go_loopw [9] (fun i wr=>∃ k:Nat,k≤8∧i=.int .i64 k∧Hid (∀ j:Nat,j<k→frmL j≠b)∧Below w.heap.size w wr) (fun i _=>8 - (intOf i).toNat)
 case atStart=>exact⟨0,Nat.zero_le _,rfl,Lib.hid (fun j hj=>absurd hj (by omega)),Below.refl _ _⟩
 case round =>
  obtain⟨k,hk,rfl,HN,hbw⟩:=hrel
  have HBW:=Lib.hid hbw
  clear hbw
  by_cases hlt:k<8
  ·rcases(show k=0∨k=1∨k=2∨k=3∨k=4∨k=5∨k=6∨k=7 by omega) with rfl|rfl|rfl|rfl|rfl|rfl|rfl|rfl
   ·clear hlt hk
    have a1:(({ data:=#[34,92,47,98,102,110,114,116] }:ByteArray)[0]'(by decide)).toNat=34:=rfl
    by_cases h1:b=34
    ·subst h1
     have hx:({ data:=#[34,92,47,8,12,10,13,9] }:ByteArray).extract 0 (0+1)={ data:=#[34] }:=rfl
     have HE:Hid (R=({ data:=#[34] },2,0)):=Lib.hid (by rw[← HR.out,HE2.out _ rfl];rfl)
     go_wp2_with fail
     go_quiet (fail)
     have HBN:Hid (Below w.heap.size w (wr.drewN nq)):=Lib.hid (HBW.out.trans ⟨rfl,rfl,rfl,Nat.le_refl _,fun _ _=>rfl⟩)
     generalize wr.drewN nq=W10 at *
     go_wp2_with fail
     refine bodyPost_ret (results_tmp3 rfl _ _ _) rfl ⟨by rw[HE.out];rfl,HBN.out⟩
    have e1:((34:Int) == b)=false:=beq_eq_false_iff_ne.2 (fun h=>h1 h.symm)
    go_wp2_with fail
    go_quiet (fail)
    have HBN:Hid (Below w.heap.size w (wr.drewN nq)):=Lib.hid (HBW.out.trans ⟨rfl,rfl,rfl,Nat.le_refl _,fun _ _=>rfl⟩)
    generalize wr.drewN nq=W10 at *
    go_wp2_with fail
    go_roundw
    case rel=>exact⟨1,by omega,by go_num,Lib.hid (fun j hj=>by
     rcases Nat.lt_succ_iff_lt_or_eq.1 hj with h|rfl
     ·exact HN.out j h
     ·exact fun h=>h1 h.symm),HBN.out⟩
    case measure=>simp[intOf]
   ·clear hlt hk
    have a1:(({ data:=#[34,92,47,98,102,110,114,116] }:ByteArray)[1]'(by decide)).toNat=92:=rfl
    by_cases h1:b=92
    ·subst h1
     have hx:({ data:=#[34,92,47,8,12,10,13,9] }:ByteArray).extract 1 (1+1)={ data:=#[92] }:=rfl
     have HE:Hid (R=({ data:=#[92] },2,0)):=Lib.hid (by rw[← HR.out,HE2.out _ rfl];rfl)
     go_wp2_with fail
     go_quiet (fail)
     have HBN:Hid (Below w.heap.size w (wr.drewN nq)):=Lib.hid (HBW.out.trans ⟨rfl,rfl,rfl,Nat.le_refl _,fun _ _=>rfl⟩)
     generalize wr.drewN nq=W10 at *
     go_wp2_with fail
     refine bodyPost_ret (results_tmp3 rfl _ _ _) rfl ⟨by rw[HE.out];rfl,HBN.out⟩
    have e1:((92:Int) == b)=false:=beq_eq_false_iff_ne.2 (fun h=>h1 h.symm)
    go_wp2_with fail
    go_quiet (fail)
    have HBN:Hid (Below w.heap.size w (wr.drewN nq)):=Lib.hid (HBW.out.trans ⟨rfl,rfl,rfl,Nat.le_refl _,fun _ _=>rfl⟩)
    generalize wr.drewN nq=W10 at *
    go_wp2_with fail
    go_roundw
    case rel=>exact⟨2,by omega,by go_num,Lib.hid (fun j hj=>by
     rcases Nat.lt_succ_iff_lt_or_eq.1 hj with h|rfl
     ·exact HN.out j h
     ·exact fun h=>h1 h.symm),HBN.out⟩
    case measure=>simp[intOf]
   ·clear hlt hk
    have a1:(({ data:=#[34,92,47,98,102,110,114,116] }:ByteArray)[2]'(by decide)).toNat=47:=rfl
    by_cases h1:b=47
    ·subst h1
     have hx:({ data:=#[34,92,47,8,12,10,13,9] }:ByteArray).extract 2 (2+1)={ data:=#[47] }:=rfl
     have HE:Hid (R=({ data:=#[47] },2,0)):=Lib.hid (by rw[← HR.out,HE2.out _ rfl];rfl)
     go_wp2_with fail
     go_quiet (fail)
     have HBN:Hid (Below w.heap.size w (wr.drewN nq)):=Lib.hid (HBW.out.trans ⟨rfl,rfl,rfl,Nat.le_refl _,fun _ _=>rfl⟩)
     generalize wr.drewN nq=W10 at *
     go_wp2_with fail
     refine bodyPost_ret (results_tmp3 rfl _ _ _) rfl ⟨by rw[HE.out];rfl,HBN.out⟩
    have e1:((47:Int) == b)=false:=beq_eq_false_iff_ne.2 (fun h=>h1 h.symm)
    go_wp2_with fail
    go_quiet (fail)
    have HBN:Hid (Below w.heap.size w (wr.drewN nq)):=Lib.hid (HBW.out.trans ⟨rfl,rfl,rfl,Nat.le_refl _,fun _ _=>rfl⟩)
    generalize wr.drewN nq=W10 at *
    go_wp2_with fail
    go_roundw
    case rel=>exact⟨3,by omega,by go_num,Lib.hid (fun j hj=>by
     rcases Nat.lt_succ_iff_lt_or_eq.1 hj with h|rfl
     ·exact HN.out j h
     ·exact fun h=>h1 h.symm),HBN.out⟩
    case measure=>simp[intOf]
   ·clear hlt hk
    have a1:(({ data:=#[34,92,47,98,102,110,114,116] }:ByteArray)[3]'(by decide)).toNat=98:=rfl
    by_cases h1:b=98
    ·subst h1
     have hx:({ data:=#[34,92,47,8,12,10,13,9] }:ByteArray).extract 3 (3+1)={ data:=#[8] }:=rfl
     have HE:Hid (R=({ data:=#[8] },2,0)):=Lib.hid (by rw[← HR.out,HE2.out _ rfl];rfl)
     go_wp2_with fail
     go_quiet (fail)
     have HBN:Hid (Below w.heap.size w (wr.drewN nq)):=Lib.hid (HBW.out.trans ⟨rfl,rfl,rfl,Nat.le_refl _,fun _ _=>rfl⟩)
     generalize wr.drewN nq=W10 at *
     go_wp2_with fail
     refine bodyPost_ret (results_tmp3 rfl _ _ _) rfl ⟨by rw[HE.out];rfl,HBN.out⟩
    have e1:((98:Int) == b)=false:=beq_eq_false_iff_ne.2 (fun h=>h1 h.symm)
    go_wp2_with fail
    go_quiet (fail)
    have HBN:Hid (Below w.heap.size w (wr.drewN nq)):=Lib.hid (HBW.out.trans ⟨rfl,rfl,rfl,Nat.le_refl _,fun _ _=>rfl⟩)
    generalize wr.drewN nq=W10 at *
    go_wp2_with fail
    go_roundw
    case rel=>exact⟨4,by omega,by go_num,Lib.hid (fun j hj=>by
     rcases Nat.lt_succ_iff_lt_or_eq.1 hj with h|rfl
     ·exact HN.out j h
     ·exact fun h=>h1 h.symm),HBN.out⟩
    case measure=>simp[intOf]
   ·clear hlt hk
    have a1:(({ data:=#[34,92,47,98,102,110,114,116] }:ByteArray)[4]'(by decide)).toNat=102:=rfl
    by_cases h1:b=102
    ·subst h1
     have hx:({ data:=#[34,92,47,8,12,10,13,9] }:ByteArray).extract 4 (4+1)={ data:=#[12] }:=rfl
     have HE:Hid (R=({ data:=#[12] },2,0)):=Lib.hid (by rw[← HR.out,HE2.out _ rfl];rfl)
     go_wp2_with fail
     go_quiet (fail)
     have HBN:Hid (Below w.heap.size w (wr.drewN nq)):=Lib.hid (HBW.out.trans ⟨rfl,rfl,rfl,Nat.le_refl _,fun _ _=>rfl⟩)
     generalize wr.drewN nq=W10 at *
     go_wp2_with fail
     refine bodyPost_ret (results_tmp3 rfl _ _ _) rfl ⟨by rw[HE.out];rfl,HBN.out⟩
    have e1:((102:Int) == b)=false:=beq_eq_false_iff_ne.2 (fun h=>h1 h.symm)
    go_wp2_with fail
    go_quiet (fail)
    have HBN:Hid (Below w.heap.size w (wr.drewN nq)):=Lib.hid (HBW.out.trans ⟨rfl,rfl,rfl,Nat.le_refl _,fun _ _=>rfl⟩)
    generalize wr.drewN nq=W10 at *
    go_wp2_with fail
    go_roundw
    case rel=>exact⟨5,by omega,by go_num,Lib.hid (fun j hj=>by
     rcases Nat.lt_succ_iff_lt_or_eq.1 hj with h|rfl
     ·exact HN.out j h
     ·exact fun h=>h1 h.symm),HBN.out⟩
    case measure=>simp[intOf]
   ·clear hlt hk
    have a1:(({ data:=#[34,92,47,98,102,110,114,116] }:ByteArray)[5]'(by decide)).toNat=110:=rfl
    by_cases h1:b=110
    ·subst h1
     have hx:({ data:=#[34,92,47,8,12,10,13,9] }:ByteArray).extract 5 (5+1)={ data:=#[10] }:=rfl
     have HE:Hid (R=({ data:=#[10] },2,0)):=Lib.hid (by rw[← HR.out,HE2.out _ rfl];rfl)
     go_wp2_with fail
     go_quiet (fail)
     have HBN:Hid (Below w.heap.size w (wr.drewN nq)):=Lib.hid (HBW.out.trans ⟨rfl,rfl,rfl,Nat.le_refl _,fun _ _=>rfl⟩)
     generalize wr.drewN nq=W10 at *
     go_wp2_with fail
     refine bodyPost_ret (results_tmp3 rfl _ _ _) rfl ⟨by rw[HE.out];rfl,HBN.out⟩
    have e1:((110:Int) == b)=false:=beq_eq_false_iff_ne.2 (fun h=>h1 h.symm)
    go_wp2_with fail
    go_quiet (fail)
    have HBN:Hid (Below w.heap.size w (wr.drewN nq)):=Lib.hid (HBW.out.trans ⟨rfl,rfl,rfl,Nat.le_refl _,fun _ _=>rfl⟩)
    generalize wr.drewN nq=W10 at *
    go_wp2_with fail
    go_roundw
    case rel=>exact⟨6,by omega,by go_num,Lib.hid (fun j hj=>by
     rcases Nat.lt_succ_iff_lt_or_eq.1 hj with h|rfl
     ·exact HN.out j h
     ·exact fun h=>h1 h.symm),HBN.out⟩
    case measure=>simp[intOf]
   ·clear hlt hk
    have a1:(({ data:=#[34,92,47,98,102,110,114,116] }:ByteArray)[6]'(by decide)).toNat=114:=rfl
    by_cases h1:b=114
    ·subst h1
     have hx:({ data:=#[34,92,47,8,12,10,13,9] }:ByteArray).extract 6 (6+1)={ data:=#[13] }:=rfl
     have HE:Hid (R=({ data:=#[13] },2,0)):=Lib.hid (by rw[← HR.out,HE2.out _ rfl];rfl)
     go_wp2_with fail
     go_quiet (fail)
     have HBN:Hid (Below w.heap.size w (wr.drewN nq)):=Lib.hid (HBW.out.trans ⟨rfl,rfl,rfl,Nat.le_refl _,fun _ _=>rfl⟩)
     generalize wr.drewN nq=W10 at *
     go_wp2_with fail
     refine bodyPost_ret (results_tmp3 rfl _ _ _) rfl ⟨by rw[HE.out];rfl,HBN.out⟩
    have e1:((114:Int) == b)=false:=beq_eq_false_iff_ne.2 (fun h=>h1 h.symm)
    go_wp2_with fail
    go_quiet (fail)
    have HBN:Hid (Below w.heap.size w (wr.drewN nq)):=Lib.hid (HBW.out.trans ⟨rfl,rfl,rfl,Nat.le_refl _,fun _ _=>rfl⟩)
    generalize wr.drewN nq=W10 at *
    go_wp2_with fail
    go_roundw
    case rel=>exact⟨7,by omega,by go_num,Lib.hid (fun j hj=>by
     rcases Nat.lt_succ_iff_lt_or_eq.1 hj with h|rfl
     ·exact HN.out j h
     ·exact fun h=>h1 h.symm),HBN.out⟩
    case measure=>simp[intOf]
   ·clear hlt hk
    have a1:(({ data:=#[34,92,47,98,102,110,114,116] }:ByteArray)[7]'(by decide)).toNat=116:=rfl
    by_cases h1:b=116
    ·subst h1
     have hx:({ data:=#[34,92,47,8,12,10,13,9] }:ByteArray).extract 7 (7+1)={ data:=#[9] }:=rfl
     have HE:Hid (R=({ data:=#[9] },2,0)):=Lib.hid (by rw[← HR.out,HE2.out _ rfl];rfl)
     go_wp2_with fail
     go_quiet (fail)
     have HBN:Hid (Below w.heap.size w (wr.drewN nq)):=Lib.hid (HBW.out.trans ⟨rfl,rfl,rfl,Nat.le_refl _,fun _ _=>rfl⟩)
     generalize wr.drewN nq=W10 at *
     go_wp2_with fail
     refine bodyPost_ret (results_tmp3 rfl _ _ _) rfl ⟨by rw[HE.out];rfl,HBN.out⟩
    have e1:((116:Int) == b)=false:=beq_eq_false_iff_ne.2 (fun h=>h1 h.symm)
    go_wp2_with fail
    go_quiet (fail)
    have HBN:Hid (Below w.heap.size w (wr.drewN nq)):=Lib.hid (HBW.out.trans ⟨rfl,rfl,rfl,Nat.le_refl _,fun _ _=>rfl⟩)
    generalize wr.drewN nq=W10 at *
    go_wp2_with fail
    go_roundw
    case rel=>exact⟨8,by omega,by go_num,Lib.hid (fun j hj=>by
     rcases Nat.lt_succ_iff_lt_or_eq.1 hj with h|rfl
     ·exact HN.out j h
     ·exact fun h=>h1 h.symm),HBN.out⟩
    case measure=>simp[intOf]
  ·obtain rfl:k=8:=by omega
   have HE:Hid (R=escV (if P.2≠0 then badE P.2 else if P.1<55296∨57343<P.1 then .piece (encC P.1) 6 else if 56319<P.1 then .form else if Q.2≠0 then badE Q.2 else if Q.1<56320∨57343<Q.1 then .form else .piece (encC (65536+1024*(P.1 - 55296)+Q.1 - 56320)) 12)):=Lib.hid (by rw[← HR.out,HEO.out (two_none HN.out)])
   clear HN HEO HR HE2
   go_wp2_with fail
   refine(HF1.out _).mono ?_
   rintro e w1 ⟨rfl,rfl⟩
   have hz:=HFE.out.1
   by_cases h1:P.2=0
   ·have e1:(P.2 == 0)=true:=beq_iff_eq.2 h1
    have e1b:(P.2 != 0)=false:=by simp[h1]
    have hb1:=HFE.out.2.2.1 h1
    rw[if_neg (by simpa using h1)] at HE
    by_cases h2:P.1<55296
    ·rw[if_pos (.inl h2)] at HE
     have e2:decide (P.1<55296)=true:=decide_eq_true h2
     have HBY:=Lib.hid (fun W=>rbytes_anyDd P.1 W (by omega))
     clear hz
     generalize P.2=pe at *
     generalize P.1=pc at *
     go_wp2_with fail
     refine(HBY.out _).mono ?_
     rintro e w2 ⟨rfl,hb2⟩
     have HB2:=Lib.hid (HBW.out.trans (hb2.mono HBW.out.size))
     clear hb2
     go_wp2_with fail
     refine bodyPost_ret (results_tmp3 rfl _ _ _) rfl ⟨by rw[HE.out];rfl,HB2.out⟩
    have e2:decide (P.1<55296)=false:=decide_eq_false h2
    by_cases h3:57343<P.1
    ·rw[if_pos (.inr h3)] at HE
     have e3:decide (57343<P.1)=true:=decide_eq_true h3
     have HBY:=Lib.hid (fun W=>rbytes_anyDd P.1 W (by omega))
     clear hz
     generalize P.2=pe at *
     generalize P.1=pc at *
     go_wp2_with fail
     refine(HBY.out _).mono ?_
     rintro e w2 ⟨rfl,hb2⟩
     have HB2:=Lib.hid (HBW.out.trans (hb2.mono HBW.out.size))
     clear hb2
     go_wp2_with fail
     refine bodyPost_ret (results_tmp3 rfl _ _ _) rfl ⟨by rw[HE.out];rfl,HB2.out⟩
    have e3:decide (57343<P.1)=false:=decide_eq_false h3
    rw[if_neg (by omega)] at HE
    by_cases h4:56319<P.1
    ·rw[if_pos h4] at HE
     have e4:decide (56319<P.1)=true:=decide_eq_true h4
     clear hz
     generalize P.2=pe at *
     generalize P.1=pc at *
     go_wp2_with fail
     refine bodyPost_ret (results_tmp3 rfl _ _ _) rfl ⟨by rw[HE.out];rfl,HBW.out⟩
    have e4:decide (56319<P.1)=false:=decide_eq_false h4
    rw[if_neg h4] at HE
    have hy:=HFE.out.2.1
    have hb5:=HFE.out.2.2.2
    clear HFE hz
    generalize P.2=pe at *
    generalize P.1=pc at *
    go_wp2_with fail
    refine(HF2.out _).mono ?_
    rintro e w1 ⟨rfl,rfl⟩
    by_cases h5:Q.2=0
    ·have e5:(Q.2 == 0)=true:=beq_iff_eq.2 h5
     have e5b:(Q.2 != 0)=false:=by simp[h5]
     have hb6:=hb5 h5
     rw[if_neg (by simpa using h5)] at HE
     clear hy hb5
     by_cases h6:Q.1<56320
     ·rw[if_pos (.inl h6)] at HE
      have e6:decide (Q.1<56320)=true:=decide_eq_true h6
      generalize Q.2=qe at *
      generalize Q.1=qc at *
      go_wp2_with fail
      refine bodyPost_ret (results_tmp3 rfl _ _ _) rfl ⟨by rw[HE.out];rfl,HBW.out⟩
     have e6:decide (Q.1<56320)=false:=decide_eq_false h6
     by_cases h7:57343<Q.1
     ·rw[if_pos (.inr h7)] at HE
      have e7:decide (57343<Q.1)=true:=decide_eq_true h7
      generalize Q.2=qe at *
      generalize Q.1=qc at *
      go_wp2_with fail
      refine bodyPost_ret (results_tmp3 rfl _ _ _) rfl ⟨by rw[HE.out];rfl,HBW.out⟩
     have e7:decide (57343<Q.1)=false:=decide_eq_false h7
     rw[if_neg (by omega)] at HE
     have HBY:=Lib.hid (fun W=>rbytes_anyDd (65536+1024*(pc - 55296)+Q.1 - 56320) W (by omega))
     generalize Q.2=qe at *
     generalize Q.1=qc at *
     have w1:IntKind.i64.wrap (pc - 55296)=pc - 55296:=by rw[IntKind.wrap_i64] <;> omega
     have w2:IntKind.i64.wrap (1024*(pc - 55296))=1024*(pc - 55296):=by rw[IntKind.wrap_i64] <;> omega
     have w3:IntKind.i64.wrap (65536+1024*(pc - 55296))=65536+1024*(pc - 55296):=by rw[IntKind.wrap_i64] <;> omega
     have w4:IntKind.i64.wrap (65536+1024*(pc - 55296)+qc)=65536+1024*(pc - 55296)+qc:=by rw[IntKind.wrap_i64] <;> omega
     have w5:IntKind.i64.wrap (65536+1024*(pc - 55296)+qc - 56320)=65536+1024*(pc - 55296)+qc - 56320:=by rw[IntKind.wrap_i64] <;> omega
     go_wp2_with fail
     refine(HBY.out _).mono ?_
     rintro e w2 ⟨rfl,hb2⟩
     have HB2:=Lib.hid (HBW.out.trans (hb2.mono HBW.out.size))
     clear hb2
     go_wp2_with fail
     refine bodyPost_ret (results_tmp3 rfl _ _ _) rfl ⟨by rw[HE.out];rfl,HB2.out⟩
    ·have e5:(Q.2 == 0)=false:=beq_eq_false_iff_ne.2 h5
     have e5b:(Q.2 != 0)=true:=bne_iff_ne.2 h5
     rw[if_pos (by simpa using h5),escV_bad (by omega)] at HE
     clear hy hb5
     generalize Q.2=qe at *
     go_wp2_with fail
     refine bodyPost_ret (results_tmp3 rfl _ _ _) rfl ⟨by rw[HE.out];rfl,HBW.out⟩
   ·have e1:(P.2 == 0)=false:=beq_eq_false_iff_ne.2 h1
    have e1b:(P.2 != 0)=true:=bne_iff_ne.2 h1
    rw[if_pos (by simpa using h1),escV_bad (by omega)] at HE
    clear hz HFE
    generalize P.2=pe at *
    go_wp2_with fail
    refine bodyPost_ret (results_tmp3 rfl _ _ _) rfl ⟨by rw[HE.out];rfl,HBW.out⟩
theorem nempty_is {s:ByteArray} (h:s.size=0):s.toList.isEmpty=true:=by
 rw[ByteArray.toList_eq,List.isEmpty_iff]
 exact List.eq_nil_of_length_eq_zero (by rw[Array.length_toList];exact h)
theorem nempty_not {s:ByteArray} (h:0<s.size):s.toList.isEmpty=false:=by
 rw[ByteArray.toList_eq,List.isEmpty_eq_false_iff]
 intro e
 have:s.data.size=0:=by rw[← Array.length_toList,e];rfl
 have:s.size=0:=this
 omega
set_option maxHeartbeats 8000000 in
theorem rtake16_any (s:ByteArray) (p:Nat) (w:World) (hs:s.size≤1000000) (hp:p≤s.size):Calls Tryz.prog 171 #[.string s,.int .i64 p] w fun e w'=>e=.returned (.tuple #[.string (str (textP ((bI s).drop p)).1),.int .i64 ((p+(textP ((bI s).drop p)).2.1:Nat):Int),.int .i64 (textP ((bI s).drop p)).2.2])∧Below w.heap.size w w':=by
 have hn0:¬ (p:Int)<0:=by omega
 have hn1:¬ (s.size:Int)<(p:Int):=by omega
 by_cases hz:p=s.size
 ·have he:(bI s).drop p=[]:=List.drop_eq_nil_of_le (by rw[bI_len];omega)
  have e1:((p:Int) == (s.size:Int))=true:=by simp[hz]
  rw[he]
  clear he hz
  go_enter Tryz.func171,Tryz.ntmps171
  go_wp2_with fail
  refine bodyPost_ret (results_tmp3 rfl _ _ _) rfl ⟨rfl,Below.refl _ _⟩
 have e1:((p:Int) == (s.size:Int))=false:=beq_eq_false_iff_ne.2 (by omega)
 have hpl:p<s.size:=by omega
 have hp0:(0:Int)≤(p:Int):=by omega
 have hp1:(p:Int)<(s.size:Int):=by omega
 have hsp:=bI_split s p hpl
 obtain⟨b,hb⟩:∃ b,((s[p]'hpl).toNat:Int)=b:=⟨_,rfl⟩
 rw[hb] at hsp
 rw[hsp]
 by_cases h34:b=34
 ·rw[textP,if_pos h34]
  have e2:(b != 34)=false:=by simp[h34]
  obtain⟨R,hR⟩:∃ R,takeG (((bI s).drop (p+1)).length+1) ((bI s).drop (p+1)) 1 []=R:=⟨_,rfl⟩
  rw[hR]
  have hlen:=bI_len s
  have HR:Hid (R=takeG (s.size+1) ((bI s).drop (p+1)) 1 []):=Lib.hid (by rw[← hR];exact takeG_fuel _ _ _ _ _ (by omega) (by rw[List.length_drop];omega))
  have hw:IntKind.i64.wrap ((p:Int)+1)=((p+1:Nat):Int):=by rw[IntKind.wrap_i64] <;> omega
  clear hR hsp hz h34
  go_enter Tryz.func171,Tryz.ntmps171
  go_wp2_with fail
  go_loopw [7,8] (fun o i wr=>∃ (q:Nat) (out:List Int),p+q≤s.size∧i=.int .i64 ((p+q:Nat):Int)∧o=.string (str out)∧Hid (R=takeG (s.size+1) ((bI s).drop (p+q)) q out)∧out.length≤4*q∧Below w.heap.size w wr) (fun _ i _=>s.size - (intOf i).toNat)
  case atStart=>exact⟨1,[],by omega,by go_num,rfl,HR,by simp,Below.refl _ _⟩
  case round =>
   obtain⟨q,out,hq,rfl,rfl,HG,ho,hbw⟩:=hrel
   have HBW:=Lib.hid hbw
   clear hbw HR
   obtain⟨i,hi⟩:∃ i:Nat,i=p+q:=⟨_,rfl⟩
   rw[← hi] at HG hq ⊢
   have HI:=Lib.hid hi
   clear hi
   by_cases hlt:i<s.size
   ·have hi0:(0:Int)≤(i:Int):=by omega
    have hi1:(i:Int)<(s.size:Int):=by omega
    have hsp:=bI_split s i hlt
    obtain⟨c,hc⟩:∃ c,((s[i]'hlt).toNat:Int)=c:=⟨_,rfl⟩
    have hcr:0≤c∧c<256:=by have:=(s[i]'hlt).toNat_lt;omega
    rw[hc] at hsp
    have HES:=Lib.hid (fun W=>rescape_any s i W hs hlt)
    obtain⟨l,hl⟩:∃ l,(bI s).drop i=l:=⟨_,rfl⟩
    have hll:l.length=s.size - i:=by rw[← hl,List.length_drop,hlen]
    rw[hl] at HES HG hsp
    rw[takeG_step] at HG
    have HPC:=Lib.hid (fun t n (h:stepP l=.piece t n)=>step_piece l t n h)
    by_cases k1:c=34
    ·have e3:(c == 34)=true:=beq_iff_eq.2 k1
     have HE:Hid (R=(out,q+1,0)):=Lib.hid (by rw[HG.out,hsp,k1,step_34])
     have hw2:IntKind.i64.wrap ((i:Int)+1)=((p+(q+1):Nat):Int):=by have:=HI.out;rw[IntKind.wrap_i64] <;> omega
     clear HES HPC hsp hl HG k1
     go_wp2_with fail
     refine bodyPost_ret (results_tmp3 rfl _ _ _) rfl ⟨by rw[HE.out];rfl,HBW.out⟩
    have e3:(c == 34)=false:=beq_eq_false_iff_ne.2 k1
    have hlp:p+(q+l.length)=s.size:=by have:=HI.out;omega
    by_cases k2:c=92
    ·have e4:(c == 92)=true:=beq_iff_eq.2 k2
     have hst:stepP l=escP l:=by rw[hsp,k2];exact step_esc _
     rw[hst] at HG
     have hnf:escP l≠.fin:=fun h=>by
      rw[← hst] at h
      obtain⟨t,ht⟩:=step_fin h
      rw[hsp] at ht
      injection ht with h1 h2
      exact k1 h1
     rw[hst] at HPC
     clear hsp k1 k2 hst
     generalize hE:escP l=E at *
     cases E with
     | fin=>exact absurd rfl hnf
     | short =>
      have HE:Hid (R=([],q+l.length,3)):=Lib.hid HG.out
      clear HG HPC hnf hE hl
      unfold escV at HES
      have hlp2:(s.size:Int)=((p+(q+l.length):Nat):Int):=by rw[hlp]
      have HL2:=Lib.hid hlp2
      clear hlp2 hlp
      go_wp2_with fail
      refine(HES.out _).mono ?_
      rintro e w1 ⟨rfl,hb1⟩
      have HB1:=Lib.hid (HBW.out.trans (hb1.mono HBW.out.size))
      clear hb1
      go_wp2_with fail
      refine bodyPost_ret (results_tmp3 rfl _ _ _) rfl ⟨by rw[HE.out,← HL2.out];rfl,HB1.out⟩
     | form =>
      have HE:Hid (R=([],q,4)):=Lib.hid HG.out
      clear HG HPC hnf hE hl hlp
      unfold escV at HES
      go_wp2_with fail
      refine(HES.out _).mono ?_
      rintro e w1 ⟨rfl,hb1⟩
      have HB1:=Lib.hid (HBW.out.trans (hb1.mono HBW.out.size))
      clear hb1
      go_wp2_with fail
      refine bodyPost_ret (results_tmp3 rfl _ _ _) rfl ⟨by rw[HE.out,← HI.out];rfl,HB1.out⟩
     | piece t n =>
      have hpo:=HPC.out t n rfl
      have hone:=hpo.one
      have hnl:=hpo.len
      have htl:t.length≤4:=by obtain⟨x,hx⟩:=hpo.rune;rw[← hx];exact encC_len x
      have HE:Hid (R=takeG (s.size+1) ((bI s).drop (p+(q+n))) (q+n) (out++t)):=Lib.hid (by
       rw[HG.out]
       show takeG s.size (l.drop n) (q+n) (out++t)=_
       rw[← hl,List.drop_drop,HI.out,Nat.add_assoc]
       exact takeG_fuel _ _ _ _ _ (by rw[List.length_drop,hlen];omega) (by rw[List.length_drop,hlen];omega))
      have hw3:IntKind.i64.wrap ((i:Int)+(n:Int))=((p+(q+n):Nat):Int):=by have:=HI.out;rw[IntKind.wrap_i64] <;> omega
      have hcat:str out++str t=str (out++t):=str_append out t
      have hz1:(str out).size≤8000000:=by rw[str_size];have:=HI.out;omega
      have hz2:(str t).size≤8000000:=by rw[str_size];omega
      have hqn:p+(q+n)≤s.size:=by have:=HI.out;omega
      have hol:(out++t).length≤4*(q+n):=by rw[List.length_append];omega
      have HIq:=Lib.hid (show s.size - (p+(q+n))<s.size - i by have:=HI.out;omega)
      clear HG HPC hnf hE hl hlp hpo hone hnl htl
      unfold escV at HES
      go_wp2_with fail
      refine(HES.out _).mono ?_
      rintro e w1 ⟨rfl,hb1⟩
      have HB1:=Lib.hid (HBW.out.trans (hb1.mono HBW.out.size))
      clear hb1
      go_wp2_with fail
      go_roundw
      case rel=>exact⟨q+n,out++t,hqn,by go_num,rfl,HE,hol,HB1.out⟩
      case measure=>simp[intOf];have:=HIq.out;omega
    have e4:(c == 92)=false:=beq_eq_false_iff_ne.2 k2
    have hex:s.extract i s.size=s.extract i s.size:=rfl
    have hbe:bI (s.extract i s.size)=l:=by
     rw[bI_extract s i s.size (by omega),hl]
     exact List.take_of_length_le (by omega)
    have HRN:=Lib.hid (fun W=>rrune_any (s.extract i s.size) W (by rw[ByteArray.size_extract];omega))
    rw[hbe] at HRN
    have hst:stepP l=if runeP l=[]∨c<32 then .form else .piece (runeP l) (runeP l).length:=by
     rw[hsp,stepP,if_neg k1,if_neg k2]
    have hrl:=rune_len l
    have hss:=str_size (runeP l)
    clear hex hbe HES hsp k1 k2
    by_cases k3:runeP l=[]
    ·have HE:Hid (R=([],q,4)):=Lib.hid (by rw[HG.out,hst,if_pos (.inl k3)])
     have hem:=nempty_is (s:=str (runeP l)) (by rw[hss,k3];rfl)
     clear HG HPC hl hlp hst k3 hrl
     generalize str (runeP l)=r at *
     go_wp2_with fail
     refine(HRN.out _).mono ?_
     rintro e w1 ⟨rfl,hb1⟩
     have HB1:=Lib.hid (HBW.out.trans (hb1.mono HBW.out.size))
     clear hb1
     go_wp2_with fail
     refine bodyPost_ret (results_tmp3 rfl _ _ _) rfl ⟨by rw[HE.out,← HI.out];rfl,HB1.out⟩
    have hpos:0<(runeP l).length:=by
     rcases Nat.eq_zero_or_pos (runeP l).length with h|h
     ·exact absurd (List.eq_nil_of_length_eq_zero h) k3
     ·exact h
    have hem:=nempty_not (s:=str (runeP l)) (by rw[hss];exact hpos)
    by_cases k4:c<32
    ·have HE:Hid (R=([],q,4)):=Lib.hid (by rw[HG.out,hst,if_pos (.inr k4)])
     have e5:decide (c<32)=true:=decide_eq_true k4
     clear HG HPC hl hlp hst k3 hrl
     generalize str (runeP l)=r at *
     go_wp2_with fail
     refine(HRN.out _).mono ?_
     rintro e w1 ⟨rfl,hb1⟩
     have HB1:=Lib.hid (HBW.out.trans (hb1.mono HBW.out.size))
     clear hb1
     go_wp2_with fail
     refine bodyPost_ret (results_tmp3 rfl _ _ _) rfl ⟨by rw[HE.out,← HI.out];rfl,HB1.out⟩
    have e5:decide (c<32)=false:=decide_eq_false k4
    obtain⟨n,hn⟩:∃ n,(runeP l).length=n:=⟨_,rfl⟩
    have HE:Hid (R=takeG (s.size+1) ((bI s).drop (p+(q+n))) (q+n) (out++runeP l)):=Lib.hid (by
     rw[HG.out,hst,if_neg (by rintro(h|h);exact k3 h;exact k4 h)]
     show takeG s.size (l.drop (runeP l).length) (q+(runeP l).length) (out++runeP l)=_
     rw[hn,← hl,List.drop_drop,HI.out,Nat.add_assoc]
     exact takeG_fuel _ _ _ _ _ (by rw[List.length_drop,hlen];omega) (by rw[List.length_drop,hlen];omega))
    have hw3:IntKind.i64.wrap ((i:Int)+(n:Int))=((p+(q+n):Nat):Int):=by have:=HI.out;rw[IntKind.wrap_i64] <;> omega
    have hcat:str out++str (runeP l)=str (out++runeP l):=str_append out (runeP l)
    have hz1:(str out).size≤8000000:=by rw[str_size];have:=HI.out;omega
    have hz2:(str (runeP l)).size≤8000000:=by rw[hss];omega
    have hqn:p+(q+n)≤s.size:=by have:=HI.out;omega
    have hol:(out++runeP l).length≤4*(q+n):=by rw[List.length_append];omega
    have HIq:=Lib.hid (show s.size - (p+(q+n))<s.size - i by have:=HI.out;omega)
    rw[hn] at hss
    clear HG HPC hl hlp hst k3 k4 hrl hn hpos
    generalize runeP l=rl at *
    go_wp2_with fail
    refine(HRN.out _).mono ?_
    rintro e w1 ⟨rfl,hb1⟩
    have HB1:=Lib.hid (HBW.out.trans (hb1.mono HBW.out.size))
    clear hb1
    go_wp2_with fail
    go_roundw
    case rel=>exact⟨q+n,out++rl,hqn,by go_num,rfl,HE,hol,HB1.out⟩
    case measure=>simp[intOf];have:=HIq.out;omega
   ·obtain rfl:i=s.size:=by omega
    have hl:(bI s).drop s.size=[]:=List.drop_eq_nil_of_le (by omega)
    have HE:Hid (R=([],q,3)):=Lib.hid (by rw[HG.out,hl];rfl)
    clear HG hl
    go_wp2_with fail
    refine bodyPost_ret (results_tmp3 rfl _ _ _) rfl ⟨by rw[HE.out,← HI.out];rfl,HBW.out⟩
 ·rw[textP,if_neg h34]
  have e2:(b != 34)=true:=bne_iff_ne.2 h34
  clear hsp hz h34
  go_enter Tryz.func171,Tryz.ntmps171
  go_wp2_with fail
  refine bodyPost_ret (results_tmp3 rfl _ _ _) rfl ⟨rfl,Below.refl _ _⟩
theorem blankN_cons (b:Int) (t:List Int):blankN (b :: t)=if isB b then blankN t+1 else 0:=by rw[blankN]
set_option maxHeartbeats 4000000 in
theorem rblank_any (s:ByteArray) (p:Nat) (w:World) (hs:s.size≤1000000) (hp:p≤s.size):Calls Tryz.prog 104 #[.string s,.int .i64 p] w fun e w'=>e=.returned (.int .i64 ((p+blankN ((bI s).drop p):Nat):Int))∧w=w':=by
 have hlen:=bI_len s
 obtain⟨R,hR⟩:∃ R,p+blankN ((bI s).drop p)=R:=⟨_,rfl⟩
 rw[hR]
 have HR:=Lib.hid hR
 clear hR
 go_enter Tryz.func104,Tryz.ntmps104
 go_wp2_with fail
 go_loop [1] (fun i=>∃ q:Nat,q≤s.size∧i=.int .i64 q∧Hid (q+blankN ((bI s).drop q)=R)) (fun i=>s.size - (intOf i).toNat)
 case atStart=>exact⟨p,hp,rfl,HR⟩
 case round =>
  obtain⟨q,hq,rfl,HG⟩:=hrel
  clear HR
  by_cases hlt:q<s.size
  ·have hi0:(0:Int)≤(q:Int):=by omega
   have hi1:(q:Int)<(s.size:Int):=by omega
   have hsp:=bI_split s q hlt
   obtain⟨c,hc⟩:∃ c,((s[q]'hlt).toNat:Int)=c:=⟨_,rfl⟩
   rw[hc] at hsp
   rw[hsp,blankN_cons] at HG
   by_cases hb:isB c=true
   ·rw[if_pos hb] at HG
    have HE:Hid (q+1+blankN ((bI s).drop (q+1))=R):=Lib.hid (by rw[← HG.out];omega)
    have hw:IntKind.i64.wrap ((q:Int)+1)=((q+1:Nat):Int):=by rw[IntKind.wrap_i64] <;> omega
    unfold isB at hb
    simp only[Bool.or_eq_true,beq_iff_eq] at hb
    clear HG hsp
    rcases hb with ((hb|hb)|hb)|hb
    all_goals
     have b1:∀ x:Int,(c == x)=decide (c=x):=fun x=>rfl
     subst hb
     clear b1
     go_wp2_with fail
     go_round
     case rel=>exact⟨q+1,by omega,by go_num,HE⟩
     case measure=>simp[intOf];omega
   ·rw[if_neg hb] at HG
    have HE:Hid (q=R):=Lib.hid (by have:=HG.out;omega)
    have hb':isB c=false:=by simpa using hb
    unfold isB at hb'
    simp only[Bool.or_eq_false_iff] at hb'
    obtain⟨⟨⟨n1,n2⟩,n3⟩,n4⟩:=hb'
    clear HG hsp hb
    go_wp2_with fail
    go_ret
    exact⟨by rw[← HE.out];rfl,rfl⟩
  ·obtain rfl:q=s.size:=by omega
   have HE:Hid (s.size=R):=Lib.hid (by rw[← HG.out,List.drop_eq_nil_of_le (by omega)];rfl)
   clear HG
   go_wp2_with fail
   go_ret
   exact⟨by rw[← HE.out];rfl,rfl⟩
def inL (c:Int) (l:List Int):Bool:=l.any (fun x=>x == c)
set_option maxHeartbeats 4000000 in
theorem rwithin_any (c:Int) (t:ByteArray) (w:World) (ht:t.size≤1000):Calls Tryz.prog 173 #[.int .u8 c,.string t] w fun e w'=>e=.returned (.bool (inL c (bI t)))∧w=w':=by
 have hlen:=bI_len t
 obtain⟨R,hR⟩:∃ R,inL c (bI t)=R:=⟨_,rfl⟩
 rw[hR]
 have HR:Hid (inL c ((bI t).drop 0)=R):=Lib.hid hR
 clear hR
 go_enter Tryz.func173,Tryz.ntmps173
 go_wp2_with fail
 go_loop [5] (fun i=>∃ q:Nat,q≤t.size∧i=.int .i64 q∧Hid (inL c ((bI t).drop q)=R)) (fun i=>t.size - (intOf i).toNat)
 case atStart=>exact⟨0,Nat.zero_le _,rfl,HR⟩
 case round =>
  obtain⟨q,hq,rfl,HG⟩:=hrel
  clear HR
  by_cases hlt:q<t.size
  ·have hi0:(0:Int)≤(q:Int):=by omega
   have hi1:(q:Int)<(t.size:Int):=by omega
   have hsp:=bI_split t q hlt
   obtain⟨d,hd⟩:∃ d,((t[q]'hlt).toNat:Int)=d:=⟨_,rfl⟩
   rw[hd] at hsp
   rw[hsp] at HG
   by_cases hb:d=c
   ·have HE:Hid (true=R):=Lib.hid (by rw[← HG.out];unfold inL;simp[hb])
    have e1:(d == c)=true:=beq_iff_eq.2 hb
    clear HG hsp hb
    go_wp2_with fail
    go_ret
    exact⟨by rw[← HE.out];rfl,rfl⟩
   ·have HE:Hid (inL c ((bI t).drop (q+1))=R):=Lib.hid (by rw[← HG.out];unfold inL;rw[List.any_cons,beq_eq_false_iff_ne.2 hb,Bool.false_or])
    have e1:(d == c)=false:=beq_eq_false_iff_ne.2 hb
    clear HG hsp hb
    go_wp2_with fail
    go_round
    case rel=>exact⟨q+1,by omega,by go_num,HE⟩
    case measure=>simp[intOf];omega
  ·obtain rfl:q=t.size:=by omega
   have HE:Hid (false=R):=Lib.hid (by rw[← HG.out,List.drop_eq_nil_of_le (by omega)];rfl)
   clear HG
   go_wp2_with fail
   go_ret
   exact⟨by rw[← HE.out];rfl,rfl⟩
def ndZ:Array Value:=#[.int .u8 0,.int .i64 0,.string { data:=#[] },.slice none 0 0,.slice none 0 0]
def NdK (k:Int) (n:Int) (t:ByteArray):Array Value:=#[.int .u8 k,.int .i64 n,.string t,.slice none 0 0,.slice none 0 0]
def ndNode (W:World) (b:Nat) (cs:Array Value):Prop:=W.heap[b]?=some (.cells cs 101 (0,0))
theorem nd_one (k n:Int) (t:ByteArray):(NdK k n t).all (·.oneCell')=true:=by simp[NdK,Value.oneCell']
theorem ndZ_one:ndZ.all (·.oneCell')=true:=by simp[ndZ,Value.oneCell']
theorem nd_size:(Tryz.prog.info? 101).map (·.size)=some 5:=by kernel_rfl
theorem results_nd {fn:Func} {p q r:Tmp} (h:fn.results=#[.cell p 101,.tmp q,.tmp r]) (tmps:Array Value) (w:World) (g:Nat) (cs:Array Value) (v u:Value)
  (hp:tmps.getD p undef=.pointer (some ⟨g,0,none⟩)) (hq:tmps.getD q undef=v) (hr:tmps.getD r undef=u) (hg:ndNode w g cs) (hz:cs.size=5) :
  (results fn tmps).run Tryz.prog w=.ok (.tuple #[.agg cs,v,u]) w:=by
 have hl:=run_loadVar_row (P:=Tryz.prog) w g 101 101 cs (0,0) _ hg Tryz.underlying101 rfl (by rw[nd_size,hz])
 have hp':tmps[p]?.getD undef=.pointer (some ⟨g,0,none⟩):=by simpa using hp
 have hq':tmps[q]?.getD undef=v:=by simpa using hq
 have hr':tmps[r]?.getD undef=u:=by simpa using hr
 simp[results,h,hp',hq',hr',asAddr,hl]
theorem nd_put {W:World} {b:Nat} {cs:Array Value} (h:ndNode W b cs) (cs':Array Value) (hs:cs'.size=cs.size):ndNode (W.setRow b cs') b cs':=hrow h (by rw[hs])
theorem wordG_nil (l:List Int) (i:Nat):wordG [] l i=(i,0):=by cases l <;> rfl
set_option maxHeartbeats 4000000 in
theorem rword_any (s:ByteArray) (p:Nat) (t:ByteArray) (k:Int) (w:World) (hs:s.size≤1000000) (hp:p≤s.size) (ht:t.size≤1000):Calls Tryz.prog 170 #[.string s,.int .i64 p,.string t,.int .u8 k] w fun e w' =>
  e=.returned (.tuple #[.agg (if (wordG (bI t) ((bI s).drop p) 0).2=0 then NdK k 0 { data:=#[] } else ndZ),.int .i64 ((p+(wordG (bI t) ((bI s).drop p) 0).1:Nat):Int),.int .i64 (wordG (bI t) ((bI s).drop p) 0).2])∧Below w.heap.size w w':=by
 have hlen:=bI_len s
 have hlt2:=bI_len t
 obtain⟨R,hR⟩:∃ R,wordG (bI t) ((bI s).drop p) 0=R:=⟨_,rfl⟩
 rw[hR]
 have HR:=Lib.hid hR
 have HB0:=Lib.hid (below_oneC w (.cells ndZ 101))
 have HN0:Hid (ndNode (w.alloc (.cells ndZ 101)) w.heap.size ndZ):=Lib.hid (heap_new w _)
 unfold ndZ at HB0 HN0
 clear hR
 go_enter Tryz.func170,Tryz.ntmps170
 go_wp2_with fail
 go_loopw [11] (fun i wr=>∃ q:Nat,q≤t.size∧p+q≤s.size∧i=.int .i64 q∧Hid (wordG ((bI t).drop q) ((bI s).drop (p+q)) q=R)∧ndNode wr w.heap.size ndZ∧Below w.heap.size w wr) (fun i _=>t.size - (intOf i).toNat)
 case atStart=>exact⟨0,Nat.zero_le _,hp,rfl,HR,HN0.out,HB0.out⟩
 case round =>
  obtain⟨q,hq,hpq,rfl,HG,hnd,hbw⟩:=hrel
  have HND:=Lib.hid hnd
  have HBW:=Lib.hid hbw
  clear HR HB0 HN0 hnd hbw
  obtain⟨j,hj⟩:∃ j:Nat,j=p+q:=⟨_,rfl⟩
  rw[← hj] at HG hpq
  have HJ:=Lib.hid hj
  have hw:IntKind.i64.wrap ((p:Int)+(q:Int))=(j:Int):=by rw[IntKind.wrap_i64] <;> omega
  clear hj
  by_cases hlt:q<t.size
  ·have hq0:(0:Int)≤(q:Int):=by omega
   have hq1:(q:Int)<(t.size:Int):=by omega
   have hst:=bI_split t q hlt
   obtain⟨d,hd⟩:∃ d,((t[q]'hlt).toNat:Int)=d:=⟨_,rfl⟩
   rw[hd] at hst
   rw[hst] at HG
   by_cases he:j=s.size
   ·have e1:((j:Int) == (s.size:Int))=true:=by simp[he]
    have HE:Hid (R=(q,3)):=Lib.hid (by rw[← HG.out,he,(List.drop_eq_nil_of_le (by omega):(bI s).drop s.size=[])];rfl)
    have HP:Hid ((s.size:Int)=((p+q:Nat):Int)):=Lib.hid (by have:=HJ.out;omega)
    clear HG hst
    obtain rfl:=HE.out
    clear HE
    go_wp2_with (first|(refine wpList_store_row rfl 101 _ _ rfl w.heap.size ndZ rfl rfl 101 ndZ HND.out nd_size rfl ndZ_one ?_)|(refine wpList_load_row rfl 101 _ rfl w.heap.size rfl 101 _ (0,0) HND.out Tryz.underlying101 nd_size rfl ?_)|fail)
    refine bodyPost_ret (results_nd rfl _ _ w.heap.size ndZ _ _ rfl rfl rfl (nd_put HND.out ndZ rfl) rfl) rfl ⟨by rw[HP.out];rfl,below_setRow HBW.out (Nat.le_refl _) _⟩
   have e1:((j:Int) == (s.size:Int))=false:=by simp;omega
   have hj0:(0:Int)≤(j:Int):=by omega
   have hj1:(j:Int)<(s.size:Int):=by omega
   have hsp:=bI_split s j (by omega)
   obtain⟨c,hc⟩:∃ c,((s[j]'(by omega)).toNat:Int)=c:=⟨_,rfl⟩
   rw[hc] at hsp
   rw[hsp] at HG
   by_cases hcd:c=d
   ·have e2:(c != d)=false:=by simp[hcd]
    have HE:Hid (wordG ((bI t).drop (q+1)) ((bI s).drop (p+(q+1))) (q+1)=R):=Lib.hid (by rw[← HG.out,wordG,if_pos hcd,← Nat.add_assoc,← HJ.out])
    have hq2:p+(q+1)≤s.size:=by have:=HJ.out;omega
    clear HG hst hsp hcd
    go_upto_region 6 with fail
    go_region_law fail
    all_goals go_wp2_with fail
    all_goals exact⟨⟨q+1,by omega,hq2,by go_num,HE,HND.out,Below.drew HBW.out⟩,by simp[intOf];omega⟩
   ·have e2:(c != d)=true:=bne_iff_ne.2 hcd
    have HE:Hid (R=(0,4)):=Lib.hid (by rw[← HG.out,wordG,if_neg hcd])
    clear HG hst hsp hcd
    obtain rfl:=HE.out
    clear HE
    go_upto_region 6 with fail
    go_region_law fail
    all_goals go_wp2_with (first|(refine wpList_store_row rfl 101 _ _ rfl w.heap.size ndZ rfl rfl 101 ndZ HND.out nd_size rfl ndZ_one ?_)|(refine wpList_load_row rfl 101 _ rfl w.heap.size rfl 101 _ (0,0) HND.out Tryz.underlying101 nd_size rfl ?_)|fail)
    all_goals refine bodyPost_ret (results_nd rfl _ _ w.heap.size ndZ _ _ rfl rfl rfl (nd_put HND.out ndZ rfl) rfl) rfl ⟨rfl,below_setRow (Below.drew HBW.out) (Nat.le_refl _) _⟩
  ·obtain rfl:q=t.size:=by omega
   have HE:Hid (R=(t.size,0)):=Lib.hid (by rw[← HG.out,List.drop_eq_nil_of_le (by omega),wordG_nil])
   clear HG
   obtain rfl:=HE.out
   clear HE
   go_wp2_with (first|(refine wpList_store_row rfl 101 _ _ rfl w.heap.size (NdK k 0 { data:=#[] }) rfl rfl 101 ndZ HND.out nd_size rfl (nd_one _ _ _) ?_)|(refine wpList_load_row rfl 101 _ rfl w.heap.size rfl 101 _ (0,0) HND.out Tryz.underlying101 nd_size rfl ?_)|fail)
   refine bodyPost_ret (results_nd rfl _ _ w.heap.size (NdK k 0 { data:=#[] }) _ _ rfl rfl rfl (nd_put HND.out (NdK k 0 { data:=#[] }) rfl) rfl) rfl ⟨by rw[HJ.out];rfl,below_setRow HBW.out (Nat.le_refl _) _⟩
def numBz:ByteArray:={ data:=#[48,49,50,51,52,53,54,55,56,57,43,45,46,101,69] }
def digBz:ByteArray:={ data:=#[48,49,50,51,52,53,54,55,56,57] }
theorem inL_num (c:Int):inL c (bI numBz)=isN c:=by
 have:bI numBz=[48,49,50,51,52,53,54,55,56,57,43,45,46,101,69]:=by decide +kernel
 rw[this,Bool.eq_iff_iff]
 simp[inL,isN]
 omega
theorem inL_dig (c:Int):inL c (bI digBz)=isD c:=by
 have:bI digBz=[48,49,50,51,52,53,54,55,56,57]:=by decide +kernel
 rw[this,Bool.eq_iff_iff]
 simp[inL,isD]
 omega
theorem spanN_cons (b:Int) (t:List Int):spanN (b :: t)=if isN b then spanN t+1 else 0:=by rw[spanN]
def scanD:List Int→Int→Option Int
 | [],x=>some x
 | c :: t,x=>if isD c then scanD t (if x≤maxI then 10*x+c - 48 else x) else none
theorem scan_none:∀ (l:List Int) (x:Int),l.all isD=false→scanD l x=none
 | [],x,h=>by cases h
 | c :: t,x,h=>by
  rw[List.all_cons] at h
  rw[scanD]
  cases hc:isD c
  ·rfl
  ·rw[hc,Bool.true_and] at h;exact scan_none t _ h
theorem dig_ge (l:List Int) (h:l.all isD=true):∀ c ∈ l,48≤c:=fun c hc=>((isD_iff c).1 (List.all_eq_true.1 h c hc)).1
theorem scan_some:∀ (l:List Int) (x:Int),0≤x→l.all isD=true→∃ m,scanD l x=some m∧((m≤maxI∧m=l.foldl (fun n c=>10*n+(c - 48)) x)∨(maxI<m∧maxI<l.foldl (fun n c=>10*n+(c - 48)) x))
 | [],x,hx,_=>⟨x,rfl,by by_cases h:x≤maxI;exact .inl ⟨h,rfl⟩;exact .inr ⟨by omega,by show maxI<x;omega⟩⟩
 | c :: t,x,hx,h=>by
  have hge:=dig_ge _ h
  rw[List.all_cons,Bool.and_eq_true] at h
  have hc:=(isD_iff c).1 h.1
  rw[scanD,if_pos h.1,List.foldl_cons]
  by_cases hm:x≤maxI
  ·rw[if_pos hm,show 10*x+c - 48=10*x+(c - 48) by omega]
   exact scan_some t _ (by omega) h.2
  ·rw[if_neg hm]
   obtain⟨m,h1,h2⟩:=scan_some t x hx h.2
   refine⟨m,h1,.inr ⟨?_,?_⟩⟩
   ·rcases h2 with ⟨_,h2⟩|⟨h2,_⟩
    ·have:=fold_geDd t x x (fun y hy=>hge y (List.mem_cons_of_mem _ hy)) hx (Int.le_refl _)
     omega
    ·exact h2
   ·have:=fold_geDd t (10*x+(c - 48)) x (fun y hy=>hge y (List.mem_cons_of_mem _ hy)) hx (by omega)
    omega
def kindV:Js→Int
 | .nul=>0
 | .bool false=>1
 | .bool true=>2
 | .num _=>3
 | .str _=>4
 | .arr _=>5
 | .obj _=>6
 | .bad=>7
def NdAny (k:Int) (cs:Array Value):Prop:=∃ n t a b c a' b' c',cs=#[.int .u8 k,.int .i64 n,.string t,.slice a b c,.slice a' b' c']
theorem NdAny.z:NdAny 0 ndZ:=⟨_,_,_,_,_,_,_,_,rfl⟩
theorem NdAny.k (k n:Int) (t:ByteArray):NdAny k (NdK k n t):=⟨_,_,_,_,_,_,_,_,rfl⟩
theorem NdAny.size {k:Int} {cs:Array Value} (h:NdAny k cs):cs.size=5:=by obtain⟨_,_,_,_,_,_,_,_,rfl⟩:=h;rfl
theorem NdAny.one {k:Int} {cs:Array Value} (h:NdAny k cs):cs.all (·.oneCell')=true:=by obtain⟨_,_,_,_,_,_,_,_,rfl⟩:=h;simp[Value.oneCell']
def ValE (R:Js × Nat × Int) (p:Nat) (w:World) (e:Ending) (w':World):Prop :=
 ∃ cs,NdAny (if R.2.2=0 then kindV R.1 else 0) cs∧e=.returned (.tuple #[.agg cs,.int .i64 ((p+R.2.1:Nat):Int),.int .i64 R.2.2])∧Below w.heap.size w w'
theorem ValE.bad {R:Js × Nat × Int} {p z:Nat} {w w':World} {k:Nat} {e:Int} (h:R=(.nul,k,e)) (hz:p+k=z) (hb:Below w.heap.size w w'):ValE R p w (.returned (.tuple #[.agg ndZ,.int .i64 (z:Int),.int .i64 e])) w':=by
 subst h;subst hz;exact⟨ndZ,by show NdAny (if _ then 0 else 0) _;rw[ite_self];exact .z,rfl,hb⟩
theorem ValE.good {R:Js × Nat × Int} {p z:Nat} {w w':World} {k:Nat} {v:Js} {cs:Array Value} (h:R=(v,k,0)) (hz:p+k=z) (hn:NdAny (kindV v) cs) (hb:Below w.heap.size w w'):ValE R p w (.returned (.tuple #[.agg cs,.int .i64 (z:Int),.int .i64 0])) w':=by
 subst h;subst hz;exact⟨cs,hn,rfl,hb⟩
theorem numP_T (l T:List Int) (h:l.take (spanN l)=T):numP l=if unsgn T=[]∨(unsgn T).head?=some 48∧(1<(unsgn T).length∨isNeg T=true) then ((Js.nul,0,4):Js × Nat × Int) else
  match scanD (unsgn T) 0 with
  | none=>(Js.nul,0,4)
  | some m=>if maxI<m then (Js.nul,0,11) else (Js.num (if isNeg T then - m else m),spanN l,0):=by
 unfold numP
 rw[h]
 by_cases h1:unsgn T=[]∨(unsgn T).head?=some 48∧(1<(unsgn T).length∨isNeg T=true)
 ·rw[if_pos h1,if_pos]
  rcases h1 with h1|h1
  ·exact .inl h1
  ·exact .inr (.inl h1)
 rw[if_neg h1]
 by_cases h2:(unsgn T).all isD=true
 ·have hb:¬ badD T:=by
   rintro(h3|h3|h3)
   ·exact h1 (.inl h3)
   ·exact h1 (.inr h3)
   ·exact h3 h2
  rw[if_neg hb]
  obtain⟨m,hm,h4⟩:=scan_some (unsgn T) 0 (Int.le_refl _) h2
  rw[hm]
  show _=if maxI<m then _ else _
  unfold valD
  rcases h4 with ⟨h5,h6⟩|⟨h5,h6⟩
  ·rw[← h6]
  ·rw[if_pos h5,if_pos h6]
 ·rw[if_pos (show badD T from .inr (.inr h2)),scan_none _ _ (by simpa using h2)]
def itA (L:List Int) (f d:Nat) (ob:Bool) (fin:Int) (names:List (List Int)) (k q:Nat):Nat × Int:=(q+(itemsP f d ob fin names k (L.drop q)).2.1,(itemsP f d ob fin names k (L.drop q)).2.2)
def endA (L:List Int) (f d:Nat) (ob:Bool) (fin:Int) (names:List (List Int)) (k:Nat) (name:List Int) (q:Nat):Nat × Int :=
 if L.drop q=[] then (q,3) else if head0 (L.drop q)=fin then (q+1,0) else if head0 (L.drop q)≠44 then (q,4) else itA L f d ob fin (names++[name]) (k+1) (q+1+blankN (L.drop (q+1)))
def valA (L:List Int) (f d:Nat) (ob:Bool) (fin:Int) (names:List (List Int)) (k:Nat) (name:List Int) (q:Nat):Nat × Int :=
 if (valueP f (d+1) (L.drop q)).2.2≠0 then (q+(valueP f (d+1) (L.drop q)).2.1,(valueP f (d+1) (L.drop q)).2.2) else endA L f d ob fin names k name (q+(valueP f (d+1) (L.drop q)).2.1+blankN (L.drop (q+(valueP f (d+1) (L.drop q)).2.1)))
theorem endA_rest (L:List Int) (f d:Nat) (ob:Bool) (fin:Int) (names:List (List Int)) (k:Nat) (name:List Int) (v:Js) (q m:Nat) :
  endA L f d ob fin names k name (q+m)=(q+(restP f d ob fin names k (L.drop q) name v m).2.1,(restP f d ob fin names k (L.drop q) name v m).2.2):=by
 unfold endA restP itA
 rw[List.drop_drop]
 by_cases h1:L.drop (q+m)=[]
 ·rw[if_pos h1,if_pos h1]
 rw[if_neg h1,if_neg h1]
 by_cases h2:head0 (L.drop (q+m))=fin
 ·rw[if_pos h2,if_pos h2];rfl
 rw[if_neg h2,if_neg h2]
 by_cases h3:head0 (L.drop (q+m))≠44
 ·rw[if_pos h3,if_pos h3]
 rw[if_neg h3,if_neg h3]
 have e1:(L.drop q).drop (m+1)=L.drop (q+m+1):=by rw[List.drop_drop];rfl
 have e2:∀ x,(L.drop q).drop (m+1+x)=L.drop (q+m+1+x):=fun x=>by rw[List.drop_drop,← Nat.add_assoc,← Nat.add_assoc]
 rw[e1,e2]
 generalize itemsP f d ob fin (names++[name]) (k+1) (L.drop (q+m+1+blankN (L.drop (q+m+1))))=I
 by_cases h4:I.2.2≠0
 ·rw[if_pos h4];simp only[Prod.mk.injEq,and_true];omega
 ·rw[if_neg h4];simp only[Prod.mk.injEq];omega
theorem itA_step (L:List Int) (f d:Nat) (ob:Bool) (fin:Int) (names:List (List Int)) (k q:Nat):itA L (f+1) d ob fin names k q =
  if L.drop q≠[]∧64≤k then (q,21) else if (pairP ob names (L.drop q)).2.2≠0 then (q+(pairP ob names (L.drop q)).2.1,(pairP ob names (L.drop q)).2.2)
  else valA L f d ob fin names k (pairP ob names (L.drop q)).1 (q+(pairP ob names (L.drop q)).2.1):=by
 unfold itA
 rw[itemsP_step]
 by_cases h1:L.drop q≠[]∧64≤k
 ·rw[if_pos h1,if_pos h1];rfl
 rw[if_neg h1,if_neg h1]
 generalize pairP ob names (L.drop q)=P
 by_cases h2:P.2.2≠0
 ·rw[if_pos h2,if_pos h2]
 rw[if_neg h2,if_neg h2]
 unfold valA
 rw[List.drop_drop]
 generalize hV:valueP f (d+1) (L.drop (q+P.2.1))=V
 by_cases h3:V.2.2≠0
 ·rw[if_pos h3,if_pos h3];simp only[Prod.mk.injEq,and_true];omega
 rw[if_neg h3,if_neg h3,List.drop_drop,← endA_rest]
 have e:q+(P.2.1+V.2.1)=q+P.2.1+V.2.1:=by omega
 rw[e,show q+(P.2.1+V.2.1+blankN (L.drop (q+P.2.1+V.2.1)))=q+P.2.1+V.2.1+blankN (L.drop (q+P.2.1+V.2.1)) by omega]
theorem box_itA (L:List Int) (f d:Nat) (b:Int) (p:Nat) (hb:b=91∨b=123) (hp:L.drop p=b :: L.drop (p+1)) (hd:¬ 4<d) :
  (head0 (L.drop (p+1+blankN (L.drop (p+1))))=b+2→p+(valueP (f+1) d (L.drop p)).2.1=p+1+blankN (L.drop (p+1))+1∧(valueP (f+1) d (L.drop p)).2.2=0∧kindV (valueP (f+1) d (L.drop p)).1=if b=91 then 5 else 6) ∧
  (head0 (L.drop (p+1+blankN (L.drop (p+1))))≠b+2→(p+(valueP (f+1) d (L.drop p)).2.1,(valueP (f+1) d (L.drop p)).2.2)=itA L f d (decide (b=123)) (b+2) [] 0 (p+1+blankN (L.drop (p+1))) ∧
   ((valueP (f+1) d (L.drop p)).2.2=0→kindV (valueP (f+1) d (L.drop p)).1=if b=91 then 5 else 6)):=by
 rw[hp,valueP_box f d b _ hb,if_neg hd,List.drop_drop]
 refine⟨fun h=>?_,fun h=>?_⟩
 ·rw[if_pos h]
  refine⟨by simp only;omega,rfl,?_⟩
  by_cases h91:b=91
  ·simp only[if_pos h91];rfl
  ·simp only[if_neg h91];rfl
 ·rw[if_neg h]
  unfold itA
  generalize itemsP f d (decide (b=123)) (b+2) [] 0 (L.drop (p+1+blankN (L.drop (p+1))))=I
  by_cases h4:I.2.2≠0
  ·rw[if_pos h4];exact⟨by simp only[Prod.mk.injEq,and_true];omega,fun e=>absurd e h4⟩
  ·rw[if_neg h4]
   refine⟨by simp only[Prod.mk.injEq];omega,fun _=>?_⟩
   by_cases h91:b=91
   ·simp only[if_pos h91];rfl
   ·simp only[if_neg h91];rfl
theorem pairP_byte (names:List (List Int)) (l:List Int):∀ c ∈ (pairP true names l).1,0≤c∧c<256:=by
 have h:=textP_byte l
 unfold pairP
 rw[if_neg (by simp)]
 rcases ht:textP l with ⟨name,n,e⟩
 rw[ht] at h
 simp only at h ⊢
 by_cases h1:e≠0
 ·rw[if_pos h1];simp
 rw[if_neg h1]
 by_cases h2:name ∈ names
 ·rw[if_pos h2];simp
 rw[if_neg h2]
 by_cases h3:l.drop (n+blankN (l.drop n))=[]
 ·rw[if_pos h3];simp
 rw[if_neg h3]
 by_cases h4:head0 (l.drop (n+blankN (l.drop n)))≠58
 ·rw[if_pos h4];simp
 rw[if_neg h4];exact h
end Go.Proofs.YtdnmgpcfgcidbaaGreatDoor
