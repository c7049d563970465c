/- dPv dPw. -/
import Derived.Test.YtdnmgpcfgcidbaaGreatDoorWd5
namespace Go.Proofs.YtdnmgpcfgcidbaaGreatDoor
set_option linter.unusedVariables false
set_option linter.unusedSimpArgs false
open Go.RowKit
set_option maxRecDepth 20000
set_option maxHeartbeats 4000000
theorem TkE.word {wd:List Int} {v u:Js} {l:List Int} {p:Nat} {w w':World} {x:Value} (hw:1≤wd.length) (hx:AnyAt (fun b=>w.heap.size≤b) w' u x) (hu:u=v) (hb:Below w.heap.size w w') :
  TkE (wordP wd v l) l p w (.returned (.tuple #[x,.int .i64 ((p+(wordG wd l 0).1:Nat):Int),.int .i64 (wordG wd l 0).2])) w':=by
 have hle:=wordG_le wd l 0
 unfold wordP
 by_cases h:(wordG wd l 0).2=0
 ·rw [if_pos h]
  exact ⟨⟨x,u,_,by rw [h],hx,fun _=>⟨hu,BEq.same (show (wordG wd l 0).1≤l.length by omega)⟩,fun e=>rfl⟩,hb⟩
 ·rw [if_neg h]
  exact ⟨⟨x,u,_,rfl,hx,fun e=>absurd e h,fun e=>rfl⟩,hb⟩
theorem valueP_one (f d:Nat) (b:Int) (t:List Int):valueP (f+1) d (b :: t) =
  if b=110 then wordP [110,117,108,108] .nul (b :: t)
  else if b=102 then wordP [102,97,108,115,101] (.bool false) (b :: t)
  else if b=116 then wordP [116,114,117,101] (.bool true) (b :: t)
  else if b=34 then (if (textP (b :: t)).2.2=0 then (.str (textP (b :: t)).1,(textP (b :: t)).2.1,0) else (.nul,(textP (b :: t)).2.1,(textP (b :: t)).2.2))
  else if b=91∨b=123 then valueP (f+1) d (b :: t)
  else numP (b :: t):=by
 by_cases h:b=91∨b=123
 ·rw [if_neg (by omega),if_neg (by omega),if_neg (by omega),if_neg (by omega),if_pos h]
 ·rw [if_neg h,valueP,if_neg h]
  by_cases h5:b=45∨isD b=true
  ·rw [if_pos h5]
  ·rw [if_neg h5]
   have hnum:numP (b :: t)=(.nul,0,4):=by
    unfold numP
    rw [if_pos]
    have h45:b≠45:=fun e=>h5 (.inl e)
    have hD:isD b=false:=by simpa using fun e=>h5 (.inr e)
    cases hs:spanN (b :: t) with
    | zero=>rw [List.take_zero];exact .inl rfl
    | succ m =>
     rw [List.take_succ_cons]
     refine .inr (.inr ?_)
     rw [unsgn,if_neg h45,List.all_cons,hD]
     simp
   rw [hnum]
theorem take_step (g:Nat) (HT:TkOk g):TkOk (g+1):=by
 intro d s p w hp hs hg hd ht
 have hl:=bI_len s
 by_cases he:p=s.size
 ·have HV:valueP (g+1) d ((bI s).drop p)=(.nul,0,3):=by rw [List.drop_of_length_le (by omega),valueP]
  rw [HV]
  have q2:((p:Int) == (s.size:Int))=true:=by simpa using (show (p:Int)=s.size by omega)
  unfold TkE
  clear HV he hl HT
  go_enter Tryz.func101,Tryz.ntmps101
  go_wp2_with fail
  go_ret3
  exact ⟨⟨.nilIface,.nul,0,rfl,by rw [AnyAt],fun e=>by simp at e,fun _=>rfl⟩,by go_grown⟩
 have hlt:p<s.size:=by omega
 have q2:((p:Int) == (s.size:Int))=false:=by rw [beq_eq_false_iff_ne];omega
 have q3:(p:Int)<(s.size:Int):=by omega
 have hsp:=at_split s p hlt
 have hbl:=(s[p]'hlt).toNat_lt
 obtain ⟨b,hbv⟩:∃ b:Int,((s[p]'hlt).toNat:Int)=b:=⟨_,rfl⟩
 rw [hbv] at hsp
 obtain ⟨t,htt⟩:∃ t,(bI s).drop (p+1)=t:=⟨_,rfl⟩
 rw [htt] at hsp
 have hv:=valueP_one g d b t
 rw [← hsp] at hv
 have hlq:((bI s).drop p).length=s.size-p:=by rw [List.length_drop,bI_len]
 by_cases h110:b=110
 ·have hv:valueP (g+1) d ((bI s).drop p)=wordP [110,117,108,108] .nul ((bI s).drop p):=by rw [hv];simp only [h110];simp
  rw [hv]
  have HW:=Lib.hid (fun W=>word_anyDd s { data:=#[110,117,108,108] } p W hp (by omega) (by decide))
  have hwd:bI { data:=#[110,117,108,108] }=[110,117,108,108]:=rfl
  rw [hwd] at HW
  have HE:=Lib.hid (fun w' x h1 h2=>TkE.word (wd:=[110,117,108,108]) (v:=.nul) (u:=.nul) (l:=(bI s).drop p) (p:=p) (w:=w) (w':=w') (x:=x) (by simp) h1 rfl h2)
  subst h110
  generalize wordG [110,117,108,108] ((bI s).drop p) 0=R at HW HE
  generalize TkE (wordP [110,117,108,108] .nul ((bI s).drop p)) ((bI s).drop p) p w=Q at HE ⊢
  clear hv hsp hbl hlq hl HT hwd
  go_enter Tryz.func101,Tryz.ntmps101
  go_wp2_with fail
  refine (HW.out _).mono ?_
  rintro e w1 ⟨rfl,hb1⟩
  go_wp2_with fail
  exact HE.out w1 .nilIface (by rw [AnyAt]) hb1
 have f110:(b == 110)=false:=by rw [beq_eq_false_iff_ne];exact h110
 by_cases h116:b=116
 ·have hv:valueP (g+1) d ((bI s).drop p)=wordP [116,114,117,101] (.bool true) ((bI s).drop p):=by rw [hv];simp only [h116];simp
  rw [hv]
  have HW:=Lib.hid (fun W=>word_anyDd s { data:=#[116,114,117,101] } p W hp (by omega) (by decide))
  have hwd:bI { data:=#[116,114,117,101] }=[116,114,117,101]:=rfl
  rw [hwd] at HW
  have HE:=Lib.hid (fun w' x h1 h2=>TkE.word (wd:=[116,114,117,101]) (v:=(.bool true)) (u:=(.bool true)) (l:=(bI s).drop p) (p:=p) (w:=w) (w':=w') (x:=x) (by simp) h1 rfl h2)
  subst h116
  generalize wordG [116,114,117,101] ((bI s).drop p) 0=R at HW HE
  generalize TkE (wordP [116,114,117,101] (.bool true) ((bI s).drop p)) ((bI s).drop p) p w=Q at HE ⊢
  clear hv hsp hbl hlq hl HT hwd
  go_enter Tryz.func101,Tryz.ntmps101
  go_wp2_with fail
  refine (HW.out _).mono ?_
  rintro e w1 ⟨rfl,hb1⟩
  go_wp2_with fail
  exact HE.out w1 (.iface 4 (.bool true)) (by rw [AnyAt]) hb1
 have f116:(b == 116)=false:=by rw [beq_eq_false_iff_ne];exact h116
 by_cases h102:b=102
 ·have hv:valueP (g+1) d ((bI s).drop p)=wordP [102,97,108,115,101] (.bool false) ((bI s).drop p):=by rw [hv];simp only [h102];simp
  rw [hv]
  have HW:=Lib.hid (fun W=>word_anyDd s { data:=#[102,97,108,115,101] } p W hp (by omega) (by decide))
  have hwd:bI { data:=#[102,97,108,115,101] }=[102,97,108,115,101]:=rfl
  rw [hwd] at HW
  have HE:=Lib.hid (fun w' x h1 h2=>TkE.word (wd:=[102,97,108,115,101]) (v:=(.bool false)) (u:=(.bool false)) (l:=(bI s).drop p) (p:=p) (w:=w) (w':=w') (x:=x) (by simp) h1 rfl h2)
  subst h102
  generalize wordG [102,97,108,115,101] ((bI s).drop p) 0=R at HW HE
  generalize TkE (wordP [102,97,108,115,101] (.bool false) ((bI s).drop p)) ((bI s).drop p) p w=Q at HE ⊢
  clear hv hsp hbl hlq hl HT hwd
  go_enter Tryz.func101,Tryz.ntmps101
  go_wp2_with fail
  refine (HW.out _).mono ?_
  rintro e w1 ⟨rfl,hb1⟩
  go_wp2_with fail
  exact HE.out w1 (.iface 4 (.bool false)) (by rw [AnyAt]) hb1
 have f102:(b == 102)=false:=by rw [beq_eq_false_iff_ne];exact h102
 by_cases h34:b=34
 ·have hv:valueP (g+1) d ((bI s).drop p)=(if (textP ((bI s).drop p)).2.2=0 then (.str (textP ((bI s).drop p)).1,(textP ((bI s).drop p)).2.1,0) else (.nul,(textP ((bI s).drop p)).2.1,(textP ((bI s).drop p)).2.2)):=by rw [hv];simp only [h34];simp
  rw [hv]
  have HJ:=Lib.hid (fun W=>jtake_any s p W hp (by omega))
  rw [takeP_drop _ _ (by omega)] at HJ
  have htb:=textP_byte ((bI s).drop p)
  have htl:=textP_len ((bI s).drop p)
  have htle:=textP_le ((bI s).drop p)
  rcases htx:textP ((bI s).drop p) with ⟨name,n,e⟩
  rw [htx] at HJ htb htl htle
  simp only at HJ htb htl htle ⊢
  have hnb:=bI_str name htb
  have HE:=Lib.hid (show ∀ w',Below w.heap.size w w'→TkE (if e=0 then (.str name,n,0) else (.nul,n,e)) ((bI s).drop p) p w (.returned (.tuple #[.iface 9 (.string (str name)),.int .i64 ((p+n:Nat):Int),.int .i64 e])) w' from fun w' hb=>by
   have hx:AnyAt (fun b=>w.heap.size≤b) w' (.str name) (.iface 9 (.string (str name))):=by rw [AnyAt];exact ⟨str name,rfl,hnb,by omega⟩
   by_cases h:e=0
   ·rw [if_pos h];exact ⟨⟨_,_,n,by rw [h],hx,fun _=>⟨rfl,BEq.same htle⟩,fun _=>rfl⟩,hb⟩
   ·rw [if_neg h];exact ⟨⟨_,_,n,rfl,hx,fun x=>absurd x h,fun _=>rfl⟩,hb⟩)
  subst h34
  generalize TkE (if e=0 then (.str name,n,0) else (.nul,n,e)) ((bI s).drop p) p w=Q at HE ⊢
  clear hv hsp hbl hlq hl HT htb htl htle htx hnb
  go_enter Tryz.func101,Tryz.ntmps101
  go_wp2_with fail
  refine (HJ.out _).mono ?_
  rintro e w1 ⟨rfl,hb1⟩
  go_wp2_with fail
  exact HE.out w1 hb1
 have f34:(b == 34)=false:=by rw [beq_eq_false_iff_ne];exact h34
 by_cases h91:b=91
 ·subst h91
  have HP:=Lib.hid (fun (W:World) (h:QTab W)=>plist_any g s p d W hs (by omega) (fun g' q hpq hq hg'=>TkOk.at HT hs (by omega) hg') hd h t hsp)
  have HE:=Lib.hid (fun (e:Ending) (w1 w2:World) (h:TkE (valueP (g+1) d ((bI s).drop p)) ((bI s).drop p) p w1 e w2)=>h)
  generalize valueP (g+1) d ((bI s).drop p)=R at HP HE ⊢
  unfold TkE at HP ⊢
  clear hv hsp hbl hlq hl HT HE
  go_enter Tryz.func101,Tryz.ntmps101
  go_wp2_with fail
  refine (HP.out _ ht).mono ?_
  rintro e w1 ⟨⟨x,v,k,rfl,hx,h0,h1⟩,hb⟩
  have HX:=Lib.hid hx
  have H0:=Lib.hid h0
  have H1:=Lib.hid h1
  clear hx h0 h1
  go_wp2_with fail
  go_ret3
  exact ⟨⟨x,v,k,rfl,HX.out,H0.out,H1.out⟩,hb⟩
 have f91:(b == 91)=false:=by rw [beq_eq_false_iff_ne];exact h91
 by_cases h123:b=123
 ·subst h123
  have HP:=Lib.hid (fun (W:World) (h:QTab W)=>pobj_any g s p d W hs (by omega) (fun g' q hpq hq hg'=>TkOk.at HT hs (by omega) hg') hd h t hsp)
  have HE:=Lib.hid (fun (e:Ending) (w1 w2:World) (h:TkE (valueP (g+1) d ((bI s).drop p)) ((bI s).drop p) p w1 e w2)=>h)
  generalize valueP (g+1) d ((bI s).drop p)=R at HP HE ⊢
  unfold TkE at HP ⊢
  clear hv hsp hbl hlq hl HT HE
  go_enter Tryz.func101,Tryz.ntmps101
  go_wp2_with fail
  refine (HP.out _ ht).mono ?_
  rintro e w1 ⟨⟨x,v,k,rfl,hx,h0,h1⟩,hb⟩
  have HX:=Lib.hid hx
  have H0:=Lib.hid h0
  have H1:=Lib.hid h1
  clear hx h0 h1
  go_wp2_with fail
  go_ret3
  exact ⟨⟨x,v,k,rfl,HX.out,H0.out,H1.out⟩,hb⟩
 have f123:(b == 123)=false:=by rw [beq_eq_false_iff_ne];exact h123
 have hv:valueP (g+1) d ((bI s).drop p)=numP ((bI s).drop p):=by
  rw [hv,if_neg h110,if_neg h102,if_neg h116,if_neg h34,if_neg (by omega)]
 rw [hv]
 have HN:=Lib.hid (number_anyDd s p w hp (by omega) ht)
 have hsl:=span_le ((bI s).drop p)
 have HE:=Lib.hid (show (numP ((bI s).drop p)).2.2=0→BEq ((bI s).drop p) (numP ((bI s).drop p)).2.1 (numP ((bI s).drop p)).2.1 from fun h=>BEq.same (by
  unfold numP at h ⊢
  split
  ·simp
  split
  ·simp
  ·exact hsl))
 generalize numP ((bI s).drop p)=R at HN HE ⊢
 unfold NumE at HN
 unfold TkE
 clear hv hsp hbl hlq hl HT hsl
 go_enter Tryz.func101,Tryz.ntmps101
 go_wp2_with fail
 refine HN.out.mono ?_
 rintro e w1 ⟨x,rfl,hx,hb⟩
 have HX:=Lib.hid hx
 clear hx
 go_wp2_with fail
 go_ret3
 exact ⟨⟨x,R.1,R.2.1,rfl,HX.out _ _,fun h=>⟨rfl,HE.out h⟩,fun _=>rfl⟩,hb⟩
theorem take_any:∀ g,TkOk g
 | 0=>fun d s p w hp hs hg=>absurd hg (by omega)
 | g+1=>take_step g (take_any g)
theorem takeV_is (s:List Int) (hl:¬ 4096<s.length):takeV s=if (valueP (fuelV s) 1 (s.drop (blankN s))).2.2≠0 then (.nul,blankN s+(valueP (fuelV s) 1 (s.drop (blankN s))).2.1,(valueP (fuelV s) 1 (s.drop (blankN s))).2.2) else
  if blankN s+(valueP (fuelV s) 1 (s.drop (blankN s))).2.1+blankN (s.drop (blankN s+(valueP (fuelV s) 1 (s.drop (blankN s))).2.1))<s.length then (.nul,blankN s+(valueP (fuelV s) 1 (s.drop (blankN s))).2.1+blankN (s.drop (blankN s+(valueP (fuelV s) 1 (s.drop (blankN s))).2.1)),4)
  else ((valueP (fuelV s) 1 (s.drop (blankN s))).1,blankN s+(valueP (fuelV s) 1 (s.drop (blankN s))).2.1+blankN (s.drop (blankN s+(valueP (fuelV s) 1 (s.drop (blankN s))).2.1)),0):=by
 unfold takeV
 rw [if_neg hl]
def TakeV (V:Js × Nat × Int) (w:World) (e:Ending) (w':World):Prop:=(∃ x,e=.returned (.tuple #[x,.int .i64 (V.2.1:Int),.int .i64 V.2.2])∧AnyAt aB w' V.1 x)∧Below w.heap.size w w'
theorem ptake_any (s:ByteArray) (w:World) (ht:QTab w) (hs:s.size≤1000000):Calls Tryz.prog 41 #[.string s] w (TakeV (takeV (bI s)) w):=by
 have hl:=bI_len s
 unfold TakeV
 by_cases h1:4096<s.size
 ·rw [takeV_long _ (by omega)]
  have e1:decide (4096<(s.size:Int))=true:=by simp;omega
  clear hl
  go_enter Tryz.func41,Tryz.ntmps41
  go_wp2_with fail
  go_ret3
  exact ⟨⟨.nilIface,rfl,by rw [AnyAt]⟩,by go_grown⟩
 have e1:decide (4096<(s.size:Int))=false:=by simp;omega
 have HV:=Lib.hid (takeV_is (bI s) (by omega))
 have HP:=Lib.hid (fun W=>past_any s 0 W (Nat.zero_le _) (by omega))
 have hb0:=blank_le (bI s)
 rw [List.drop_zero,Nat.zero_add] at HP
 obtain ⟨p,hp⟩:∃ p,blankN (bI s)=p:=⟨_,rfl⟩
 rw [hp] at HP HV hb0
 have HT:=Lib.hid (fun W h=>take_any (fuelV (bI s)) 1 s p W (by omega) (by omega) (by unfold fuelV;omega) (by omega) h)
 have hin:=((within (fuelV (bI s))).1 1 ((bI s).drop p)).1
 rw [List.length_drop] at hin
 generalize valueP (fuelV (bI s)) 1 ((bI s).drop p)=R at HT HV hin
 unfold TkE at HT
 generalize takeV (bI s)=V at HV ⊢
 clear hp
 go_enter Tryz.func41,Tryz.ntmps41
 go_wp2_with fail
 refine (HP.out _).mono ?_
 rintro e w1 ⟨rfl,hb1⟩
 have HB1:=Lib.hid hb1
 clear hb1
 go_wp2_with fail
 refine (HT.out _ (ht.below HB1.out)).mono ?_
 rintro e w2 ⟨⟨x,v,k,rfl,hx,h0,h1⟩,hb2⟩
 have HB2:=Lib.hid (HB1.out.trans (hb2.mono HB1.out.size))
 have HX:=Lib.hid (hx.mono (S':=aB) (fun _ _=>trivial))
 have H0:=Lib.hid h0
 have H1:=Lib.hid h1
 clear hx h0 h1 hb2
 by_cases he:R.2.2≠0
 ·have hde:(R.2.2 != 0)=true:=by simpa using he
  have hV:V=(.nul,p+R.2.1,R.2.2):=by rw [HV.out,if_pos he]
  have hk:=H1.out he
  subst hV
  subst hk
  clear he
  go_wp2_with fail
  go_ret3
  exact ⟨⟨.nilIface,rfl,by rw [AnyAt]⟩,HB2.out⟩
 have he:=Decidable.not_not.1 he
 have hde:(R.2.2 != 0)=false:=by rw [he];rfl
 obtain ⟨rfl,hbq⟩:=H0.out he
 obtain ⟨b1,b2,b3⟩:=hbq
 rw [List.length_drop] at b2
 have HP2:=Lib.hid (fun W=>past_any s (p+k) W (by omega) (by omega))
 have hm:p+k+blankN ((bI s).drop (p+k))=p+R.2.1+blankN ((bI s).drop (p+R.2.1)):=by
  rw [List.drop_drop,List.drop_drop] at b3
  omega
 rw [hm] at HP2
 have hR:V=if p+R.2.1+blankN ((bI s).drop (p+R.2.1))<s.size then (.nul,p+R.2.1+blankN ((bI s).drop (p+R.2.1)),4) else (R.1,p+R.2.1+blankN ((bI s).drop (p+R.2.1)),0):=by
  rw [HV.out,if_neg (by rw [he];simp),hl]
 generalize p+R.2.1+blankN ((bI s).drop (p+R.2.1))=m at HP2 hR
 have HR:=Lib.hid hR
 clear hR hm b1 b2 b3
 go_wp2_with fail
 refine (HP2.out _).mono ?_
 rintro e w3 ⟨rfl,hb3⟩
 have HB3:=Lib.hid (HB2.out.trans (hb3.mono HB2.out.size))
 have HX3:=Lib.hid (HX.out.below hb3)
 clear hb3
 by_cases hlt:m<s.size
 ·have e2:decide ((m:Int)<(s.size:Int))=true:=by simp;omega
  have hV:V=(.nul,m,4):=by rw [HR.out,if_pos hlt]
  subst hV
  have hlt':(m:Int)<(s.size:Int):=by omega
  go_wp2_with fail
  go_ret3
  exact ⟨⟨.nilIface,rfl,by rw [AnyAt]⟩,HB3.out⟩
 ·have e2:decide ((m:Int)<(s.size:Int))=false:=by simp;omega
  have hV:V=(R.1,m,0):=by rw [HR.out,if_neg hlt]
  subst hV
  have hlt':¬ (m:Int)<(s.size:Int):=by omega
  go_wp2_with fail
  go_ret3
  exact ⟨⟨x,rfl,HX3.out⟩,HB3.out⟩
end Go.Proofs.YtdnmgpcfgcidbaaGreatDoor
