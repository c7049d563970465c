/- dPu dPv dPw. -/
import Derived.Test.YtjinnigjfopbcaaGreatDoorUs
import Derived.Test.YtjinnigjfopbcaaGreatDoorUd5
namespace Go.Proofs.YtjinnigjfopbcaaGreatDoor
set_option linter.unusedVariables false
set_option linter.unusedSimpArgs false
open Go.RowKit
set_option maxRecDepth 20000
set_option maxHeartbeats 4000000
def xy8 (b:Int) (l:Jl):Js:=if b=91 then .arr l else .obj l
theorem xlH (F d:Nat) (b:Int) (t:List Int) (h:b=91∨b=123):xai (F+1) d (b :: t)=(if (xby F d (decide (b=123)) b t).2.2≠0 then .nul else xy8 b (xby F d (decide (b=123)) b t).1,(xby F d (decide (b=123)) b t).2.1,(xby F d (decide (b=123)) b t).2.2):=by
 rw[xcf F d b t h]
 unfold xby xy8
 by_cases h1:4<d
 ·rw[if_pos h1,if_pos h1];simp
 rw[if_neg h1,if_neg h1]
 by_cases h2:xbH (t.drop (xaa t))=b+2
 ·rw[if_pos h2,if_pos h2];simp
 rw[if_neg h2,if_neg h2]
 by_cases h3:(xaA F d (decide (b=123)) (b+2) [] 0 (t.drop (xaa t))).2.2≠0
 ·rw[if_pos h3,if_pos h3]
 ·rw[if_neg h3,if_neg h3]
  have:=Decidable.not_not.1 h3
  rw[this]
theorem TkE.box {F d:Nat} {b:Int} {t:List Int} {l:List Int} {p:Nat} {w w':World} {vs:Its} {k:Nat} {x:Value} (hb:b=91∨b=123) (hl:l=b :: t)
  (h0:(xby F d (decide (b=123)) b t).2.2=0→xfF vs .nil=(xby F d (decide (b=123)) b t).1∧BEq l (xby F d (decide (b=123)) b t).2.1 k) (h1:(xby F d (decide (b=123)) b t).2.2≠0→k=(xby F d (decide (b=123)) b t).2.1)
  (hx:xaq (fun b=>w.heap.size≤b) w' (xy8 b (xfF vs .nil)) x) (hbl:Below w.heap.size w w') :
  TkE (xai (F+1) d l) l p w (.returned (.tuple #[x,.int .i64 ((p+k:Nat):Int),.int .i64 (xby F d (decide (b=123)) b t).2.2])) w':=by
 subst hl
 rw[xlH F d b t hb]
 refine⟨⟨x,xy8 b (xfF vs .nil),k,rfl,hx,fun e=>?_,fun e=>h1 e⟩,hbl⟩
 have e':(xby F d (decide (b=123)) b t).2.2=0:=e
 obtain⟨g1,g2⟩:=h0 e'
 simp only
 rw[if_neg (by rw[e'];simp),g1]
 exact⟨rfl,g2⟩
theorem xqx (pr:Bool) (s:ByteArray) (d:Nat) (w:World):Ls pr w.heap.size (w.heap.size+1) (w.heap.size+1+1) (w.heap.size+1+1+1) s d w []
  ((((w.alloc (.cells #[.string s] 9)).alloc (.cells #[.int .i64 d] 3)).alloc (.cells #[] (tyI pr))).alloc (.cells #[.slice (some ⟨w.heap.size+1+1,0,none⟩) 0 0] (slI pr))):=by
 obtain⟨w1,h1⟩:∃ w1,w.alloc (.cells #[.string s] 9)=w1:=⟨_,rfl⟩
 obtain⟨w2,h2⟩:∃ w2,w1.alloc (.cells #[.int .i64 d] 3)=w2:=⟨_,rfl⟩
 obtain⟨w3,h3⟩:∃ w3,w2.alloc (.cells #[] (tyI pr))=w3:=⟨_,rfl⟩
 obtain⟨w4,h4⟩:∃ w4,w3.alloc (.cells #[.slice (some ⟨w.heap.size+1+1,0,none⟩) 0 0] (slI pr))=w4:=⟨_,rfl⟩
 rw[h1,h2,h3,h4]
 have s1:w1.heap.size=w.heap.size+1:=by rw[← h1];simp
 have s2:w2.heap.size=w.heap.size+1+1:=by rw[← h2,World.size_alloc,s1]
 have s3:w3.heap.size=w.heap.size+1+1+1:=by rw[← h3,World.size_alloc,s2]
 have s4:w4.heap.size=w.heap.size+1+1+1+1:=by rw[← h4,World.size_alloc,s3]
 have a4:w4.heap[w.heap.size+1+1+1]?=some (.cells #[.slice (some ⟨w.heap.size+1+1,0,none⟩) 0 0] (slI pr) (0,0)):=by rw[← h4,← s3];exact xdN _ _
 have a3:w4.heap[w.heap.size+1+1]?=some (.cells #[] (tyI pr) (0,0)):=by rw[← h4,xbi (by omega),← h3,← s2];exact xdN _ _
 have a2:w4.heap[w.heap.size+1]?=some (.cells #[.int .i64 d] 3 (0,0)):=by rw[← h4,xbi (by omega),← h3,xbi (by omega),← h2,← s1];exact xdN _ _
 have a1:w4.heap[w.heap.size]?=some (.cells #[.string s] 9 (0,0)):=by rw[← h4,xbi (by omega),← h3,xbi (by omega),← h2,xbi (by omega),← h1];exact xdN _ _
 refine⟨⟨.slice (some ⟨w.heap.size+1+1,0,none⟩) 0 0,by simp[World.cell?,a4],⟨[],⟨by simp,.inr ⟨w.heap.size+1+1,0,#[],rfl,Nat.le_refl _,a3,Nat.le_refl _,by unfold maxLen;omega,by simp,by simp⟩⟩,fun j p h=>by simp at h⟩,by simp[Value.ownBlock]⟩,by simp[World.frozen?,a4],by simp[World.cell?,a1],by simp[World.cell?,a2],⟨Nat.le_refl _,by omega,by omega,by omega,by omega,by omega⟩,?_⟩
 rw[← h4,← h3,← h2,← h1]
 exact((((Below.refl _ w).alloc (Nat.le_refl _) _).alloc (by simp) _).alloc (by simp;omega) _).alloc (by simp;omega) _
theorem xwd {pr:Bool} {bs bd B bl:Nat} {s:ByteArray} {d:Nat} {w0:World} {vs:Its} {W:World} (h:Ls pr bs bd B bl s d w0 vs W):∃ a n c,W.cell? ⟨bl,0,none⟩=some (.slice a n c)∧(pr=false→xaq (fun b=>w0.heap.size≤b) W (.arr (xfF vs .nil)) (.iface 397 (.slice a n c)))∧(pr=true→xaq (fun b=>w0.heap.size≤b) W (.obj (xfF vs .nil)) (.iface 157 (.slice a n c))):=by
 obtain⟨l,h1,h2,h3⟩:=h.ex
 obtain⟨o1,o2,o3,o4,o5,o6⟩:=h.ord
 obtain⟨a,cap,rfl,_⟩:=xdl h2
 have hX:∀ b,B≤b→b<W.heap.size→(Value.slice a vs.length cap).ownBlock=some b→B≤b∧b≠bl:=fun b hb _ e=>⟨hb,fun x=>h3 (by rw[e,x])⟩
 refine⟨a,_,cap,h1,fun e=>?_,fun e=>?_⟩
 ·subst e
  exact(xpZ h2 hX).mono fun b hb=>by omega
 ·subst e
  exact(xkB h2 hX).mono fun b hb=>by omega
theorem xpu (F:Nat) (s:ByteArray) (p d:Nat) (w:World) (hs:s.size≤5000) (hF:2*(s.size - p)≤F) (HT:∀ g q,p<q→q≤s.size→2*(s.size - q)+1≤g→xzd g s q) (hd:d≤5) (ht:QTab w) (t:List Int) (hp:(bI s).drop p=91 :: t) :
  Calls Tryz.prog 231 #[.string s,.int .i64 p,.int .i64 d] w (TkE (xai (F+1) d ((bI s).drop p)) ((bI s).drop p) p w):=by
 by_cases hd4:4<d
 ·have HV:xai (F+1) d ((bI s).drop p)=(.nul,0,20):=by rw[hp,xcf F d 91 t (by omega),if_pos hd4]
  rw[HV]
  have HD:=lH (fun W c=>xhQ s p d W { data:=#[93] } c hd4)
  unfold TkE
  clear hp HT HV
  go_enter Tryz.func231,Tryz.ntmps231
  go_wp2_with fail
  refine(HD.out _ _).mono ?_
  rintro e w1 ⟨rfl,rfl⟩
  go_wp2_with fail
  go_ret3
  exact⟨⟨_,.arr .nil,0,rfl,by rw[xaq];exact⟨_,_,rfl,Nat.zero_le _,by unfold maxLen;omega,by rw[xf7];trivial⟩,fun e=>by simp at e,fun _=>rfl⟩,by go_grown⟩
 have HL:=lH (xqx false s d w)
 have HP:=lH (fun(W:World) (hI:Ls false w.heap.size (w.heap.size+1) (w.heap.size+1+1) (w.heap.size+1+1+1) s d w [] W)=>xoa F s p d W (Ls false w.heap.size (w.heap.size+1) (w.heap.size+1+1) (w.heap.size+1+1+1) s d w) w.heap.size (w.heap.size+1) (w.heap.size+1+1+1) (fun vs W W' h hb=>h.below hb)
  (fun g vs q W hg hv hpq hI hq=>xlv g w.heap.size (w.heap.size+1) (w.heap.size+1+1) (w.heap.size+1+1+1) s d q w vs W hI (by omega) hq hs (HT g q hpq hq hg) (by omega) ht) 91 t hp hs hF hI rfl)
 have HB:=lH (fun w' vs k x=>TkE.box (F:=F) (d:=d) (b:=91) (t:=t) (l:=(bI s).drop p) (p:=p) (w:=w) (w':=w') (vs:=vs) (k:=k) (x:=x) (by omega) hp)
 have hdec:decide ((91:Int)=123)=false:=by decide
 rw[hdec] at HB
 generalize xby F d false 91 t=R at HP HB
 generalize TkE (xai (F+1) d ((bI s).drop p)) ((bI s).drop p) p w=Q at HB ⊢
 unfold xdr at HP
 clear hp HT
 go_enter Tryz.func231,Tryz.ntmps231
 go_wp2_with fail
 refine(HP.out _ HL.out).mono ?_
 rintro e w1 ⟨vs,k,rfl,hI,h0,h1⟩
 obtain⟨a,n,c,hc,hA,hO⟩:=xwd hI
 have HA:=lH hA
 have HO:=lH hO
 have hlt:=hI.ord.2.2.2.2.2
 have HBL:=lH hI.bel
 have H0:=lH h0
 have H1:=lH h1
 clear hI hA hO h0 h1
 go_wp2_with fail
 exact(HB.out w1 vs k _ H0.out H1.out (by unfold xy8;simp only[if_true];exact HA.out trivial) HBL.out)
theorem xsL (F:Nat) (s:ByteArray) (p d:Nat) (w:World) (hs:s.size≤5000) (hF:2*(s.size - p)≤F) (HT:∀ g q,p<q→q≤s.size→2*(s.size - q)+1≤g→xzd g s q) (hd:d≤5) (ht:QTab w) (t:List Int) (hp:(bI s).drop p=123 :: t) :
  Calls Tryz.prog 232 #[.string s,.int .i64 p,.int .i64 d] w (TkE (xai (F+1) d ((bI s).drop p)) ((bI s).drop p) p w):=by
 by_cases hd4:4<d
 ·have HV:xai (F+1) d ((bI s).drop p)=(.nul,0,20):=by rw[hp,xcf F d 123 t (by omega),if_pos hd4]
  rw[HV]
  have HD:=lH (fun W c=>xhQ s p d W { data:=#[125] } c hd4)
  unfold TkE
  clear hp HT HV
  go_enter Tryz.func232,Tryz.ntmps232
  go_wp2_with fail
  refine(HD.out _ _).mono ?_
  rintro e w1 ⟨rfl,rfl⟩
  go_wp2_with fail
  go_ret3
  exact⟨⟨_,.obj .nil,0,rfl,by rw[xaq];exact⟨_,_,rfl,Nat.zero_le _,by unfold maxLen;omega,by rw[xea];trivial⟩,fun e=>by simp at e,fun _=>rfl⟩,by go_grown⟩
 have HL:=lH (xqx true s d w)
 have HP:=lH (fun(W:World) (hI:Ls true w.heap.size (w.heap.size+1) (w.heap.size+1+1) (w.heap.size+1+1+1) s d w [] W)=>xsx F s p d W (Ls true w.heap.size (w.heap.size+1) (w.heap.size+1+1) (w.heap.size+1+1+1) s d w) w.heap.size (w.heap.size+1+1+1) (w.heap.size+1) (fun vs W W' h hb=>h.below hb)
  (fun g vs q W hg hv hpq hI hq=>xoD g w.heap.size (w.heap.size+1) (w.heap.size+1+1) (w.heap.size+1+1+1) s d q w vs W hI (by omega) hq hs (HT g q hpq hq hg) (by omega) ht) 123 t hp hs hF hI rfl)
 have HB:=lH (fun w' vs k x=>TkE.box (F:=F) (d:=d) (b:=123) (t:=t) (l:=(bI s).drop p) (p:=p) (w:=w) (w':=w') (vs:=vs) (k:=k) (x:=x) (by omega) hp)
 have hdec:decide ((123:Int)=123)=true:=by decide
 rw[hdec] at HB
 generalize xby F d true 123 t=R at HP HB
 generalize TkE (xai (F+1) d ((bI s).drop p)) ((bI s).drop p) p w=Q at HB ⊢
 unfold xdr at HP
 clear hp HT
 go_enter Tryz.func232,Tryz.ntmps232
 go_wp2_with fail
 refine(HP.out _ HL.out).mono ?_
 rintro e w1 ⟨vs,k,rfl,hI,h0,h1⟩
 obtain⟨a,n,c,hc,hA,hO⟩:=xwd hI
 have HA:=lH hA
 have HO:=lH hO
 have hlt:=hI.ord.2.2.2.2.2
 have HBL:=lH hI.bel
 have H0:=lH h0
 have H1:=lH h1
 clear hI hA hO h0 h1
 go_wp2_with fail
 exact(HB.out w1 vs k _ H0.out H1.out (by unfold xy8;simp only[show ¬ ((123:Int)=91) by decide,if_false];exact HO.out trivial) HBL.out)
theorem TkE.word {wd:List Int} {v u:Js} {l:List Int} {p:Nat} {w w':World} {x:Value} (hw:1≤wd.length) (hx:xaq (fun b=>w.heap.size≤b) w' u x) (hu:u=v) (hb:Below w.heap.size w w') :
  TkE (xcn wd v l) l p w (.returned (.tuple #[x,.int .i64 ((p+(xb3 wd l 0).1:Nat):Int),.int .i64 (xb3 wd l 0).2])) w':=by
 have hle:=xib wd l 0
 unfold xcn
 by_cases h:(xb3 wd l 0).2=0
 ·rw[if_pos h]
  exact⟨⟨x,u,_,by rw[h],hx,fun _=>⟨hu,BEq.same (show (xb3 wd l 0).1≤l.length by omega)⟩,fun e=>rfl⟩,hb⟩
 ·rw[if_neg h]
  exact⟨⟨x,u,_,rfl,hx,fun e=>absurd e h,fun e=>rfl⟩,hb⟩
theorem xnC (f d:Nat) (b:Int) (t:List Int):xai (f+1) d (b :: t) =
  if b=110 then xcn [110,117,108,108] .nul (b :: t)
  else if b=102 then xcn [102,97,108,115,101] (.bool false) (b :: t)
  else if b=116 then xcn [116,114,117,101] (.bool true) (b :: t)
  else if b=34 then (if (xay (b :: t)).2.2=0 then (.str (xay (b :: t)).1,(xay (b :: t)).2.1,0) else (.nul,(xay (b :: t)).2.1,(xay (b :: t)).2.2))
  else if b=91∨b=123 then xai (f+1) d (b :: t)
  else xhi (b :: t):=by
 by_cases h:b=91∨b=123
 ·rw[if_neg (by omega),if_neg (by omega),if_neg (by omega),if_neg (by omega),if_pos h]
 ·rw[if_neg h,xai,if_neg h]
  by_cases h5:b=45∨isD b=true
  ·rw[if_pos h5]
  ·rw[if_neg h5]
   have hnum:xhi (b :: t)=(.nul,0,4):=by
    unfold xhi
    rw[if_pos]
    have h45:b≠45:=fun e=>h5 (.inl e)
    have hD:isD b=false:=by simpa using fun e=>h5 (.inr e)
    cases hs:xb8 (b :: t) with
    | zero=>rw[List.take_zero];exact .inl rfl
    | succ m =>
     rw[List.take_succ_cons]
     refine .inr (.inr ?_)
     rw[xaY,if_neg h45,List.all_cons,hD]
     simp
   rw[hnum]
theorem xqH (g:Nat) (HT:xxE g):xxE (g+1):=by
 intro d s p w hp hs hg hd ht
 have hl:=xah s
 by_cases he:p=s.size
 ·have HV:xai (g+1) d ((bI s).drop p)=(.nul,0,3):=by rw[List.drop_of_length_le (by omega),xai]
  rw[HV]
  have q2:((p:Int) == (s.size:Int))=true:=by simpa using (show (p:Int)=s.size by omega)
  unfold TkE
  clear HV he hl HT
  go_enter Tryz.func152,Tryz.ntmps152
  go_wp2_with fail
  go_ret3
  exact⟨⟨.nilIface,.nul,0,rfl,by rw[xaq],fun e=>by simp at e,fun _=>rfl⟩,by go_grown⟩
 have hlt:p<s.size:=by omega
 have q2:((p:Int) == (s.size:Int))=false:=by rw[beq_eq_false_iff_ne];omega
 have q3:(p:Int)<(s.size:Int):=by omega
 have hsp:=xge s p hlt
 have hbl:=(s[p]'hlt).toNat_lt
 obtain⟨b,hbv⟩:∃ b:Int,((s[p]'hlt).toNat:Int)=b:=⟨_,rfl⟩
 rw[hbv] at hsp
 obtain⟨t,htt⟩:∃ t,(bI s).drop (p+1)=t:=⟨_,rfl⟩
 rw[htt] at hsp
 have hv:=xnC g d b t
 rw[← hsp] at hv
 have hlq:((bI s).drop p).length=s.size - p:=by rw[List.length_drop,xah]
 by_cases h110:b=110
 ·have hv:xai (g+1) d ((bI s).drop p)=xcn [110,117,108,108] .nul ((bI s).drop p):=by rw[hv];simp only[h110];simp
  rw[hv]
  have HW:=lH (fun W=>xfs s { data:=#[110,117,108,108] } p W hp (by omega) (by decide))
  have hwd:bI { data:=#[110,117,108,108] }=[110,117,108,108]:=rfl
  rw[hwd] at HW
  have HE:=lH (fun w' x h1 h2=>TkE.word (wd:=[110,117,108,108]) (v:=.nul) (u:=.nul) (l:=(bI s).drop p) (p:=p) (w:=w) (w':=w') (x:=x) (by simp) h1 rfl h2)
  subst h110
  generalize xb3 [110,117,108,108] ((bI s).drop p) 0=R at HW HE
  generalize TkE (xcn [110,117,108,108] .nul ((bI s).drop p)) ((bI s).drop p) p w=Q at HE ⊢
  clear hv hsp hbl hlq hl HT hwd
  go_enter Tryz.func152,Tryz.ntmps152
  go_wp2_with fail
  refine(HW.out _).mono ?_
  rintro e w1 ⟨rfl,hb1⟩
  go_wp2_with fail
  exact HE.out w1 .nilIface (by rw[xaq]) hb1
 have f110:(b == 110)=false:=by rw[beq_eq_false_iff_ne];exact h110
 by_cases h116:b=116
 ·have hv:xai (g+1) d ((bI s).drop p)=xcn [116,114,117,101] (.bool true) ((bI s).drop p):=by rw[hv];simp only[h116];simp
  rw[hv]
  have HW:=lH (fun W=>xfs s { data:=#[116,114,117,101] } p W hp (by omega) (by decide))
  have hwd:bI { data:=#[116,114,117,101] }=[116,114,117,101]:=rfl
  rw[hwd] at HW
  have HE:=lH (fun w' x h1 h2=>TkE.word (wd:=[116,114,117,101]) (v:=(.bool true)) (u:=(.bool true)) (l:=(bI s).drop p) (p:=p) (w:=w) (w':=w') (x:=x) (by simp) h1 rfl h2)
  subst h116
  generalize xb3 [116,114,117,101] ((bI s).drop p) 0=R at HW HE
  generalize TkE (xcn [116,114,117,101] (.bool true) ((bI s).drop p)) ((bI s).drop p) p w=Q at HE ⊢
  clear hv hsp hbl hlq hl HT hwd
  go_enter Tryz.func152,Tryz.ntmps152
  go_wp2_with fail
  refine(HW.out _).mono ?_
  rintro e w1 ⟨rfl,hb1⟩
  go_wp2_with fail
  exact HE.out w1 (.iface 4 (.bool true)) (by rw[xaq]) hb1
 have f116:(b == 116)=false:=by rw[beq_eq_false_iff_ne];exact h116
 by_cases h102:b=102
 ·have hv:xai (g+1) d ((bI s).drop p)=xcn [102,97,108,115,101] (.bool false) ((bI s).drop p):=by rw[hv];simp only[h102];simp
  rw[hv]
  have HW:=lH (fun W=>xfs s { data:=#[102,97,108,115,101] } p W hp (by omega) (by decide))
  have hwd:bI { data:=#[102,97,108,115,101] }=[102,97,108,115,101]:=rfl
  rw[hwd] at HW
  have HE:=lH (fun w' x h1 h2=>TkE.word (wd:=[102,97,108,115,101]) (v:=(.bool false)) (u:=(.bool false)) (l:=(bI s).drop p) (p:=p) (w:=w) (w':=w') (x:=x) (by simp) h1 rfl h2)
  subst h102
  generalize xb3 [102,97,108,115,101] ((bI s).drop p) 0=R at HW HE
  generalize TkE (xcn [102,97,108,115,101] (.bool false) ((bI s).drop p)) ((bI s).drop p) p w=Q at HE ⊢
  clear hv hsp hbl hlq hl HT hwd
  go_enter Tryz.func152,Tryz.ntmps152
  go_wp2_with fail
  refine(HW.out _).mono ?_
  rintro e w1 ⟨rfl,hb1⟩
  go_wp2_with fail
  exact HE.out w1 (.iface 4 (.bool false)) (by rw[xaq]) hb1
 have f102:(b == 102)=false:=by rw[beq_eq_false_iff_ne];exact h102
 by_cases h34:b=34
 ·have hv:xai (g+1) d ((bI s).drop p)=(if (xay ((bI s).drop p)).2.2=0 then (.str (xay ((bI s).drop p)).1,(xay ((bI s).drop p)).2.1,0) else (.nul,(xay ((bI s).drop p)).2.1,(xay ((bI s).drop p)).2.2)):=by rw[hv];simp only[h34];simp
  rw[hv]
  have HJ:=lH (fun W=>xkc s p W hp (by omega))
  rw[xhV _ _ (by omega)] at HJ
  have htb:=xhv ((bI s).drop p)
  have htl:=xi4 ((bI s).drop p)
  have htle:=xgd ((bI s).drop p)
  rcases htx:xay ((bI s).drop p) with ⟨name,n,e⟩
  rw[htx] at HJ htb htl htle
  simp only at HJ htb htl htle ⊢
  have hnb:=xqu name htb
  have HE:=lH (show ∀ w',Below w.heap.size w w'→TkE (if e=0 then (.str name,n,0) else (.nul,n,e)) ((bI s).drop p) p w (.returned (.tuple #[.iface 9 (.string (str name)),.int .i64 ((p+n:Nat):Int),.int .i64 e])) w' from fun w' hb=>by
   have hx:xaq (fun b=>w.heap.size≤b) w' (.str name) (.iface 9 (.string (str name))):=by rw[xaq];exact⟨str name,rfl,hnb,by omega⟩
   by_cases h:e=0
   ·rw[if_pos h];exact⟨⟨_,_,n,by rw[h],hx,fun _=>⟨rfl,BEq.same htle⟩,fun _=>rfl⟩,hb⟩
   ·rw[if_neg h];exact⟨⟨_,_,n,rfl,hx,fun x=>absurd x h,fun _=>rfl⟩,hb⟩)
  subst h34
  generalize TkE (if e=0 then (.str name,n,0) else (.nul,n,e)) ((bI s).drop p) p w=Q at HE ⊢
  clear hv hsp hbl hlq hl HT htb htl htle htx hnb
  go_enter Tryz.func152,Tryz.ntmps152
  go_wp2_with fail
  refine(HJ.out _).mono ?_
  rintro e w1 ⟨rfl,hb1⟩
  go_wp2_with fail
  exact HE.out w1 hb1
 have f34:(b == 34)=false:=by rw[beq_eq_false_iff_ne];exact h34
 by_cases h91:b=91
 ·subst h91
  have HP:=lH (fun(W:World) (h:QTab W)=>xpu g s p d W hs (by omega) (fun g' q hpq hq hg'=>xxE.at HT hs (by omega) hg') hd h t hsp)
  have HE:=lH (fun(e:Ending) (w1 w2:World) (h:TkE (xai (g+1) d ((bI s).drop p)) ((bI s).drop p) p w1 e w2)=>h)
  generalize xai (g+1) d ((bI s).drop p)=R at HP HE ⊢
  unfold TkE at HP ⊢
  clear hv hsp hbl hlq hl HT HE
  go_enter Tryz.func152,Tryz.ntmps152
  go_wp2_with fail
  refine(HP.out _ ht).mono ?_
  rintro e w1 ⟨⟨x,v,k,rfl,hx,h0,h1⟩,hb⟩
  have HX:=lH hx
  have H0:=lH h0
  have H1:=lH h1
  clear hx h0 h1
  go_wp2_with fail
  go_ret3
  exact⟨⟨x,v,k,rfl,HX.out,H0.out,H1.out⟩,hb⟩
 have f91:(b == 91)=false:=by rw[beq_eq_false_iff_ne];exact h91
 by_cases h123:b=123
 ·subst h123
  have HP:=lH (fun(W:World) (h:QTab W)=>xsL g s p d W hs (by omega) (fun g' q hpq hq hg'=>xxE.at HT hs (by omega) hg') hd h t hsp)
  have HE:=lH (fun(e:Ending) (w1 w2:World) (h:TkE (xai (g+1) d ((bI s).drop p)) ((bI s).drop p) p w1 e w2)=>h)
  generalize xai (g+1) d ((bI s).drop p)=R at HP HE ⊢
  unfold TkE at HP ⊢
  clear hv hsp hbl hlq hl HT HE
  go_enter Tryz.func152,Tryz.ntmps152
  go_wp2_with fail
  refine(HP.out _ ht).mono ?_
  rintro e w1 ⟨⟨x,v,k,rfl,hx,h0,h1⟩,hb⟩
  have HX:=lH hx
  have H0:=lH h0
  have H1:=lH h1
  clear hx h0 h1
  go_wp2_with fail
  go_ret3
  exact⟨⟨x,v,k,rfl,HX.out,H0.out,H1.out⟩,hb⟩
 have f123:(b == 123)=false:=by rw[beq_eq_false_iff_ne];exact h123
 have hv:xai (g+1) d ((bI s).drop p)=xhi ((bI s).drop p):=by
  rw[hv,if_neg h110,if_neg h102,if_neg h116,if_neg h34,if_neg (by omega)]
 rw[hv]
 have HN:=lH (xjt s p w hp (by omega) ht)
 have hsl:=xk2 ((bI s).drop p)
 have HE:=lH (show (xhi ((bI s).drop p)).2.2=0→BEq ((bI s).drop p) (xhi ((bI s).drop p)).2.1 (xhi ((bI s).drop p)).2.1 from fun h=>BEq.same (by
  unfold xhi at h ⊢
  split
  ·simp
  split
  ·simp
  ·exact hsl))
 generalize xhi ((bI s).drop p)=R at HN HE ⊢
 unfold xA9 at HN
 unfold TkE
 clear hv hsp hbl hlq hl HT hsl
 go_enter Tryz.func152,Tryz.ntmps152
 go_wp2_with fail
 refine HN.out.mono ?_
 rintro e w1 ⟨x,rfl,hx,hb⟩
 have HX:=lH hx
 clear hx
 go_wp2_with fail
 go_ret3
 exact⟨⟨x,R.1,R.2.1,rfl,HX.out _ _,fun h=>⟨rfl,HE.out h⟩,fun _=>rfl⟩,hb⟩
theorem xmJ:∀ g,xxE g
 | 0=>fun d s p w hp hs hg=>absurd hg (by omega)
 | g+1=>xqH g (xmJ g)
theorem xtX (s:List Int) (hl:¬ 4096<s.length):xhn s=if (xai (xeg s) 1 (s.drop (xaa s))).2.2≠0 then (.nul,xaa s+(xai (xeg s) 1 (s.drop (xaa s))).2.1,(xai (xeg s) 1 (s.drop (xaa s))).2.2) else
  if xaa s+(xai (xeg s) 1 (s.drop (xaa s))).2.1+xaa (s.drop (xaa s+(xai (xeg s) 1 (s.drop (xaa s))).2.1))<s.length then (.nul,xaa s+(xai (xeg s) 1 (s.drop (xaa s))).2.1+xaa (s.drop (xaa s+(xai (xeg s) 1 (s.drop (xaa s))).2.1)),4)
  else ((xai (xeg s) 1 (s.drop (xaa s))).1,xaa s+(xai (xeg s) 1 (s.drop (xaa s))).2.1+xaa (s.drop (xaa s+(xai (xeg s) 1 (s.drop (xaa s))).2.1)),0):=by
 unfold xhn
 rw[if_neg hl]
def xyM (V:Js × Nat × Int) (w:World) (e:Ending) (w':World):Prop:=(∃ x,e=.returned (.tuple #[x,.int .i64 (V.2.1:Int),.int .i64 V.2.2])∧xaq aB w' V.1 x)∧Below w.heap.size w w'
theorem xpD (s:ByteArray) (w:World) (ht:QTab w) (hs:s.size≤1000000):Calls Tryz.prog 74 #[.string s] w (xyM (xhn (bI s)) w):=by
 have hl:=xah s
 unfold xyM
 by_cases h1:4096<s.size
 ·rw[xow _ (by omega)]
  have e1:decide (4096<(s.size:Int))=true:=by simp;omega
  clear hl
  go_enter Tryz.func74,Tryz.ntmps74
  go_wp2_with fail
  go_ret3
  exact⟨⟨.nilIface,rfl,by rw[xaq]⟩,by go_grown⟩
 have e1:decide (4096<(s.size:Int))=false:=by simp;omega
 have HV:=lH (xtX (bI s) (by omega))
 have HP:=lH (fun W=>xdO s 0 W (Nat.zero_le _) (by omega))
 have hb0:=xb7 (bI s)
 rw[List.drop_zero,Nat.zero_add] at HP
 obtain⟨p,hp⟩:∃ p,xaa (bI s)=p:=⟨_,rfl⟩
 rw[hp] at HP HV hb0
 have HT:=lH (fun W h=>xmJ (xeg (bI s)) 1 s p W (by omega) (by omega) (by unfold xeg;omega) (by omega) h)
 have hin:=((xv6 (xeg (bI s))).1 1 ((bI s).drop p)).1
 rw[List.length_drop] at hin
 generalize xai (xeg (bI s)) 1 ((bI s).drop p)=R at HT HV hin
 unfold TkE at HT
 generalize xhn (bI s)=V at HV ⊢
 clear hp
 go_enter Tryz.func74,Tryz.ntmps74
 go_wp2_with fail
 refine(HP.out _).mono ?_
 rintro e w1 ⟨rfl,hb1⟩
 have HB1:=lH hb1
 clear hb1
 go_wp2_with fail
 refine(HT.out _ (ht.below HB1.out)).mono ?_
 rintro e w2 ⟨⟨x,v,k,rfl,hx,h0,h1⟩,hb2⟩
 have HB2:=lH (HB1.out.trans (hb2.mono HB1.out.size))
 have HX:=lH (hx.mono (S':=aB) (fun _ _=>trivial))
 have H0:=lH h0
 have H1:=lH h1
 clear hx h0 h1 hb2
 by_cases he:R.2.2≠0
 ·have hde:(R.2.2 != 0)=true:=by simpa using he
  have hV:V=(.nul,p+R.2.1,R.2.2):=by rw[HV.out,if_pos he]
  have hk:=H1.out he
  subst hV
  subst hk
  clear he
  go_wp2_with fail
  go_ret3
  exact⟨⟨.nilIface,rfl,by rw[xaq]⟩,HB2.out⟩
 have he:=Decidable.not_not.1 he
 have hde:(R.2.2 != 0)=false:=by rw[he];rfl
 obtain⟨rfl,hbq⟩:=H0.out he
 obtain⟨b1,b2,b3⟩:=hbq
 rw[List.length_drop] at b2
 have HP2:=lH (fun W=>xdO s (p+k) W (by omega) (by omega))
 have hm:p+k+xaa ((bI s).drop (p+k))=p+R.2.1+xaa ((bI s).drop (p+R.2.1)):=by
  rw[List.drop_drop,List.drop_drop] at b3
  omega
 rw[hm] at HP2
 have hR:V=if p+R.2.1+xaa ((bI s).drop (p+R.2.1))<s.size then (.nul,p+R.2.1+xaa ((bI s).drop (p+R.2.1)),4) else (R.1,p+R.2.1+xaa ((bI s).drop (p+R.2.1)),0):=by
  rw[HV.out,if_neg (by rw[he];simp),hl]
 generalize p+R.2.1+xaa ((bI s).drop (p+R.2.1))=m at HP2 hR
 have HR:=lH hR
 clear hR hm b1 b2 b3
 go_wp2_with fail
 refine(HP2.out _).mono ?_
 rintro e w3 ⟨rfl,hb3⟩
 have HB3:=lH (HB2.out.trans (hb3.mono HB2.out.size))
 have HX3:=lH (HX.out.below hb3)
 clear hb3
 by_cases hlt:m<s.size
 ·have e2:decide ((m:Int)<(s.size:Int))=true:=by simp;omega
  have hV:V=(.nul,m,4):=by rw[HR.out,if_pos hlt]
  subst hV
  have hlt':(m:Int)<(s.size:Int):=by omega
  go_wp2_with fail
  go_ret3
  exact⟨⟨.nilIface,rfl,by rw[xaq]⟩,HB3.out⟩
 ·have e2:decide ((m:Int)<(s.size:Int))=false:=by simp;omega
  have hV:V=(R.1,m,0):=by rw[HR.out,if_neg hlt]
  subst hV
  have hlt':¬ (m:Int)<(s.size:Int):=by omega
  go_wp2_with fail
  go_ret3
  exact⟨⟨x,rfl,HX3.out⟩,HB3.out⟩
end Go.Proofs.YtjinnigjfopbcaaGreatDoor
