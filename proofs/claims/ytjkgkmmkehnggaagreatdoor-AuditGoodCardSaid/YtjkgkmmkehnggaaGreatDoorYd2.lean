/- dJp dJq dJr dJs dJt dJu dJv dJw dJx. -/
import Derived.Test.YtjkgkmmkehnggaaGreatDoorYs
import Derived.Test.YtjkgkmmkehnggaaGreatDoorYd1
import Derived.Lib.Strings
import Derived.Test.YtjkgkmmkehnggaaGreatDoorRs
set_option maxHeartbeats 16000000
namespace Go.Proofs.YtjkgkmmkehnggaaGreatDoor
set_option linter.unusedVariables false
set_option linter.unusedSimpArgs false
open Go.RowKit
set_option maxRecDepth 20000
theorem xw4 (s:ByteArray) (k:Nat) (h:k<s.size):(bI s)[k]?=some ((s.get! k).toNat:Int):=by
 rw[xny s k h]
 have e:s.get! k=s[k]'h:=by
  have h':k<s.data.size:=h
  show s.data[k]! = s.data[k]'h'
  rw[getElem!_pos s.data k h']
 rw[e]
theorem xbP (s:ByteArray) (i k:Nat) (b:Int) (h:((bI s).drop i)[k]?=some b):i+k<s.size∧((s.get! (i+k)).toNat:Int)=b:=by
 rw[List.getElem?_drop] at h
 have hl:=(List.getElem?_eq_some_iff.1 h).1
 rw[xaj] at hl
 refine⟨hl,?_⟩
 rw[xw4 s (i+k) hl] at h
 injection h
def xp1 (x0 x1 x2 x3:Nat) (p1 p2 p3:Bool):Nat × Nat :=
 if x0<128 then (x0,1)
 else if x0 / 32 == 6 && (p1 && x1 / 64 == 2) then (if x0 % 32*64+x1 % 64 ≥ 128 then (x0 % 32*64+x1 % 64,2) else (65533,1))
 else if x0 / 16 == 14 && (p1 && x1 / 64 == 2) && (p2 && x2 / 64 == 2) then
  (if decide (x0 % 16*4096+x1 % 64*64+x2 % 64 ≥ 2048) && Utf8.valid ((x0 % 16*4096+x1 % 64*64+x2 % 64:Nat):Int) then (x0 % 16*4096+x1 % 64*64+x2 % 64,3) else (65533,1))
 else if x0 / 8 == 30 && (p1 && x1 / 64 == 2) && (p2 && x2 / 64 == 2) && (p3 && x3 / 64 == 2) then
  (if decide (x0 % 8*262144+x1 % 64*4096+x2 % 64*64+x3 % 64 ≥ 65536) && Utf8.valid ((x0 % 8*262144+x1 % 64*4096+x2 % 64*64+x3 % 64:Nat):Int) then (x0 % 8*262144+x1 % 64*4096+x2 % 64*64+x3 % 64,4) else (65533,1))
 else (65533,1)
theorem xjo (s:ByteArray) (i:Nat):Utf8.decode s i=xp1 (s.get! i).toNat (s.get! (i+1)).toNat (s.get! (i+2)).toNat (s.get! (i+3)).toNat (decide (i+1<s.size)) (decide (i+2<s.size)) (decide (i+3<s.size)):=by
 simp only[Utf8.decode,xp1,Nat.add_zero,Utf8.runeError]
theorem bt {a:Nat} {b:Nat} (h:a=b):(a == b)=true:=by rw[h];simp
theorem bf {a:Nat} {b:Nat} (h:a≠b):(a == b)=false:=by simpa using h
theorem xBD {x0:Nat} (x1 x2 x3:Nat) (p1 p2 p3:Bool) (h:x0<128):xp1 x0 x1 x2 x3 p1 p2 p3=(x0,1):=by unfold xp1;rw[if_pos h]
theorem xAO {x0 x1:Nat} (x2 x3:Nat) (p2 p3:Bool) (h0:¬ x0<128) (h:x0 / 32=6) (h1:x1 / 64=2) (hc:x0 % 32*64+x1 % 64 ≥ 128):xp1 x0 x1 x2 x3 true p2 p3=(x0 % 32*64+x1 % 64,2):=by
 unfold xp1
 rw[if_neg h0,bt h,bt h1,if_pos (by simp),if_pos hc]
theorem xBA {x0 x1 x2:Nat} (x3:Nat) (p3:Bool) (h0:¬ x0<128) (h:x0 / 16=14) (h1:x1 / 64=2) (h2:x2 / 64=2) (hc:x0 % 16*4096+x1 % 64*64+x2 % 64 ≥ 2048) (hv:Utf8.valid ((x0 % 16*4096+x1 % 64*64+x2 % 64:Nat):Int)=true):xp1 x0 x1 x2 x3 true true p3=(x0 % 16*4096+x1 % 64*64+x2 % 64,3):=by
 unfold xp1
 rw[if_neg h0,bf (show x0 / 32≠6 by omega),Bool.false_and,if_neg (by simp),bt h,bt h1,bt h2,if_pos (by simp),hv,decide_eq_true hc,if_pos (by simp)]
theorem xBp {x0 x1 x2 x3:Nat} (h0:¬ x0<128) (h:x0 / 8=30) (h1:x1 / 64=2) (h2:x2 / 64=2) (h3:x3 / 64=2) (hc:x0 % 8*262144+x1 % 64*4096+x2 % 64*64+x3 % 64 ≥ 65536) (hv:Utf8.valid ((x0 % 8*262144+x1 % 64*4096+x2 % 64*64+x3 % 64:Nat):Int)=true):xp1 x0 x1 x2 x3 true true true=(x0 % 8*262144+x1 % 64*4096+x2 % 64*64+x3 % 64,4):=by
 unfold xp1
 rw[if_neg h0,bf (show x0 / 32≠6 by omega),Bool.false_and,if_neg (by simp),bf (show x0 / 16≠14 by omega),Bool.false_and,Bool.false_and,if_neg (by simp),bt h,bt h1,bt h2,bt h3,if_pos (by simp),hv,decide_eq_true hc,if_pos (by simp)]
theorem xnK {c:Int} (h0:0≤c) (h1:c≤1114111) (h2:¬ (55296≤c∧c≤57343)):Utf8.valid c=true:=by
 unfold Utf8.valid
 by_cases h:c<55296
 ·rw[decide_eq_true h0,decide_eq_true (show c<0xD800 by omega)];rfl
 ·rw[decide_eq_true (show (0xE000:Int)≤c by omega),decide_eq_true (show c≤0x10FFFF by omega)];simp
theorem xjZ (s:ByteArray) (i:Nat) (c:Int) (t:List Int) (h:xaY c≠[]) (hl:(bI s).drop i=xaY c++t):Utf8.decode s i=(c.toNat,(xaY c).length):=by
 rw[xjo]
 rcases xbc c with h'|⟨h1,h2,h'⟩|⟨h1,h2,h'⟩|⟨h1,h2,h3,h'⟩|⟨h1,h2,h'⟩
 ·exact absurd h' h
 ·rw[h'] at hl ⊢
  obtain⟨a1,a2⟩:=xbP s i 0 c (by rw[hl];rfl)
  rw[Nat.add_zero] at a2
  rw[xBD _ _ _ _ _ _ (by omega)]
  exact Prod.ext (by simp only;omega) rfl
 ·rw[h'] at hl ⊢
  obtain⟨a1,a2⟩:=xbP s i 0 _ (by rw[hl];rfl)
  obtain⟨b1,b2⟩:=xbP s i 1 _ (by rw[hl];rfl)
  rw[Nat.add_zero] at a2
  rw[decide_eq_true b1,xAO _ _ _ _ (by omega) (by omega) (by omega) (by omega)]
  exact Prod.ext (by simp only;omega) rfl
 ·rw[h'] at hl ⊢
  obtain⟨a1,a2⟩:=xbP s i 0 _ (by rw[hl];rfl)
  obtain⟨b1,b2⟩:=xbP s i 1 _ (by rw[hl];rfl)
  obtain⟨c1,c2⟩:=xbP s i 2 _ (by rw[hl];rfl)
  rw[Nat.add_zero] at a2
  rw[decide_eq_true b1,decide_eq_true c1,xBA _ _ (by omega) (by omega) (by omega) (by omega) (by omega) (xnK (by omega) (by omega) (by omega))]
  exact Prod.ext (by simp only;omega) rfl
 ·rw[h'] at hl ⊢
  obtain⟨a1,a2⟩:=xbP s i 0 _ (by rw[hl];rfl)
  obtain⟨b1,b2⟩:=xbP s i 1 _ (by rw[hl];rfl)
  obtain⟨c1,c2⟩:=xbP s i 2 _ (by rw[hl];rfl)
  obtain⟨d1,d2⟩:=xbP s i 3 _ (by rw[hl];rfl)
  rw[Nat.add_zero] at a2
  rw[decide_eq_true b1,decide_eq_true c1,decide_eq_true d1,xBp (by omega) (by omega) (by omega) (by omega) (by omega) (by omega) (xnK (by omega) (by omega) (by omega))]
  exact Prod.ext (by simp only;omega) rfl
theorem xnF {c:Int} (h:Utf8.valid c=true):(0≤c∧c<55296)∨(57344≤c∧c≤1114111):=by
 unfold Utf8.valid at h
 simp at h
 omega
theorem xrf (x0 x1 x2 x3:Nat) (p1 p2 p3:Bool) (h0:x0<256) (h1:x1<256) (h2:x2<256) (h3:x3<256) :
  xp1 x0 x1 x2 x3 p1 p2 p3=(65533,1)∨(∃ c,xaY c=[(x0:Int)])∨(p1=true∧∃ c,xaY c=[(x0:Int),(x1:Int)])∨(p1=true∧p2=true∧∃ c,xaY c=[(x0:Int),(x1:Int),(x2:Int)])∨(p1=true∧p2=true∧p3=true∧∃ c,xaY c=[(x0:Int),(x1:Int),(x2:Int),(x3:Int)]):=by
 unfold xp1
 by_cases c0:x0<128
 ·right;left
  exact⟨x0,xCy (by omega) (by omega)⟩
 rw[if_neg c0]
 split
 ·rename_i c1
  rw[Bool.and_eq_true,Bool.and_eq_true] at c1
  obtain⟨g0,g1,g2⟩:=c1
  replace g0:=eq_of_beq g0
  replace g2:=eq_of_beq g2
  by_cases c2:x0 % 32*64+x1 % 64 ≥ 128
  ·right;right;left
   refine⟨g1,((x0 % 32*64+x1 % 64:Nat):Int),?_⟩
   rw[xCn (by omega) (by omega)]
   simp only[List.cons.injEq,and_true]
   omega
  ·left;rw[if_neg c2]
 split
 ·rename_i c1
  rw[Bool.and_eq_true,Bool.and_eq_true,Bool.and_eq_true,Bool.and_eq_true] at c1
  obtain⟨⟨g0,g1,g2⟩,g3,g4⟩:=c1
  replace g0:=eq_of_beq g0
  replace g2:=eq_of_beq g2
  replace g4:=eq_of_beq g4
  split
  ·rename_i c2
   rw[Bool.and_eq_true] at c2
   have k1:=of_decide_eq_true c2.1
   have k2:=xnF c2.2
   right;right;right;left
   refine⟨g1,g3,((x0 % 16*4096+x1 % 64*64+x2 % 64:Nat):Int),?_⟩
   rw[xCM (by omega) (by omega) (by omega)]
   simp only[List.cons.injEq,and_true]
   omega
  ·exact .inl rfl
 split
 ·rename_i c1
  rw[Bool.and_eq_true,Bool.and_eq_true,Bool.and_eq_true,Bool.and_eq_true,Bool.and_eq_true,Bool.and_eq_true] at c1
  obtain⟨⟨⟨g0,g1,g2⟩,g3,g4⟩,g5,g6⟩:=c1
  replace g0:=eq_of_beq g0
  replace g2:=eq_of_beq g2
  replace g4:=eq_of_beq g4
  replace g6:=eq_of_beq g6
  split
  ·rename_i c2
   rw[Bool.and_eq_true] at c2
   have k1:=of_decide_eq_true c2.1
   have k2:=xnF c2.2
   right;right;right;right
   refine⟨g1,g3,g5,((x0 % 8*262144+x1 % 64*4096+x2 % 64*64+x3 % 64:Nat):Int),?_⟩
   rw[xCT (by omega) (by omega)]
   simp only[List.cons.injEq,and_true]
   omega
  ·exact .inl rfl
 exact .inl rfl
theorem xln (s:ByteArray) (i:Nat) (hi:i<s.size):Utf8.decode s i=(65533,1)∨∃ c t,xaY c≠[]∧(bI s).drop i=xaY c++t:=by
 have hsp:∀ k (h:k<s.size),(bI s).drop k=((s.get! k).toNat:Int) :: (bI s).drop (k+1):=fun k h=>by
  have h1:=xw4 s k h
  have hk:k<(bI s).length:=by rw[xaj];exact h
  rw[List.drop_eq_getElem_cons hk]
  rw[List.getElem?_eq_getElem hk] at h1
  injection h1 with h1
  rw[h1]
 have l0:=hsp i hi
 rw[xjo]
 rcases xrf (s.get! i).toNat (s.get! (i+1)).toNat (s.get! (i+2)).toNat (s.get! (i+3)).toNat (decide (i+1<s.size)) (decide (i+2<s.size)) (decide (i+3<s.size)) (s.get! i).toNat_lt (s.get! (i+1)).toNat_lt (s.get! (i+2)).toNat_lt (s.get! (i+3)).toNat_lt with h|⟨c,h⟩|⟨p1,c,h⟩|⟨p1,p2,c,h⟩|⟨p1,p2,p3,c,h⟩
 ·exact .inl h
 ·exact .inr ⟨c,_,by rw[h];simp,by rw[h,l0];rfl⟩
 ·exact .inr ⟨c,_,by rw[h];simp,by rw[h,l0,hsp (i+1) (of_decide_eq_true p1)];rfl⟩
 ·exact .inr ⟨c,_,by rw[h];simp,by rw[h,l0,hsp (i+1) (of_decide_eq_true p1),hsp (i+2) (of_decide_eq_true p2)];rfl⟩
 ·exact .inr ⟨c,_,by rw[h];simp,by rw[h,l0,hsp (i+1) (of_decide_eq_true p1),hsp (i+2) (of_decide_eq_true p2),hsp (i+3) (of_decide_eq_true p3)];rfl⟩
theorem xbJ (s:ByteArray) (i:Nat) (hi:i<s.size):(xaM ((bI s).drop i)=[]∧Utf8.decode s i=(65533,1))∨∃ c,xaY c=xaM ((bI s).drop i)∧xaM ((bI s).drop i)≠[]∧Utf8.decode s i=(c.toNat,(xaM ((bI s).drop i)).length):=by
 by_cases h:xaM ((bI s).drop i)=[]
 ·left
  refine⟨h,?_⟩
  rcases xln s i hi with h1|⟨c,t,h1,h2⟩
  ·exact h1
  ·rw[h2,xfB c t h1] at h
   exact absurd h h1
 ·right
  obtain⟨c,t,h1,h2⟩:=xdn _ h
  refine⟨c,h1,h,?_⟩
  rw[← h1]
  exact xjZ s i c t (by rw[h1];exact h) (by rw[h1];exact h2)
theorem toNat_inj {a b:UInt8} (h:(a.toNat:Int)=(b.toNat:Int)):a=b:=UInt8.toNat_inj.1 (by omega)
theorem xdz (p l:List UInt8):p.isPrefixOf l=true↔∃ t,l.map (fun c=>(c.toNat:Int))=p.map (fun c=>(c.toNat:Int))++t:=by
 rw[List.isPrefixOf_iff_prefix]
 constructor
 ·rintro⟨t,rfl⟩
  exact⟨t.map (fun c=>(c.toNat:Int)),by rw[List.map_append]⟩
 ·rintro⟨t,h⟩
  have e:=congrArg (List.take p.length) h
  rw[List.take_left' (by rw[List.length_map]),← List.map_take] at e
  refine⟨l.drop p.length,?_⟩
  have e2:l.take p.length=p:=List.map_inj_right (f:=fun c:UInt8=>(c.toNat:Int)) (fun x y h=>toNat_inj h) |>.1 e
  conv=>lhs;arg 1;rw[← e2]
  exact List.take_append_drop _ _
theorem xhc (s:ByteArray) (i:Nat) (h:i≤s.size):bI (s.extract i s.size)=(bI s).drop i:=by
 rw[xch s i s.size h]
 exact List.take_of_length_le (by rw[List.length_drop,xaj];omega)
theorem xec {c:Int} (h:xaY c≠[]):0≤c∧c≤1114111:=by
 have:=mt (xeZ c).2 h
 omega
theorem xi3:xaY 65533=[239,191,189]:=by decide
theorem xtS (s:ByteArray) (i:Nat) (hi:i<s.size):(((Utf8.decode s i).1:Int)=65533∧Lib.hasPrefix (s.extract i s.size).data.toList [239,191,189]=false)↔xaM ((bI s).drop i)=[]:=by
 have hp:∀ t,Lib.hasPrefix (s.extract i s.size).data.toList [239,191,189]=true→(bI s).drop i=[239,191,189]++t∨∃ t,(bI s).drop i=[239,191,189]++t:=by
  intro t h
  obtain⟨t,h⟩:=(xdz _ _).1 h
  refine Or.inr ⟨t,?_⟩
  have e:=xhc s i (by omega)
  unfold bI at e
  rw[h] at e
  exact e.symm
 constructor
 ·rintro⟨h1,h2⟩
  rcases xbJ s i hi with ⟨h,_⟩|⟨c,hc,hn,hd⟩
  ·exact h
  ·rw[hd] at h1
   have h3:=xec (c:=c) (by rw[hc];exact hn)
   have h4:c=65533:=by dsimp only at h1;omega
   rw[h4,xi3] at hc
   obtain⟨c',t,e1,e2⟩:=xdn _ hn
   have h5:Lib.hasPrefix (s.extract i s.size).data.toList [239,191,189]=true:=by
    refine(xdz _ _).2 ⟨t,?_⟩
    have e:=xhc s i (by omega)
    unfold bI at e
    rw[e]
    unfold bI at e2 hc
    rw[← hc] at e2
    exact e2
   rw[h5] at h2
   cases h2
 ·intro h
  rcases xbJ s i hi with ⟨_,h1⟩|⟨c,hc,hn,hd⟩
  ·rw[h1]
   refine⟨rfl,?_⟩
   cases hq:Lib.hasPrefix (s.extract i s.size).data.toList [239,191,189] with
   | false=>rfl
   | true =>
    have:∃ t,(bI s).drop i=[239,191,189]++t:=by rcases hp [] hq with h|h;exact⟨_,h⟩;exact h
    obtain⟨t,ht⟩:=this
    have:=xfB 65533 t (by rw[xi3];simp)
    rw[xi3,← ht,h] at this
    cases this
  ·exact absurd h hn
def xlJ (l:List Int):Prop:=xaM l≠[]∧32≤l.headD 0∧l.headD 0≠34∧l.headD 0≠92
theorem xx4 {l:List Int} (h:xlJ l):xbg l=.piece (xaM l) (xaM l).length:=by
 cases l with
 | nil=>exact absurd rfl h.1
 | cons b t =>
  obtain⟨h1,h2,h3,h4⟩:=h
  simp only[List.headD_cons] at h2 h3 h4
  rw[xbg,if_neg h3,if_neg h4,if_neg]
  rintro(h|h)
  ·exact h1 h
  ·omega
theorem xwl {l:List Int} (h:¬ xlJ l) (hl:l≠[]) (h3:l.headD 0≠34) (h4:l.headD 0≠92):xbg l=.form:=by
 cases l with
 | nil=>exact absurd rfl hl
 | cons b t =>
  simp only[List.headD_cons] at h3 h4
  rw[xbg,if_neg h3,if_neg h4,if_pos]
  refine Classical.byContradiction fun hq=>h ⟨fun e=>hq (Or.inl e),?_,h3,h4⟩
  simp only[List.headD_cons]
  exact Int.not_lt.1 fun e=>hq (Or.inr e)
def Adv (l:List Int) (k:Nat):Prop:=k≤l.length∧∀ f p out,l.length≤f→xaW f l p out=xaW f (l.drop k) (p+k) (out++l.take k)
theorem xt7 (l:List Int):Adv l 0:=⟨Nat.zero_le _,fun f p out _=>by rw[List.drop_zero,List.take_zero,List.append_nil,Nat.add_zero]⟩
theorem xwZ {l:List Int} {k:Nat} (h:Adv l k) (hp:xlJ (l.drop k)):Adv l (k+(xaM (l.drop k)).length):=by
 obtain⟨h1,h2⟩:=h
 have h3:=(xiv (l.drop k)).1
 have h5:1≤(xaM (l.drop k)).length:=List.length_pos_iff.2 hp.1
 rw[List.length_drop] at h3
 refine⟨by omega,fun f p out hf=>?_⟩
 rw[h2 f p out hf]
 obtain⟨g,rfl⟩:∃ g,f=g+1:=⟨f - 1,by omega⟩
 rw[xay,xx4 hp]
 show xaW g ((l.drop k).drop _) _ _=_
 rw[List.drop_drop,xdM g (g+1) _ _ _ (by rw[List.length_drop];omega) (by rw[List.length_drop];omega),List.take_add,xkQ _ hp.1,List.append_assoc,Nat.add_assoc]
theorem xzH {l:List Int} {c:Int} (h:xaY c=xaM l) (h0:xaM l≠[]):xlJ l↔(32≤c∧c≠34∧c≠92):=by
 obtain⟨c',t,e1,e2⟩:=xdn l h0
 have hh:∃ b t',l=b :: t'∧((c<128∧b=c)∨(128≤c∧128≤b)):=by
  cases hl:xaM l with
  | nil=>exact absurd hl h0
  | cons b u =>
   rw[hl] at e2
   refine⟨b,u++t,e2,?_⟩
   have hc0:=xec (c:=c) (by rw[h];exact h0)
   by_cases hc:c<128
   ·left
    rcases xbc c with h'|⟨_,_,h'⟩|⟨_,_,h'⟩|⟨_,_,_,h'⟩|⟨_,_,h'⟩
    ·rw[h'] at h;exact absurd h.symm h0
    ·rw[h',hl] at h;injection h with ha hb;exact⟨hc,ha.symm⟩
    all_goals omega
   ·right
    refine⟨by omega,xs8 c (by omega) b ?_⟩
    rw[h,hl];exact List.mem_cons_self
 obtain⟨b,t',rfl,hb⟩:=hh
 unfold xlJ
 rw[List.headD_cons]
 constructor
 ·rintro⟨_,h2,h3,h4⟩
  omega
 ·rintro⟨h2,h3,h4⟩
  exact⟨h0,by omega,by omega,by omega⟩
theorem xAG (s:ByteArray) (i:Nat) (hi:i<s.size):xlJ ((bI s).drop i)↔¬ (((Utf8.decode s i).1:Int)<32∨((Utf8.decode s i).1:Int)=34∨((Utf8.decode s i).1:Int)=92∨xaM ((bI s).drop i)=[]):=by
 rcases xbJ s i hi with ⟨h,h1⟩|⟨c,hc,hn,hd⟩
 ·constructor
  ·rintro⟨h2,_⟩;exact absurd h h2
  ·intro h2;exact absurd (Or.inr (Or.inr (Or.inr h))) h2
 ·rw[xzH hc hn,hd]
  have h3:=xec (c:=c) (by rw[hc];exact hn)
  dsimp only
  constructor
  ·rintro⟨h4,h5,h6⟩ (h|h|h|h)
   ·omega
   ·omega
   ·omega
   ·exact hn h
  ·intro h
   refine⟨Int.not_lt.1 fun e=>h (Or.inl (by omega)),fun e=>h (Or.inr (Or.inl (by omega))),fun e=>h (Or.inr (Or.inr (Or.inl (by omega))))⟩
theorem xpB (s:ByteArray) (i:Nat) (hi:i<s.size) (h:xaM ((bI s).drop i)≠[]):(Utf8.decode s i).2=(xaM ((bI s).drop i)).length∧xaY (Utf8.decode s i).1=xaM ((bI s).drop i):=by
 rcases xbJ s i hi with ⟨h1,_⟩|⟨c,hc,hn,hd⟩
 ·exact absurd h1 h
 ·have h3:=xec (c:=c) (by rw[hc];exact hn)
  rw[hd]
  refine⟨rfl,?_⟩
  dsimp only
  rw[Int.toNat_of_nonneg h3.1]
  exact hc
theorem xxx (s:ByteArray) (i:Nat) (hi:i<s.size):(Utf8.decode s i).1≤1114111∧1≤(Utf8.decode s i).2∧i+(Utf8.decode s i).2≤s.size:=by
 rcases xbJ s i hi with ⟨_,h1⟩|⟨c,hc,hn,hd⟩
 ·rw[h1];exact⟨by decide,by decide,by dsimp only;omega⟩
 ·have h3:=xec (c:=c) (by rw[hc];exact hn)
  have h4:=(xiv ((bI s).drop i)).1
  rw[List.length_drop,xaj] at h4
  have h5:1≤(xaM ((bI s).drop i)).length:=List.length_pos_iff.2 hn
  rw[hd]
  exact⟨by dsimp only;omega,h5,by dsimp only;omega⟩
theorem xv3 (t:List Int):xan (92 :: 117 :: t)=xaU 4 2 0 t:=by
 have h0:¬ xxc 0 92:=by decide
 have h1:¬ xxc 1 117:=by decide
 unfold xan
 rw[xaU,if_neg h0,xaU,if_neg h1]
 rfl
theorem xpQ (l:List Int) (h:l=[]∨l=[92]):xan l=(0,3):=by
 rcases h with rfl|rfl <;> rfl
theorem xv8 (l:List Int) (h0:¬ (∃ t,l=92 :: 117 :: t)) (h1:¬ (l=[]∨l=[92])):xan l=(0,4):=by
 unfold xan
 cases l with
 | nil=>exact absurd (Or.inl rfl) h1
 | cons a t =>
  rw[xaU]
  by_cases ha:a=92
  ·subst ha
   rw[if_neg (by decide)]
   cases t with
   | nil=>exact absurd (Or.inr rfl) h1
   | cons b u =>
    rw[xaU]
    rw[if_pos (show xxc (0+1) b from Or.inr (Or.inl ⟨rfl,fun hb=>h0 ⟨u,by rw[hb]⟩⟩))]
  ·rw[if_pos (show xxc 0 a from Or.inl ⟨rfl,ha⟩)]
theorem xwB (f i:Nat) (c b:Int) (t:List Int) (hi:1<i) (h:xf0 b<0):xaU (f+1) i c (b :: t)=(0,4):=by
 rw[xaU,if_pos (show xxc i b from Or.inr (Or.inr ⟨hi,h⟩))]
theorem xws (f i:Nat) (c b:Int) (t:List Int) (hi:1<i) (h:¬ xf0 b<0):xaU (f+1) i c (b :: t)=xaU f (i+1) (16*c+xf0 b) t:=by
 rw[xaU,if_neg,if_pos hi]
 rintro(⟨h1,_⟩|⟨h1,_⟩|⟨_,h1⟩)
 ·omega
 ·omega
 ·exact h h1
theorem xkK (s:ByteArray) (i:Nat) (hi:i<s.size):∃ b,(bI s).drop i=b :: (bI s).drop (i+1)∧xf0 (Utf8.decode s i).1=xf0 b∧(¬ xf0 b<0→(Utf8.decode s i).2=1):=by
 have hl:i<(bI s).length:=by rw[xaj];exact hi
 refine⟨(bI s)[i],List.drop_eq_getElem_cons hl,?_⟩
 have hd:=List.drop_eq_getElem_cons hl
 generalize (bI s)[i]=b at hd ⊢
 have hhi:∀ x:Int,128≤x→xf0 x=-1:=by
  intro x hx
  unfold xf0
  rw[if_neg (by omega),if_neg (by omega),if_neg (by omega)]
 have hb0:0≤b:=by
  have:=xto s b (List.mem_of_mem_drop (i:=i) (by rw[hd];exact List.mem_cons_self))
  exact this.1
 by_cases hb:b<128
 ·have he:xaY b=[b]:=by
   rcases xbc b with h|⟨_,_,h⟩|⟨h,_⟩|⟨h,_⟩|⟨h,_⟩
   ·have:=(xeZ b).1 h;omega
   ·exact h
   all_goals omega
  have hx:=xjZ s i b ((bI s).drop (i+1)) (by rw[he];simp) (by rw[he,hd];rfl)
  rw[hx,he]
  dsimp only
  rw[Int.toNat_of_nonneg hb0]
  exact⟨rfl,fun _=>rfl⟩
 ·rw[hhi b (by omega)]
  refine⟨hhi _ ?_,fun h=>absurd (by decide) h⟩
  rcases xbJ s i hi with ⟨_,h1⟩|⟨c,hc,hn,hdd⟩
  ·rw[h1];decide
  ·rw[hdd]
   dsimp only
   have h3:=xec (c:=c) (by rw[hc];exact hn)
   rw[Int.toNat_of_nonneg h3.1]
   refine Int.not_lt.1 fun hlt=>?_
   have he:xaY c=[c]:=by
    rcases xbc c with h|⟨_,_,h⟩|⟨h,_⟩|⟨h,_⟩|⟨h,_⟩
    ·rw[h] at hc;exact absurd hc.symm hn
    ·exact h
    all_goals omega
   obtain⟨c',t,e1,e2⟩:=xdn _ hn
   rw[← hc,he,hd] at e2
   injection e2 with e3 e4
   omega
def xdA (l:List Int) (c:Int) (n:Nat) (e:Int):Prop :=
 (e=3∧xk5 l=.short)∨(e=4∧xk5 l=.form)∨(e=0∧xk5 l=.piece (xaY c) n∧xaY c≠[]∧1≤n∧n≤l.length)
theorem xml {b:Int} {t:List Int} {c:Int} {n:Nat} (h:xk5 (92 :: b :: t)=.piece (xaY c) n):xdA (92 :: b :: t) c n 0:=by
 have hp:=xkM b t _ _ h
 exact Or.inr (Or.inr ⟨rfl,h,hp.ne,hp.one,hp.len⟩)
abbrev bp (B:Nat):Value:=.pointer (some ⟨B,0,none⟩)
abbrev OK (B:Nat) (W W':World):Prop:=Lib.OthersKept 5 (some B) W W'
def Bd (B:Nat) (out:List Int) (W:World):Prop:=Lib.IsBuilderF 174 5 B B (out.map (Value.int .u8)) W
theorem Bd.lt {B:Nat} {out:List Int} {W:World} (h:Bd B out W):B<W.heap.size:=by
 rcases h with h|h <;> exact h.lt
theorem Bd.fresh (w:World):Bd w.heap.size [] (w.alloc (.cells #[.pointer none,.slice none 0 0] 174)):=Lib.IsBuilderF.of (Lib.fresh_isBuilder 174 5 w)
theorem Bd.kept {B:Nat} {out:List Int} {W W':World} (h:Bd B out W) (hb:Below W.heap.size W W'):Bd B out W':=by
 have hk:∀ k o,W.heap[k]?=some o→W'.heap[k]?=some o:=fun k o hk=>by rw[hb.block k (Array.getElem?_eq_some_iff.1 hk).1];exact hk
 have one:∀ p,Lib.BuilderAtF 174 5 B B p (out.map (Value.int .u8)) W→Lib.BuilderAtF 174 5 B B p (out.map (Value.int .u8)) W':=by
  rintro p ⟨hB,v,hc,⟨ho1,ho2⟩,hne⟩
  refine⟨hB,v,hk _ _ hc,⟨ho1,?_⟩,hne⟩
  rcases ho2 with h|⟨g,cap,cur,fz,h1,h2,h3,h4⟩
  ·exact Or.inl h
  ·exact Or.inr ⟨g,cap,cur,fz,h1,h2,hk _ _ h3,h4⟩
 exact h.elim (fun x=>Or.inl (one _ x)) (fun x=>Or.inr (one _ x))
theorem xAI (B:Nat) (out:List Int) (s:ByteArray) (W:World) (h:Bd B out W) (hl:out.length≤1000000) (hs:s.size≤1000000):Calls Tryz.prog 86 #[bp B,.string s] W fun e W'=>e=.returned (.tuple #[.int .i64 s.size,.nilIface])∧Bd B (out++bI s) W'∧Below B W W'∧OK B W W':=by
 refine(Any.Builder_WriteString_k bwL bwLX B B _ s W h (by rw[List.length_map];omega) (Nat.le_of_lt h.lt)).mono ?_
 rintro e W' ⟨he,h1,h2,h3⟩
 have e2:(bI s).map (Value.int .u8)=Lib.strCells s:=by unfold bI Lib.strCells;rw[List.map_map];rfl
 exact⟨he,by unfold Bd;rw[List.map_append,e2];exact Or.inr h1,h2,h3⟩
theorem xoK (c:Int) (h:xaY c≠[]):Lib.runeCells c=(xaY c).map (Value.int .u8):=by
 unfold Lib.runeCells
 congr 1
 unfold Lib.encodeRuneZ xaY
 have h1:=mt (xeZ c).2 h
 rw[if_neg h1]
 by_cases a:c<128
 ·rw[if_pos a,if_pos (by omega)]
 rw[if_neg a,if_neg (by omega)]
 by_cases b:c<2048
 ·rw[if_pos b,if_pos (by omega)]
 rw[if_neg b,if_neg (by omega)]
 by_cases d:c<65536
 ·rw[if_pos d,if_pos (by omega)]
 rw[if_neg d,if_neg (by omega),if_pos (by omega)]
theorem xBC (B:Nat) (out:List Int) (c:Int) (W:World) (h:Bd B out W) (hc:xaY c≠[]) (hl:out.length≤1000000):Calls Tryz.prog 267 #[bp B,.int .i32 c] W fun e W'=>e=.returned (.tuple #[.int .i64 (xaY c).length,.nilIface])∧Bd B (out++xaY c) W'∧Below B W W'∧OK B W W':=by
 have h1:=xec hc
 refine(Any.Builder_WriteRune_k brL brLX B B _ c (by omega) (by omega) W h (by rw[List.length_map];omega) (Nat.le_of_lt h.lt)).mono ?_
 rintro e W' ⟨he,h1,h2,h3⟩
 rw[xoK c hc] at he h1
 rw[List.length_map] at he
 exact⟨he,by unfold Bd;rw[List.map_append];exact Or.inr h1,h2,h3⟩
theorem xBY (B:Nat) (out:List Int) (W:World) (h:Bd B out W) (hb:∀ b ∈ out,0≤b∧b<256):Calls Tryz.prog 87 #[bp B] W fun e W'=>e=.returned (.string (str out))∧Below B W W':=by
 have e2:out.map (Value.int .u8)=Lib.byteCells (str out).data.toList:=by
  unfold Lib.byteCells
  rw[xbF,List.map_map]
  apply List.map_congr_left
  intro b hm
  have:=hb b hm
  simp only[Function.comp,UInt8.toNat_ofNat']
  congr 1
  omega
 have h':Lib.IsBuilderF 174 5 B B (Lib.byteCells (str out).data.toList) W:=by rw[← e2];exact h
 refine(Any.Builder_String_any_k bsL bsLX B B _ W h' (Nat.le_of_lt h.lt)).mono ?_
 rintro e W' ⟨he,_,h2,_⟩
 exact⟨he,h2⟩
theorem xsW (s p:ByteArray) (w:World):Calls Tryz.prog 237 #[.string s,.string p] w fun e w'=>e=.returned (.bool (Lib.hasPrefix s.data.toList p.data.toList))∧w'=w:=Any.strings_HasPrefix hpL s p w
theorem xxz (s p:ByteArray) (w:World):Calls Tryz.prog 306 #[.string s,.string p] w fun e w'=>e=.returned (.tuple #[.string ⟨(Lib.trimPrefix s.data.toList p.data.toList).toArray⟩,.bool (Lib.hasPrefix s.data.toList p.data.toList)])∧w'=w:=Any.strings_CutPrefix cpL s p w
def xmh (s:ByteArray) (r:Int):Bool:=decide (r=65533) && !(Lib.hasPrefix s.data.toList [239,191,189])
theorem xn4 (s:ByteArray) (r:Int) (w:World):Calls Tryz.prog 285 #[.string s,.int .i32 r] w fun e w'=>e=.returned (.bool (xmh s r))∧Below w.heap.size w w':=by
 by_cases hr:r=65533
 ·have e:xmh s r=!(Lib.hasPrefix s.data.toList [239,191,189]):=by unfold xmh;rw[decide_eq_true hr,Bool.true_and]
  rw[e]
  subst hr
  have H:=lH (fun W=>xsW s { data:=#[239,191,189] } W)
  go_enter Tryz.func285,Tryz.ntmps285
  go_wp2_with fail
  refine(H.out _).mono ?_
  rintro e w' ⟨rfl,rfl⟩
  go_wp2_with fail
  go_ret
  exact⟨rfl,by go_grown⟩
 ·have e:xmh s r=false:=by unfold xmh;rw[decide_eq_false hr,Bool.false_and]
  rw[e]
  go_enter Tryz.func285,Tryz.ntmps285
  go_wp2_with fail
  go_ret
  exact⟨rfl,by go_grown⟩
def xs2 (b:Int):Int:=if b=34 then 34 else if b=92 then 92 else if b=47 then 47 else if b=98 then 8 else if b=102 then 12 else if b=110 then 10 else if b=114 then 13 else if b=116 then 9 else 0
theorem xBB (b:Int):xwq b=if xs2 b=0 then none else some (xs2 b):=by
 unfold xwq xs2
 repeat' split
 all_goals first|rfl|omega
theorem xxH (c:Int) (w:World):Calls Tryz.prog 286 #[.int .i32 c] w fun e w'=>e=.returned (.int .i32 (xs2 c))∧Below w.heap.size w w':=by
 go_enter Tryz.func286,Tryz.ntmps286
 unfold xs2
 by_cases h1:c=34
 ·subst h1;go_wp2_with fail;go_ret;exact⟨rfl,by go_grown⟩
 by_cases h2:c=92
 ·subst h2;go_wp2_with fail;go_ret;exact⟨rfl,by go_grown⟩
 by_cases h3:c=47
 ·subst h3;go_wp2_with fail;go_ret;exact⟨rfl,by go_grown⟩
 by_cases h4:c=98
 ·subst h4;go_wp2_with fail;go_ret;exact⟨rfl,by go_grown⟩
 by_cases h5:c=102
 ·subst h5;go_wp2_with fail;go_ret;exact⟨rfl,by go_grown⟩
 by_cases h6:c=110
 ·subst h6;go_wp2_with fail;go_ret;exact⟨rfl,by go_grown⟩
 by_cases h7:c=114
 ·subst h7;go_wp2_with fail;go_ret;exact⟨rfl,by go_grown⟩
 by_cases h8:c=116
 ·subst h8;go_wp2_with fail;go_ret;exact⟨rfl,by go_grown⟩
 rw[if_neg h1,if_neg h2,if_neg h3,if_neg h4,if_neg h5,if_neg h6,if_neg h7,if_neg h8]
 go_wp2_with fail;go_ret;exact⟨rfl,by go_grown⟩
theorem xs3 (c:Int) (w:World) (h0:-1000≤c) (hm:c≤2000000):Calls Tryz.prog 307 #[.int .i32 c] w fun e w'=>e=.returned (.int .i32 (xf0 c))∧Below w.heap.size w w':=by
 go_enter Tryz.func307,Tryz.ntmps307
 unfold xf0
 by_cases h1:48≤c∧c≤57
 ·obtain⟨a,b⟩:=h1
  have wr:IntKind.i32.wrap (c - 48)=c - 48:=by rw[IntKind.wrap_i32];omega
  rw[if_pos ⟨a,b⟩];go_wp2_with fail;go_ret;exact⟨rfl,by go_grown⟩
 by_cases h2:97≤c∧c≤102
 ·obtain⟨a,b⟩:=h2
  have g1:¬ c≤57:=by omega
  have g0:(48:Int)≤c:=by omega
  have wr:IntKind.i32.wrap (c - 97)=c - 97:=by rw[IntKind.wrap_i32];omega
  have wr2:IntKind.i32.wrap (c - 97+10)=c - 87:=by rw[IntKind.wrap_i32];omega
  rw[if_neg h1,if_pos ⟨a,b⟩];clear h1;go_wp2_with fail;go_ret;exact⟨rfl,by go_grown⟩
 by_cases h3:65≤c∧c≤70
 ·obtain⟨a,b⟩:=h3
  have g1:¬ c≤57:=by omega
  have g0:(48:Int)≤c:=by omega
  have g2:¬ (97:Int)≤c:=by omega
  have wr:IntKind.i32.wrap (c - 65)=c - 65:=by rw[IntKind.wrap_i32];omega
  have wr2:IntKind.i32.wrap (c - 65+10)=c - 55:=by rw[IntKind.wrap_i32];omega
  rw[if_neg h1,if_neg h2,if_pos ⟨a,b⟩];clear h1 h2;go_wp2_with fail;go_ret;exact⟨rfl,by go_grown⟩
 rw[if_neg h1,if_neg h2,if_neg h3]
 by_cases a1:c<48
 ·have q1:¬ (48:Int)≤c:=by omega
  have q2:¬ (97:Int)≤c:=by omega
  have q3:¬ (65:Int)≤c:=by omega
  clear h1 h2 h3
  go_wp2_with fail;go_ret;exact⟨rfl,by go_grown⟩
 have q1:(48:Int)≤c:=by omega
 have q2:¬ c≤(57:Int):=by omega
 by_cases a2:c<65
 ·have q3:¬ (97:Int)≤c:=by omega
  have q4:¬ (65:Int)≤c:=by omega
  clear h1 h2 h3
  go_wp2_with fail;go_ret;exact⟨rfl,by go_grown⟩
 have q5:(65:Int)≤c:=by omega
 have q6:¬ c≤(70:Int):=by omega
 by_cases a3:c<97
 ·have q3:¬ (97:Int)≤c:=by omega
  clear h1 h2 h3
  go_wp2_with fail;go_ret;exact⟨rfl,by go_grown⟩
 have q7:(97:Int)≤c:=by omega
 have q8:¬ c≤(102:Int):=by omega
 clear h1 h2 h3
 go_wp2_with fail;go_ret;exact⟨rfl,by go_grown⟩
def xkR (s:ByteArray):ByteArray:=⟨(s.data.toList.drop 2).toArray⟩
theorem xnn (s:ByteArray):bI (xkR s)=(bI s).drop 2:=by
 unfold bI xkR
 rw[List.map_drop]
theorem xtR (s:ByteArray) (h:Lib.hasPrefix s.data.toList [92,117]=true):(⟨(Lib.trimPrefix s.data.toList [92,117]).toArray⟩:ByteArray)=xkR s:=by
 unfold Lib.trimPrefix xkR;rw[if_pos h];rfl
theorem xyK (s:ByteArray) (h:Lib.hasPrefix s.data.toList [92,117]=true):bI s=92 :: 117 :: bI (xkR s):=by
 obtain⟨t,ht⟩:=(xdz _ _).1 h
 rw[xnn]
 unfold bI
 rw[ht];rfl
theorem xw6 (s:ByteArray) (h:Lib.hasPrefix s.data.toList [92,117]=false):¬ ∃ t,bI s=92 :: 117 :: t:=by
 rintro⟨t,ht⟩
 have:Lib.hasPrefix s.data.toList [92,117]=true:=(xdz _ _).2 ⟨t,ht⟩
 rw[this] at h;cases h
theorem xBF (s:ByteArray) (h0:Lib.hasPrefix s.data.toList [92,117]=false) (h:Lib.hasPrefix [92,117] s.data.toList=true):bI s=[]∨bI s=[92]:=by
 obtain⟨t,ht⟩:=(xdz _ _).1 h
 have e:[(92:Int),117]=bI s++t:=ht
 have n:=xw6 s h0
 cases hb:bI s with
 | nil=>exact Or.inl rfl
 | cons a u =>
  rw[hb] at e
  injection e with e1 e2
  cases u with
  | nil=>right;rw[← e1]
  | cons b v =>
   injection e2 with e3 e4
   exact absurd ⟨v,by rw[hb,← e1,← e3]⟩ n
theorem xC0 (s:ByteArray) (h:Lib.hasPrefix [92,117] s.data.toList=false):¬ (bI s=[]∨bI s=[92]):=by
 intro hq
 have:Lib.hasPrefix [92,117] s.data.toList=true:=by
  rcases hq with hq|hq
  ·exact(xdz _ _).2 ⟨[92,117],by show _=bI s++_;rw[hq];rfl⟩
  ·exact(xdz _ _).2 ⟨[117],by show _=bI s++_;rw[hq];rfl⟩
 rw[this] at h;cases h
def xoP (s:ByteArray):Value:=.tuple #[.int .i32 (xan (bI s)).1,.int .i64 (xan (bI s)).2]
theorem xyQ (s:ByteArray) (w:World) (h0:Lib.hasPrefix s.data.toList [92,117]=false):Calls Tryz.prog 287 #[.string s] w fun e w'=>e=.returned (xoP s)∧Below w.heap.size w w':=by
 have H:=lH (fun W=>xxz s { data:=#[92,117] } W)
 have H2:=lH (fun W=>xsW { data:=#[92,117] } s W)
 rw[show ({ data:=#[92,117] }:ByteArray).data.toList=[92,117] from rfl] at H H2
 rw[h0] at H
 unfold xoP
 cases h1:Lib.hasPrefix [92,117] s.data.toList with
 | true =>
  rw[h1] at H2
  have hv:=xpQ _ (xBF s h0 h1)
  rw[hv]
  clear hv h0 h1
  go_enter Tryz.func287,Tryz.ntmps287
  go_wp2_with fail
  refine(H.out _).mono ?_
  rintro e w' ⟨rfl,rfl⟩
  go_wp2_with fail
  refine(H2.out _).mono ?_
  rintro e w' ⟨rfl,rfl⟩
  go_wp2_with fail
  refine bodyPost_ret (v:=.tuple #[.int .i32 0,.int .i64 3]) (by simp[results,Tryz.results287,go_sem]) rfl ⟨rfl,by go_grown⟩
 | false =>
  rw[h1] at H2
  have hv:=xv8 _ (xw6 s h0) (xC0 s h1)
  rw[hv]
  clear hv h0 h1
  go_enter Tryz.func287,Tryz.ntmps287
  go_wp2_with fail
  refine(H.out _).mono ?_
  rintro e w' ⟨rfl,rfl⟩
  go_wp2_with fail
  refine(H2.out _).mono ?_
  rintro e w' ⟨rfl,rfl⟩
  go_wp2_with fail
  refine bodyPost_ret (v:=.tuple #[.int .i32 0,.int .i64 4]) (by simp[results,Tryz.results287,go_sem]) rfl ⟨rfl,by go_grown⟩
theorem xxK (x y:Int) (hx₀:0≤x) (hx:x % 16=0) (hx₁:x<2147483648) (h₀:0≤y) (h₁:y<16):bits .or .i32 x y=x+y :=
 bits_join .i32 31 (by decide) wraps_i32 4 x y hx₀ hx hx₁ h₀ h₁ (by omega)
def xzQ (t:ByteArray) (F:Int × Int) (k:Nat) (c:Int):Prop:=k≤t.size∧t.size≤4∧F=xaU (4 - k) (2+k) c ((bI t).drop k)∧0≤c∧c<16 ^ k
def min4 (r:ByteArray):Nat:=if r.size<4 then r.size else 4
theorem xrY (r:ByteArray):xzQ (r.extract 0 (min4 r)) (xaU 4 2 0 (bI r)) 0 0∧(r.extract 0 (min4 r)).size=min4 r:=by
 have hm:min4 r≤r.size∧min4 r≤4:=by unfold min4;split <;> omega
 have hs:(r.extract 0 (min4 r)).size=min4 r:=by rw[ByteArray.size_extract];omega
 refine⟨⟨Nat.zero_le _,by rw[hs];exact hm.2,?_,by decide,by decide⟩,hs⟩
 rw[xch _ _ _ (Nat.zero_le _),List.drop_zero,List.drop_zero]
 by_cases h:r.size<4
 ·unfold min4
  rw[if_pos h,List.take_of_length_le (by rw[xaj];omega)]
 ·unfold min4
  rw[if_neg h]
  have:=xe3 4 2 0 (bI r) [] (by rw[xaj];omega)
  rw[List.append_nil] at this
  exact this.symm
theorem xuI {t:ByteArray} {F:Int × Int} {k:Nat} {c:Int} (h:xzQ t F k c) (hk:k<t.size) (hd:xf0 (Utf8.decode t k).1<0):F=(0,4):=by
 obtain⟨h1,h2,h3,h4,h5⟩:=h
 obtain⟨b,e1,e2,e3⟩:=xkK t k hk
 rw[h3,e1,show 4 - k=(3 - k)+1 by omega]
 exact xwB _ _ _ _ _ (by omega) (by rw[← e2];exact hd)
theorem xrs {t:ByteArray} {F:Int × Int} {k:Nat} {c:Int} (h:xzQ t F k c) (hk:k<t.size) (hd:¬ xf0 (Utf8.decode t k).1<0):(Utf8.decode t k).2=1∧xzQ t F (k+1) (16*c+xf0 (Utf8.decode t k).1)∧c<4096:=by
 obtain⟨h1,h2,h3,h4,h5⟩:=h
 obtain⟨b,e1,e2,e3⟩:=xkK t k hk
 rw[e2] at hd ⊢
 have hb:=xqW b
 refine⟨e3 hd,⟨by omega,h2,?_,by omega,?_⟩,?_⟩
 ·rw[h3,e1,show 4 - k=(3 - k)+1 by omega,xws _ _ _ _ _ (by omega) hd,show 4 - (k+1)=3 - k by omega,show 2+(k+1)=2+k+1 by omega]
 ·rw[Int.pow_succ];omega
 ·rcases(by omega:k=0∨k=1∨k=2∨k=3) with rfl|rfl|rfl|rfl
  all_goals (simp only[Int.reducePow] at h5;omega)
theorem xu7 {t:ByteArray} {F:Int × Int} {k:Nat} {c:Int} (h:xzQ t F k c) (hk:¬ k<t.size):(t.size<4→F=(0,3))∧(¬ t.size<4→F=(c,0)):=by
 obtain⟨h1,h2,h3,h4,h5⟩:=h
 have e:(bI t).drop k=[]:=List.drop_of_length_le (by rw[xaj];omega)
 rw[e] at h3
 constructor
 ·intro h
  rw[h3,show 4 - k=(3 - k)+1 by omega];rfl
 ·intro h
  rw[h3,show 4 - k=0 by omega];rfl
theorem xum (s:ByteArray) (w:World) (hs:s.size≤100000) (h0:Lib.hasPrefix s.data.toList [92,117]=true):Calls Tryz.prog 287 #[.string s] w fun e w'=>e=.returned (xoP s)∧Below w.heap.size w w':=by
 have H:=lH (fun W=>xxz s { data:=#[92,117] } W)
 rw[show ({ data:=#[92,117] }:ByteArray).data.toList=[92,117] from rfl,h0,xtR s h0] at H
 have HF:Hid (xan (bI s)=xaU 4 2 0 (bI (xkR s))):=lH (by rw[xyK s h0,xv3])
 have hrs:(xkR s).size≤100000:=by
  have:=congrArg List.length (xnn s)
  rw[List.length_drop,xaj,xaj] at this
  omega
 unfold xoP
 rw[HF.out]
 clear HF h0 hs
 generalize xkR s=r at *
 obtain⟨hu,hsz⟩:=xrY r
 obtain⟨F,hF⟩:∃ F,xaU 4 2 0 (bI r)=F:=⟨_,rfl⟩
 rw[hF] at hu ⊢
 clear hF
 have hm:min (4:Int) ((r.size:Nat):Int)=(min4 r:Int):=by unfold min4;split <;> omega
 have HM:Hid (min4 r≤r.size∧min4 r≤4∧(min4 r<4↔r.size<4)):=lH (by unfold min4;split <;> omega)
 generalize min4 r=m at *
 have HU:=lH hu
 have HSZ:=lH hsz
 clear hu hsz
 have hm1:=HM.out.1
 go_enter Tryz.func287,Tryz.ntmps287
 go_wp2_with fail
 refine(H.out _).mono ?_
 rintro e w' ⟨rfl,rfl⟩
 go_wp2_with fail
 have T0:(m:Int).toNat=m:=rfl
 go_loopw [6] (fun i wr=>∃ (k:Nat) (c:Int),i=.int .i32 c∧Hid (xzQ (r.extract 0 m) F k c)∧Hid (wr.heap[w'.heap.size]?=some (.stringIter (r.extract 0 m) k))∧Hid (Below w'.heap.size w' wr)) (fun _ wr=>(r.extract 0 m).size - wr.iterPos w'.heap.size)
 case atStart=>exact⟨0,0,rfl,HU,lH (World.iter_heap _ _ _),lH ((Below.refl _ _).alloc (Nat.le_refl _) _)⟩
 case round =>
  obtain⟨k,c,rfl,HI,HIT,HB⟩:=hrel
  have HSZ2:=HSZ
  generalize r.extract 0 m=t at *
  by_cases hp:k<t.size
  ·have hnx:=fun ty=>Lib.run_next_any_at (P:=Tryz.prog) wr w'.heap.size t k ty HIT.out hp
   have hbd:=xxx t k hp
   have HD:=lH (fun W=>xs3 (Utf8.decode t k).1 W (by omega) (by omega))
   have HW:=lH (Lib.iterAt_heap wr w'.heap.size t k (k+(Utf8.decode t k).2) HIT.out)
   have HB2:=lH (Lib.below_iterAt HB.out (k:=w'.heap.size) (Nat.le_refl _) t (k+(Utf8.decode t k).2))
   by_cases hd:xf0 (Utf8.decode t k).1<0
   ·have hF:=xuI HI.out hp hd
    generalize Utf8.decode t k=d at *
    have HF:=lH hF
    clear hbd hF
    go_wp2_with fail
    refine(HD.out _).mono ?_
    rintro e w2 ⟨rfl,hb2⟩
    have HB3:=lH (HB2.out.trans (hb2.mono HB2.out.size))
    clear hb2
    go_wp2_with fail
    refine bodyPost_ret (v:=.tuple #[.int .i32 0,.int .i64 4]) (by simp[results,Tryz.results287,go_sem]) rfl ⟨by rw[HF.out],HB3.out⟩
   ·obtain⟨hw1,hI2,hc4⟩:=xrs HI.out hp hd
    have hc0:=HI.out.2.2.2.1
    have hdl:=xqW (Utf8.decode t k).1
    generalize hg:xf0 (Utf8.decode t k).1=g at *
    have hs4:IntKind.i32.wrap (c*16)=c*16:=by rw[IntKind.wrap_i32];omega
    have ho:=xxK (c*16) g (by omega) (by omega) (by omega) (by omega) (by omega)
    have HI2:=lH (show xzQ t F (k+1) (c*16+g) by rw[Int.mul_comm c 16];exact hI2)
    generalize Utf8.decode t k=d at *
    have HW1:=lH hw1
    clear hbd hdl hg hI2 hc4 hc0 hw1
    go_wp2_with fail
    refine(HD.out _).mono ?_
    rintro e w2 ⟨rfl,hb2⟩
    have HB3:=lH (HB2.out.trans (hb2.mono HB2.out.size))
    have HW2:Hid (w2.heap[w'.heap.size]?=some (.stringIter t (k+d.2))):=lH (by rw[hb2.block _ (Array.getElem?_eq_some_iff.1 HW.out).1];exact HW.out)
    clear hb2
    go_wp2_with fail
    go_roundw
    case rel=>exact⟨k+1,c*16+g,rfl,HI2,by rw[← HW1.out];exact HW2,HB3⟩
    case measure =>
     simp only[World.iterPos,HW2.out,HIT.out,HW1.out]
     omega
  ·have hnx:=fun ty=>Lib.run_next_end_at (P:=Tryz.prog) wr w'.heap.size t k ty HIT.out hp
   have he:=xu7 HI.out hp
   rw[HSZ.out] at he
   by_cases h4:m<4
   ·have h4':r.size<4:=HM.out.2.2.1 h4
    have HF:=lH (he.1 h4)
    have h5:((r.size:Nat):Int)<4:=by omega
    clear he h4 h4'
    go_wp2_with fail
    refine bodyPost_ret (v:=.tuple #[.int .i32 0,.int .i64 3]) (by simp[results,Tryz.results287,go_sem]) rfl ⟨by rw[HF.out],HB.out⟩
   ·have h4':¬ r.size<4:=fun h=>h4 (HM.out.2.2.2 h)
    have HF:=lH (he.2 h4)
    have h5:¬ ((r.size:Nat):Int)<4:=by omega
    clear he h4 h4'
    go_wp2_with fail
    refine bodyPost_ret (v:=.tuple #[.int .i32 c,.int .i64 0]) (by simp[results,Tryz.results287,go_sem]) rfl ⟨by rw[HF.out],HB.out⟩
theorem xmF (s:ByteArray) (w:World) (hs:s.size≤100000):Calls Tryz.prog 287 #[.string s] w fun e w'=>e=.returned (xoP s)∧Below w.heap.size w w':=by
 cases h:Lib.hasPrefix s.data.toList [92,117] with
 | true=>exact xum s w hs h
 | false=>exact xyQ s w h
def xfh (l:List Int) (w:World) (e:Ending) (w':World):Prop:=(∃ (c:Int) (n:Nat) (er:Int),e=.returned (.tuple #[.int .i32 c,.int .i64 n,.int .i64 er])∧xdA l c n er)∧Below w.heap.size w w'
theorem xCs {a b:Int} {t:List Int} (h:xs2 b≠0):xk5 (a :: b :: t)=.piece (xaY (xs2 b)) 2:=by
 have h2:=xBB b
 rw[if_neg h] at h2
 rw[xd2,h2,(xrt h2).1]
theorem xCI {a b:Int} {t:List Int} (h:xs2 b=0):xk5 (a :: b :: t)=if (xan (a :: b :: t)).2≠0 then xp0 (xan (a :: b :: t)).2 else if (xan (a :: b :: t)).1<55296∨57343<(xan (a :: b :: t)).1 then .piece (xaY (xan (a :: b :: t)).1) 6 else if 56319<(xan (a :: b :: t)).1 then .form else
   if (xan ((a :: b :: t).drop 6)).2≠0 then xp0 (xan ((a :: b :: t).drop 6)).2 else if (xan ((a :: b :: t).drop 6)).1<56320∨57343<(xan ((a :: b :: t).drop 6)).1 then .form
   else .piece (xaY (65536+1024*((xan (a :: b :: t)).1 - 55296)+(xan ((a :: b :: t).drop 6)).1 - 56320)) 12:=by
 have h2:=xBB b
 rw[if_pos h] at h2
 rw[xd2,h2]
theorem xng {b:Int} {t:List Int} {c:Int} {n:Nat} {e:Int} (h:xk5 (92 :: b :: t)=xp0 e) (he:e=3∨e=4):xdA (92 :: b :: t) c n e:=by
 rcases he with rfl|rfl
 ·exact Or.inl ⟨rfl,h⟩
 ·exact Or.inr (Or.inl ⟨rfl,h⟩)
theorem xAJ (s:ByteArray) (h:1<s.size):∃ a t,bI s=a :: ((s[1]'h).toNat:Int) :: t:=by
 have h1:=xny s 1 h
 cases hb:bI s with
 | nil=>rw[hb] at h1;cases h1
 | cons a u =>
  cases u with
  | nil=>rw[hb] at h1;cases h1
  | cons b t =>
   rw[hb] at h1
   have:b=((s[1]'h).toNat:Int):=by simpa using h1
   exact⟨a,t,by rw[this]⟩
theorem xvL (s:ByteArray) (w:World) (hs:s.size=1) (hh:(bI s).headD 0=92):Calls Tryz.prog 266 #[.string s] w (xfh (bI s) w):=by
 have h1:(s.size:Int)=1:=by omega
 have hl:bI s=[92]:=by
  have:=xaj s
  cases hb:bI s with
  | nil=>rw[hb,hs] at this;cases this
  | cons a u =>
   rw[hb] at hh this
   rw[hs] at this
   have hu:u=[]:=List.eq_nil_of_length_eq_zero (by simpa using this)
   rw[hu];rw[List.headD_cons] at hh;rw[hh]
 rw[hl]
 have HM:Hid (xdA [92] 0 0 3):=lH (Or.inl ⟨rfl,rfl⟩)
 clear hs hh hl
 unfold xfh
 go_enter Tryz.func266,Tryz.ntmps266
 go_wp2_with fail
 refine bodyPost_ret (v:=.tuple #[.int .i32 0,.int .i64 0,.int .i64 3]) (by simp[results,Tryz.results266,go_sem]) rfl ⟨⟨0,0,3,rfl,HM.out⟩,by go_grown⟩
theorem xta (s:ByteArray) (w:World) (hs:1<s.size) (hs2:s.size≤100000) (hh:(bI s).headD 0=92):Calls Tryz.prog 266 #[.string s] w (xfh (bI s) w):=by
 have h1:¬ (s.size:Int)=1:=by omega
 have hb2:(1:Int)<(s.size:Int):=by omega
 obtain⟨a,t,hl⟩:=xAJ s hs
 rw[hl,List.headD_cons] at hh
 subst hh
 have hbl:=(s[1]'hs).toNat_lt
 have HU:=lH (fun W=>xmF s W hs2)
 have HU2:=lH (fun W (h6:6≤s.size)=>xmF (s.extract 6 s.size) W (by rw[ByteArray.size_extract];omega))
 have hd6:6≤s.size→bI (s.extract 6 s.size)=((92:Int) :: ((s[1]'hs).toNat:Int) :: t).drop 6:=fun h6=>by rw[xhc s 6 h6,hl]
 have hlen:((92:Int) :: ((s[1]'hs).toNat:Int) :: t).length=s.size:=by rw[← hl,xaj]
 unfold xoP at HU HU2
 rw[hl] at HU ⊢
 unfold xfh
 obtain⟨b,hbv⟩:∃ b:Int,((s[1]'hs).toNat:Int)=b:=⟨_,rfl⟩
 have hw:IntKind.i32.wrap b=b:=by rw[IntKind.wrap_i32];omega
 have HT:=lH (fun W=>xxH b W)
 rw[hbv] at HU hd6 hlen ⊢
 clear hbl hl
 by_cases hr:xs2 b=0
 ·rw[hr] at HT
  have HE:=lH (xCI (a:=92) (t:=t) hr)
  have hfe:=xii 6 0 0 (92 :: b :: t)
  have hfl:=xlk (92 :: b :: t)
  have hfn:=xh9 (l:=92 :: b :: t)
  by_cases he:(xan (92 :: b :: t)).2=0
  ·have hlt:=hfl he
   have h6:=hfn he
   have h6s:6≤s.size:=by rw[← hlen];exact h6
   have he2:(xan (92 :: b :: t))=((xan (92 :: b :: t)).1,0):=by rw[← he]
   generalize hr1:(xan (92 :: b :: t)).1=r at *
   rw[he2] at HU HE
   simp only[ne_eq,not_true_eq_false,if_false] at HE
   by_cases hr2:r<55296∨57343<r
   ·have HM:Hid (xdA (92 :: b :: t) r 6 0):=lH (xml (by rw[HE.out,if_pos hr2]))
    clear hr HE hfe hfl hfn HU2 hd6 he2 he hr1 h6 h6s hlt
    by_cases hr3:r<55296
    ·clear hr2
     go_enter Tryz.func266,Tryz.ntmps266
     go_wp2_with fail
     refine(HT.out _).mono ?_
     rintro e w2 ⟨rfl,hb2⟩
     go_wp2_with fail
     refine(HU.out _).mono ?_
     rintro e w3 ⟨rfl,hb3⟩
     have HB3:=lH (hb2.trans (hb3.mono hb2.size))
     clear hb2 hb3
     go_wp2_with fail
     refine bodyPost_ret (v:=.tuple #[.int .i32 (r),.int .i64 (6),.int .i64 (0)]) (by simp[results,Tryz.results266,go_sem]) rfl ⟨⟨r,6,0,rfl,HM.out⟩,HB3.out⟩
    ·have hr4:(57344:Int)≤r:=by omega
     clear hr2
     go_enter Tryz.func266,Tryz.ntmps266
     go_wp2_with fail
     refine(HT.out _).mono ?_
     rintro e w2 ⟨rfl,hb2⟩
     go_wp2_with fail
     refine(HU.out _).mono ?_
     rintro e w3 ⟨rfl,hb3⟩
     have HB3:=lH (hb2.trans (hb3.mono hb2.size))
     clear hb2 hb3
     go_wp2_with fail
     refine bodyPost_ret (v:=.tuple #[.int .i32 (r),.int .i64 (6),.int .i64 (0)]) (by simp[results,Tryz.results266,go_sem]) rfl ⟨⟨r,6,0,rfl,HM.out⟩,HB3.out⟩
   rw[if_neg hr2] at HE
   have q1:¬ r<55296:=fun h=>hr2 (Or.inl h)
   have q2:¬ (57344:Int)≤r:=fun h=>hr2 (Or.inr (by omega))
   clear hr2
   by_cases hr3:56319<r
   ·have HM:Hid (xdA (92 :: b :: t) 0 0 4):=lH (Or.inr (Or.inl ⟨rfl,by rw[HE.out,if_pos hr3]⟩))
    have q3:(56320:Int)≤r:=by omega
    clear hr HE hfe hfl hfn HU2 hd6 he2 he hr1 h6 h6s hlt hr3
    go_enter Tryz.func266,Tryz.ntmps266
    go_wp2_with fail
    refine(HT.out _).mono ?_
    rintro e w2 ⟨rfl,hb2⟩
    go_wp2_with fail
    refine(HU.out _).mono ?_
    rintro e w3 ⟨rfl,hb3⟩
    have HB3:=lH (hb2.trans (hb3.mono hb2.size))
    clear hb2 hb3
    go_wp2_with fail
    refine bodyPost_ret (v:=.tuple #[.int .i32 (0),.int .i64 (0),.int .i64 (4)]) (by simp[results,Tryz.results266,go_sem]) rfl ⟨⟨0,0,4,rfl,HM.out⟩,HB3.out⟩
   rw[if_neg hr3] at HE
   have q3:¬ (56320:Int)≤r:=by omega
   have hd:=hd6 h6s
   have HU3:=lH (fun W=>HU2.out W h6s)
   rw[hd] at HU3
   have hfe3:=xii 6 0 0 ((92 :: b :: t).drop 6)
   have hfl3:=xlk ((92 :: b :: t).drop 6)
   have hs6:(6:Int)≤(s.size:Int):=by omega
   by_cases hg:(xan ((92 :: b :: t).drop 6)).2=0
   ·have hlt3:=hfl3 hg
    have hg2:(xan ((92 :: b :: t).drop 6))=((xan ((92 :: b :: t).drop 6)).1,0):=by rw[← hg]
    generalize hr4:(xan ((92 :: b :: t).drop 6)).1=g at *
    rw[hg2] at HU3 HE
    simp only[ne_eq,not_true_eq_false,if_false] at HE
    by_cases hr5:g<56320∨57343<g
    ·have HM:Hid (xdA (92 :: b :: t) 0 0 4):=lH (Or.inr (Or.inl ⟨rfl,by rw[HE.out,if_pos hr5]⟩))
     clear hr HE hfe hfl hfn HU2 hd6 he2 he hr1 h6 h6s hlt hr3 hd hfe3 hfl3 hg hg2 hr4 hlt3
     by_cases hr6:g<56320
     ·clear hr5
      go_enter Tryz.func266,Tryz.ntmps266
      go_wp2_with fail
      refine(HT.out _).mono ?_
      rintro e w2 ⟨rfl,hb2⟩
      go_wp2_with fail
      refine(HU.out _).mono ?_
      rintro e w3 ⟨rfl,hb3⟩
      have HB3:=lH (hb2.trans (hb3.mono hb2.size))
      clear hb2 hb3
      go_wp2_with fail
      refine(HU3.out _).mono ?_
      rintro e w4 ⟨rfl,hb4⟩
      have HB4:=lH (HB3.out.trans (hb4.mono HB3.out.size))
      clear hb4
      clear HB3
      have HB3:=HB4
      clear HB4
      go_wp2_with fail
      refine bodyPost_ret (v:=.tuple #[.int .i32 (0),.int .i64 (0),.int .i64 (4)]) (by simp[results,Tryz.results266,go_sem]) rfl ⟨⟨0,0,4,rfl,HM.out⟩,HB3.out⟩
     ·have hr7:(57344:Int)≤g:=by omega
      clear hr5
      go_enter Tryz.func266,Tryz.ntmps266
      go_wp2_with fail
      refine(HT.out _).mono ?_
      rintro e w2 ⟨rfl,hb2⟩
      go_wp2_with fail
      refine(HU.out _).mono ?_
      rintro e w3 ⟨rfl,hb3⟩
      have HB3:=lH (hb2.trans (hb3.mono hb2.size))
      clear hb2 hb3
      go_wp2_with fail
      refine(HU3.out _).mono ?_
      rintro e w4 ⟨rfl,hb4⟩
      have HB4:=lH (HB3.out.trans (hb4.mono HB3.out.size))
      clear hb4
      clear HB3
      have HB3:=HB4
      clear HB4
      go_wp2_with fail
      refine bodyPost_ret (v:=.tuple #[.int .i32 (0),.int .i64 (0),.int .i64 (4)]) (by simp[results,Tryz.results266,go_sem]) rfl ⟨⟨0,0,4,rfl,HM.out⟩,HB3.out⟩
    ·rw[if_neg hr5] at HE
     have q5:¬ g<56320:=fun h=>hr5 (Or.inl h)
     have q6:¬ (57344:Int)≤g:=fun h=>hr5 (Or.inr (by omega))
     have v1:IntKind.i32.wrap (r - 55296)=r - 55296:=by rw[IntKind.wrap_i32];omega
     have v2:IntKind.i32.wrap ((r - 55296)*1024)=(r - 55296)*1024:=by rw[IntKind.wrap_i32];omega
     have v3:IntKind.i32.wrap (65536+(r - 55296)*1024)=65536+(r - 55296)*1024:=by rw[IntKind.wrap_i32];omega
     have v4:IntKind.i32.wrap (g - 56320)=g - 56320:=by rw[IntKind.wrap_i32];omega
     have v5:IntKind.i32.wrap (65536+(r - 55296)*1024+(g - 56320))=65536+(r - 55296)*1024+(g - 56320):=by rw[IntKind.wrap_i32];omega
     have HM:Hid (xdA (92 :: b :: t) (65536+(r - 55296)*1024+(g - 56320)) 12 0):=lH (xml (by rw[HE.out,show 65536+1024*(r - 55296)+g - 56320=65536+(r - 55296)*1024+(g - 56320) by omega]))
     clear hr HE hfe hfl hfn HU2 hd6 he2 he hr1 h6 h6s hlt hr3 hd hfe3 hfl3 hg hg2 hr4 hlt3 hr5
     go_enter Tryz.func266,Tryz.ntmps266
     go_wp2_with fail
     refine(HT.out _).mono ?_
     rintro e w2 ⟨rfl,hb2⟩
     go_wp2_with fail
     refine(HU.out _).mono ?_
     rintro e w3 ⟨rfl,hb3⟩
     have HB3:=lH (hb2.trans (hb3.mono hb2.size))
     clear hb2 hb3
     go_wp2_with fail
     refine(HU3.out _).mono ?_
     rintro e w4 ⟨rfl,hb4⟩
     have HB4:=lH (HB3.out.trans (hb4.mono HB3.out.size))
     clear hb4
     clear HB3
     have HB3:=HB4
     clear HB4
     go_wp2_with fail
     refine bodyPost_ret (v:=.tuple #[.int .i32 (65536+(r - 55296)*1024+(g - 56320)),.int .i64 (12),.int .i64 (0)]) (by simp[results,Tryz.results266,go_sem]) rfl ⟨⟨65536+(r - 55296)*1024+(g - 56320),12,0,rfl,HM.out⟩,HB3.out⟩
   ·have HM:Hid (xdA (92 :: b :: t) 0 0 (xan ((92 :: b :: t).drop 6)).2):=lH (xng (by rw[HE.out,if_pos hg]) (hfe3.resolve_left hg))
    generalize xan ((92 :: b :: t).drop 6)=G at *
    clear hr HE hfe hfl hfn HU2 hd6 he2 he hr1 h6 h6s hlt hr3 hd hfe3 hfl3
    go_enter Tryz.func266,Tryz.ntmps266
    go_wp2_with fail
    refine(HT.out _).mono ?_
    rintro e w2 ⟨rfl,hb2⟩
    go_wp2_with fail
    refine(HU.out _).mono ?_
    rintro e w3 ⟨rfl,hb3⟩
    have HB3:=lH (hb2.trans (hb3.mono hb2.size))
    clear hb2 hb3
    go_wp2_with fail
    refine(HU3.out _).mono ?_
    rintro e w4 ⟨rfl,hb4⟩
    have HB4:=lH (HB3.out.trans (hb4.mono HB3.out.size))
    clear hb4
    clear HB3
    have HB3:=HB4
    clear HB4
    go_wp2_with fail
    refine bodyPost_ret (v:=.tuple #[.int .i32 (0),.int .i64 (0),.int .i64 (G.2)]) (by simp[results,Tryz.results266,go_sem]) rfl ⟨⟨0,0,G.2,rfl,HM.out⟩,HB3.out⟩
  ·have HM:Hid (xdA (92 :: b :: t) 0 0 (xan (92 :: b :: t)).2):=lH (xng (by rw[HE.out,if_pos he]) (hfe.resolve_left he))
   generalize xan (92 :: b :: t)=F at *
   clear hr HE hfe hfl hfn HU2 hd6
   go_enter Tryz.func266,Tryz.ntmps266
   go_wp2_with fail
   refine(HT.out _).mono ?_
   rintro e w2 ⟨rfl,hb2⟩
   go_wp2_with fail
   refine(HU.out _).mono ?_
   rintro e w3 ⟨rfl,hb3⟩
   have HB3:=lH (hb2.trans (hb3.mono hb2.size))
   clear hb2 hb3
   go_wp2_with fail
   refine bodyPost_ret (v:=.tuple #[.int .i32 (0),.int .i64 (0),.int .i64 (F.2)]) (by simp[results,Tryz.results266,go_sem]) rfl ⟨⟨0,0,F.2,rfl,HM.out⟩,HB3.out⟩
 ·have HM:Hid (xdA (92 :: b :: t) (xs2 b) 2 0):=lH (xml (xCs hr))
  generalize xs2 b=x at *
  clear HU HU2 hd6
  go_enter Tryz.func266,Tryz.ntmps266
  go_wp2_with fail
  refine(HT.out _).mono ?_
  rintro e w2 ⟨rfl,hb2⟩
  go_wp2_with fail
  refine bodyPost_ret (v:=.tuple #[.int .i32 x,.int .i64 2,.int .i64 0]) (by simp[results,Tryz.results266,go_sem]) rfl ⟨⟨x,2,0,rfl,HM.out⟩,hb2⟩
theorem xuF (s:ByteArray) (w:World) (hs:0<s.size) (hs2:s.size≤100000) (hh:(bI s).headD 0=92):Calls Tryz.prog 266 #[.string s] w (xfh (bI s) w):=by
 by_cases h:s.size=1
 ·exact xvL s w h hh
 ·exact xta s w (by omega) hs2 hh
theorem xoc (s:ByteArray) (i:Nat) (hi:i<s.size):xmh (s.extract i s.size) (Utf8.decode s i).1=decide (xaM ((bI s).drop i)=[]):=by
 have h:=xtS s i hi
 unfold xmh
 by_cases hl:xaM ((bI s).drop i)=[]
 ·obtain⟨h1,h2⟩:=h.2 hl
  rw[h1,h2,decide_eq_true hl];rfl
 ·rw[decide_eq_false hl]
  cases hd:decide (((Utf8.decode s i).1:Int)=65533) with
  | false=>rfl
  | true =>
   cases hp:Lib.hasPrefix (s.extract i s.size).data.toList [239,191,189] with
   | true=>rfl
   | false=>exact absurd (h.1 ⟨of_decide_eq_true hd,hp⟩) hl
def xiE (s:ByteArray) (w:World) (e:Ending) (w':World):Prop:=(∃ k:Nat,e=.returned (.int .i64 k)∧k≤s.size∧Adv (bI s) k∧¬ xlJ ((bI s).drop k))∧Below w.heap.size w w'
theorem xBW (s:ByteArray) (k:Nat) (hk:¬ k<s.size):¬ xlJ ((bI s).drop k):=by
 rw[List.drop_of_length_le (by rw[xaj];omega)]
 rintro⟨h,_⟩
 exact h rfl
theorem xrp (s:ByteArray) (w:World) (hs:s.size≤100000):Calls Tryz.prog 265 #[.string s] w (xiE s w):=by
 unfold xiE
 go_enter Tryz.func265,Tryz.ntmps265
 go_wp2_with fail
 go_loopw [] (fun wr=>∃ (k:Nat),k≤s.size∧Hid (Adv (bI s) k)∧Hid (wr.heap[w.heap.size]?=some (.stringIter s k))∧Hid (Below w.heap.size w wr)) (fun wr=>s.size - wr.iterPos w.heap.size)
 case atStart=>exact⟨0,Nat.zero_le _,lH (xt7 _),lH (World.iter_heap _ _ _),lH ((Below.refl _ _).alloc (Nat.le_refl _) _)⟩
 case round =>
  obtain⟨k,hks,HA,HIT,HB⟩:=hrel
  by_cases hp:k<s.size
  ·have hnx:=fun ty=>Lib.run_next_any_at (P:=Tryz.prog) wr w.heap.size s k ty HIT.out hp
   have hbd:=xxx s k hp
   have HL:=lH (fun W=>xn4 (s.extract k s.size) (Utf8.decode s k).1 W)
   rw[xoc s k hp] at HL
   have HW:=lH (Lib.iterAt_heap wr w.heap.size s k (k+(Utf8.decode s k).2) HIT.out)
   have HB2:=lH (Lib.below_iterAt HB.out (k:=w.heap.size) (Nat.le_refl _) s (k+(Utf8.decode s k).2))
   have hk1:(k:Int)≤(s.size:Int):=by omega
   have hpl:=xAG s k hp
   have HK:=lH hks
   clear hks
   by_cases h1:((Utf8.decode s k).1:Int)<32
   ·have HN:Hid (¬ xlJ ((bI s).drop k)):=lH (fun h=>hpl.1 h (Or.inl h1))
    generalize Utf8.decode s k=d at *
    clear hbd hpl HL
    go_wp2_with fail
    go_ret
    exact⟨⟨k,rfl,HK.out,HA.out,HN.out⟩,HB2.out⟩
   by_cases h2:((Utf8.decode s k).1:Int)=34
   ·have HN:Hid (¬ xlJ ((bI s).drop k)):=lH (fun h=>hpl.1 h (Or.inr (Or.inl h2)))
    generalize Utf8.decode s k=d at *
    clear hbd hpl HL
    go_wp2_with fail
    go_ret
    exact⟨⟨k,rfl,HK.out,HA.out,HN.out⟩,HB2.out⟩
   by_cases h3:((Utf8.decode s k).1:Int)=92
   ·have HN:Hid (¬ xlJ ((bI s).drop k)):=lH (fun h=>hpl.1 h (Or.inr (Or.inr (Or.inl h3))))
    generalize Utf8.decode s k=d at *
    clear hbd hpl HL
    go_wp2_with fail
    go_ret
    exact⟨⟨k,rfl,HK.out,HA.out,HN.out⟩,HB2.out⟩
   by_cases hl:xaM ((bI s).drop k)=[]
   ·have HN:Hid (¬ xlJ ((bI s).drop k)):=lH (fun h=>hpl.1 h (Or.inr (Or.inr (Or.inr hl))))
    rw[decide_eq_true hl] at HL
    generalize Utf8.decode s k=d at *
    clear hbd hpl hl
    go_wp2_with fail
    refine(HL.out _).mono ?_
    rintro e w2 ⟨rfl,hb2⟩
    have HB3:=lH (HB2.out.trans (hb2.mono HB2.out.size))
    clear hb2
    go_wp2_with fail
    go_ret
    exact⟨⟨k,rfl,HK.out,HA.out,HN.out⟩,HB3.out⟩
   ·have hP:xlJ ((bI s).drop k):=hpl.2 (by rintro(h|h|h|h);exact h1 h;exact h2 h;exact h3 h;exact hl h)
    have HA2:=lH (xwZ HA.out hP)
    rw[← (xpB s k hp hl).1] at HA2
    rw[decide_eq_false hl] at HL
    generalize Utf8.decode s k=d at *
    have HD:=lH hbd
    have b2:((d.1:Int) == 34)=false:=by simpa using h2
    have b3:((d.1:Int) == 92)=false:=by simpa using h3
    clear hbd hpl hl hP
    go_wp2_with fail
    refine(HL.out _).mono ?_
    rintro e w2 ⟨rfl,hb2⟩
    have HB3:=lH (HB2.out.trans (hb2.mono HB2.out.size))
    have HW2:Hid (w2.heap[w.heap.size]?=some (.stringIter s (k+d.2))):=lH (by rw[hb2.block _ (Array.getElem?_eq_some_iff.1 HW.out).1];exact HW.out)
    clear hb2
    go_wp2_with fail
    refine⟨⟨k+d.2,HD.out.2.2,HA2,HW2,HB3⟩,?_⟩
    have:=HD.out
    simp only[World.iterPos,HW2.out,HIT.out]
    omega
  ·have hnx:=fun ty=>Lib.run_next_end_at (P:=Tryz.prog) wr w.heap.size s k ty HIT.out hp
   have hk:k=s.size:=by omega
   have HN:Hid (¬ xlJ ((bI s).drop s.size)):=lH (xBW s s.size (by omega))
   subst hk
   clear hp hks
   go_wp2_with fail
   go_ret
   exact⟨⟨s.size,rfl,Nat.le_refl _,HA.out,HN.out⟩,HB.out⟩
end Go.Proofs.YtjkgkmmkehnggaaGreatDoor
