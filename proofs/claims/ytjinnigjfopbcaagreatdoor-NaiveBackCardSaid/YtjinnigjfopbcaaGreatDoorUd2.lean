/- dJq dJr dJs dJw dJz dJt dJu dJv dJx. -/
import Derived.Test.YtjinnigjfopbcaaGreatDoorUs
import Derived.Lib.Strings
import Derived.Test.YtjinnigjfopbcaaGreatDoorUd1
import Derived.Test.YtjinnigjfopbcaaGreatDoorRs
set_option maxHeartbeats 16000000
namespace Go.Proofs.YtjinnigjfopbcaaGreatDoor
set_option linter.unusedVariables false
set_option linter.unusedSimpArgs false
open Go.RowKit
set_option maxRecDepth 20000
theorem toNat_inj {a b:UInt8} (h:(a.toNat:Int)=(b.toNat:Int)):a=b:=UInt8.toNat_inj.1 (by omega)
theorem xdz (p l:List UInt8):p.isPrefixOf l=true↔∃ t,l.map (fun c=>(c.toNat:Int))=p.map (fun c=>(c.toNat:Int))++t:=by
 rw[List.isPrefixOf_iff_prefix]
 constructor
 ·rintro⟨t,rfl⟩
  exact⟨t.map (fun c=>(c.toNat:Int)),by rw[List.map_append]⟩
 ·rintro⟨t,h⟩
  have e:=congrArg (List.take p.length) h
  rw[List.take_left' (by rw[List.length_map]),← List.map_take] at e
  refine⟨l.drop p.length,?_⟩
  have e2:l.take p.length=p:=List.map_inj_right (f:=fun c:UInt8=>(c.toNat:Int)) (fun x y h=>toNat_inj h) |>.1 e
  conv=>lhs;arg 1;rw[← e2]
  exact List.take_append_drop _ _
theorem xgG (s:ByteArray) (i:Nat) (h:i≤s.size):bI (s.extract i s.size)=(bI s).drop i:=by
 rw[xca s i s.size h]
 exact List.take_of_length_le (by rw[List.length_drop,xah];omega)
theorem xec {c:Int} (h:xa3 c≠[]):0≤c∧c≤1114111:=by
 have:=mt (xeL c).2 h
 omega
theorem xiS:xa3 65533=[239,191,189]:=by decide
theorem xud (s:ByteArray) (i:Nat) (hi:i<s.size):(((Utf8.decode s i).1:Int)=65533∧Lib.hasPrefix (s.extract i s.size).data.toList [239,191,189]=false)↔xaw ((bI s).drop i)=[]:=by
 have hp:∀ t,Lib.hasPrefix (s.extract i s.size).data.toList [239,191,189]=true→(bI s).drop i=[239,191,189]++t∨∃ t,(bI s).drop i=[239,191,189]++t:=by
  intro t h
  obtain⟨t,h⟩:=(xdz _ _).1 h
  refine Or.inr ⟨t,?_⟩
  have e:=xgG s i (by omega)
  unfold bI at e
  rw[h] at e
  exact e.symm
 constructor
 ·rintro⟨h1,h2⟩
  rcases xbL s i hi with ⟨h,_⟩|⟨c,hc,hn,hd⟩
  ·exact h
  ·rw[hd] at h1
   have h3:=xec (c:=c) (by rw[hc];exact hn)
   have h4:c=65533:=by dsimp only at h1;omega
   rw[h4,xiS] at hc
   obtain⟨c',t,e1,e2⟩:=xc4 _ hn
   have h5:Lib.hasPrefix (s.extract i s.size).data.toList [239,191,189]=true:=by
    refine(xdz _ _).2 ⟨t,?_⟩
    have e:=xgG s i (by omega)
    unfold bI at e
    rw[e]
    unfold bI at e2 hc
    rw[← hc] at e2
    exact e2
   rw[h5] at h2
   cases h2
 ·intro h
  rcases xbL s i hi with ⟨_,h1⟩|⟨c,hc,hn,hd⟩
  ·rw[h1]
   refine⟨rfl,?_⟩
   cases hq:Lib.hasPrefix (s.extract i s.size).data.toList [239,191,189] with
   | false=>rfl
   | true =>
    have:∃ t,(bI s).drop i=[239,191,189]++t:=by rcases hp [] hq with h|h;exact⟨_,h⟩;exact h
    obtain⟨t,ht⟩:=this
    have:=xfq 65533 t (by rw[xiS];simp)
    rw[xiS,← ht,h] at this
    cases this
  ·exact absurd h hn
def xlA (l:List Int):Prop:=xaw l≠[]∧32≤l.headD 0∧l.headD 0≠34∧l.headD 0≠92
theorem xxv {l:List Int} (h:xlA l):xbh l=.piece (xaw l) (xaw l).length:=by
 cases l with
 | nil=>exact absurd rfl h.1
 | cons b t =>
  obtain⟨h1,h2,h3,h4⟩:=h
  simp only[List.headD_cons] at h2 h3 h4
  rw[xbh,if_neg h3,if_neg h4,if_neg]
  rintro(h|h)
  ·exact h1 h
  ·omega
theorem xsJ {l:List Int} (h:¬ xlA l) (hl:l≠[]) (h3:l.headD 0≠34) (h4:l.headD 0≠92):xbh l=.form:=by
 cases l with
 | nil=>exact absurd rfl hl
 | cons b t =>
  simp only[List.headD_cons] at h3 h4
  rw[xbh,if_neg h3,if_neg h4,if_pos]
  refine Classical.byContradiction fun hq=>h ⟨fun e=>hq (Or.inl e),?_,h3,h4⟩
  simp only[List.headD_cons]
  exact Int.not_lt.1 fun e=>hq (Or.inr e)
def Adv (l:List Int) (k:Nat):Prop:=k≤l.length∧∀ f p out,l.length≤f→xaZ f l p out=xaZ f (l.drop k) (p+k) (out++l.take k)
theorem xs0 (l:List Int):Adv l 0:=⟨Nat.zero_le _,fun f p out _=>by rw[List.drop_zero,List.take_zero,List.append_nil,Nat.add_zero]⟩
theorem xtE {l:List Int} {k:Nat} (h:Adv l k) (hp:xlA (l.drop k)):Adv l (k+(xaw (l.drop k)).length):=by
 obtain⟨h1,h2⟩:=h
 have h3:=(xir (l.drop k)).1
 have h5:1≤(xaw (l.drop k)).length:=List.length_pos_iff.2 hp.1
 rw[List.length_drop] at h3
 refine⟨by omega,fun f p out hf=>?_⟩
 rw[h2 f p out hf]
 obtain⟨g,rfl⟩:∃ g,f=g+1:=⟨f - 1,by omega⟩
 rw[xaC,xxv hp]
 show xaZ g ((l.drop k).drop _) _ _=_
 rw[List.drop_drop,xdR g (g+1) _ _ _ (by rw[List.length_drop];omega) (by rw[List.length_drop];omega),List.take_add,xjK _ hp.1,List.append_assoc,Nat.add_assoc]
theorem xyF {l:List Int} {c:Int} (h:xa3 c=xaw l) (h0:xaw l≠[]):xlA l↔(32≤c∧c≠34∧c≠92):=by
 obtain⟨c',t,e1,e2⟩:=xc4 l h0
 have hh:∃ b t',l=b :: t'∧((c<128∧b=c)∨(128≤c∧128≤b)):=by
  cases hl:xaw l with
  | nil=>exact absurd hl h0
  | cons b u =>
   rw[hl] at e2
   refine⟨b,u++t,e2,?_⟩
   have hc0:=xec (c:=c) (by rw[h];exact h0)
   by_cases hc:c<128
   ·left
    rcases xbf c with h'|⟨_,_,h'⟩|⟨_,_,h'⟩|⟨_,_,_,h'⟩|⟨_,_,h'⟩
    ·rw[h'] at h;exact absurd h.symm h0
    ·rw[h',hl] at h;injection h with ha hb;exact⟨hc,ha.symm⟩
    all_goals omega
   ·right
    refine⟨by omega,xrN c (by omega) b ?_⟩
    rw[h,hl];exact List.mem_cons_self
 obtain⟨b,t',rfl,hb⟩:=hh
 unfold xlA
 rw[List.headD_cons]
 constructor
 ·rintro⟨_,h2,h3,h4⟩
  omega
 ·rintro⟨h2,h3,h4⟩
  exact⟨h0,by omega,by omega,by omega⟩
theorem xz4 (s:ByteArray) (i:Nat) (hi:i<s.size):xlA ((bI s).drop i)↔¬ (((Utf8.decode s i).1:Int)<32∨((Utf8.decode s i).1:Int)=34∨((Utf8.decode s i).1:Int)=92∨xaw ((bI s).drop i)=[]):=by
 rcases xbL s i hi with ⟨h,h1⟩|⟨c,hc,hn,hd⟩
 ·constructor
  ·rintro⟨h2,_⟩;exact absurd h h2
  ·intro h2;exact absurd (Or.inr (Or.inr (Or.inr h))) h2
 ·rw[xyF hc hn,hd]
  have h3:=xec (c:=c) (by rw[hc];exact hn)
  dsimp only
  constructor
  ·rintro⟨h4,h5,h6⟩ (h|h|h|h)
   ·omega
   ·omega
   ·omega
   ·exact hn h
  ·intro h
   refine⟨Int.not_lt.1 fun e=>h (Or.inl (by omega)),fun e=>h (Or.inr (Or.inl (by omega))),fun e=>h (Or.inr (Or.inr (Or.inl (by omega))))⟩
theorem xhD (s:ByteArray) (i:Nat) (hi:i<s.size) (h:xaw ((bI s).drop i)≠[]):(Utf8.decode s i).2=(xaw ((bI s).drop i)).length∧xa3 (Utf8.decode s i).1=xaw ((bI s).drop i):=by
 rcases xbL s i hi with ⟨h1,_⟩|⟨c,hc,hn,hd⟩
 ·exact absurd h1 h
 ·have h3:=xec (c:=c) (by rw[hc];exact hn)
  rw[hd]
  refine⟨rfl,?_⟩
  dsimp only
  rw[Int.toNat_of_nonneg h3.1]
  exact hc
theorem xqm (s:ByteArray) (i:Nat) (hi:i<s.size):(Utf8.decode s i).1≤1114111∧1≤(Utf8.decode s i).2∧i+(Utf8.decode s i).2≤s.size:=by
 rcases xbL s i hi with ⟨_,h1⟩|⟨c,hc,hn,hd⟩
 ·rw[h1];exact⟨by decide,by decide,by dsimp only;omega⟩
 ·have h3:=xec (c:=c) (by rw[hc];exact hn)
  have h4:=(xir ((bI s).drop i)).1
  rw[List.length_drop,xah] at h4
  have h5:1≤(xaw ((bI s).drop i)).length:=List.length_pos_iff.2 hn
  rw[hd]
  exact⟨by dsimp only;omega,h5,by dsimp only;omega⟩
theorem xve (t:List Int):xan (92 :: 117 :: t)=xaW 4 2 0 t:=by
 have h0:¬ xv0 0 92:=by decide
 have h1:¬ xv0 1 117:=by decide
 unfold xan
 rw[xaW,if_neg h0,xaW,if_neg h1]
 rfl
theorem xov (l:List Int) (h:l=[]∨l=[92]):xan l=(0,3):=by
 rcases h with rfl|rfl <;> rfl
theorem xuY (l:List Int) (h0:¬ (∃ t,l=92 :: 117 :: t)) (h1:¬ (l=[]∨l=[92])):xan l=(0,4):=by
 unfold xan
 cases l with
 | nil=>exact absurd (Or.inl rfl) h1
 | cons a t =>
  rw[xaW]
  by_cases ha:a=92
  ·subst ha
   rw[if_neg (by decide)]
   cases t with
   | nil=>exact absurd (Or.inr rfl) h1
   | cons b u =>
    rw[xaW]
    rw[if_pos (show xv0 (0+1) b from Or.inr (Or.inl ⟨rfl,fun hb=>h0 ⟨u,by rw[hb]⟩⟩))]
  ·rw[if_pos (show xv0 0 a from Or.inl ⟨rfl,ha⟩)]
theorem xu2 (f i:Nat) (c b:Int) (t:List Int) (hi:1<i) (h:xfw b<0):xaW (f+1) i c (b :: t)=(0,4):=by
 rw[xaW,if_pos (show xv0 i b from Or.inr (Or.inr ⟨hi,h⟩))]
theorem xtZ (f i:Nat) (c b:Int) (t:List Int) (hi:1<i) (h:¬ xfw b<0):xaW (f+1) i c (b :: t)=xaW f (i+1) (16*c+xfw b) t:=by
 rw[xaW,if_neg,if_pos hi]
 rintro(⟨h1,_⟩|⟨h1,_⟩|⟨_,h1⟩)
 ·omega
 ·omega
 ·exact h h1
theorem xkD (s:ByteArray) (i:Nat) (hi:i<s.size):∃ b,(bI s).drop i=b :: (bI s).drop (i+1)∧xfw (Utf8.decode s i).1=xfw b∧(¬ xfw b<0→(Utf8.decode s i).2=1):=by
 have hl:i<(bI s).length:=by rw[xah];exact hi
 refine⟨(bI s)[i],List.drop_eq_getElem_cons hl,?_⟩
 have hd:=List.drop_eq_getElem_cons hl
 generalize (bI s)[i]=b at hd ⊢
 have hhi:∀ x:Int,128≤x→xfw x=-1:=by
  intro x hx
  unfold xfw
  rw[if_neg (by omega),if_neg (by omega),if_neg (by omega)]
 have hb0:0≤b:=by
  have:=xrz s b (List.mem_of_mem_drop (i:=i) (by rw[hd];exact List.mem_cons_self))
  exact this.1
 by_cases hb:b<128
 ·have he:xa3 b=[b]:=by
   rcases xbf b with h|⟨_,_,h⟩|⟨h,_⟩|⟨h,_⟩|⟨h,_⟩
   ·have:=(xeL b).1 h;omega
   ·exact h
   all_goals omega
  have hx:=xj7 s i b ((bI s).drop (i+1)) (by rw[he];simp) (by rw[he,hd];rfl)
  rw[hx,he]
  dsimp only
  rw[Int.toNat_of_nonneg hb0]
  exact⟨rfl,fun _=>rfl⟩
 ·rw[hhi b (by omega)]
  refine⟨hhi _ ?_,fun h=>absurd (by decide) h⟩
  rcases xbL s i hi with ⟨_,h1⟩|⟨c,hc,hn,hdd⟩
  ·rw[h1];decide
  ·rw[hdd]
   dsimp only
   have h3:=xec (c:=c) (by rw[hc];exact hn)
   rw[Int.toNat_of_nonneg h3.1]
   refine Int.not_lt.1 fun hlt=>?_
   have he:xa3 c=[c]:=by
    rcases xbf c with h|⟨_,_,h⟩|⟨h,_⟩|⟨h,_⟩|⟨h,_⟩
    ·rw[h] at hc;exact absurd hc.symm hn
    ·exact h
    all_goals omega
   obtain⟨c',t,e1,e2⟩:=xc4 _ hn
   rw[← hc,he,hd] at e2
   injection e2 with e3 e4
   omega
def xdy (l:List Int) (c:Int) (n:Nat) (e:Int):Prop :=
 (e=3∧xkP l=.short)∨(e=4∧xkP l=.form)∨(e=0∧xkP l=.piece (xa3 c) n∧xa3 c≠[]∧1≤n∧n≤l.length)
theorem xlM {b:Int} {t:List Int} {c:Int} {n:Nat} (h:xkP (92 :: b :: t)=.piece (xa3 c) n):xdy (92 :: b :: t) c n 0:=by
 have hp:=xjS b t _ _ h
 exact Or.inr (Or.inr ⟨rfl,h,hp.ne,hp.one,hp.len⟩)
abbrev bp (B:Nat):Value:=.pointer (some ⟨B,0,none⟩)
abbrev OK (B:Nat) (W W':World):Prop:=Lib.OthersKept 5 (some B) W W'
def Bd (B:Nat) (out:List Int) (W:World):Prop:=Lib.IsBuilderF 254 5 B B (out.map (Value.int .u8)) W
theorem Bd.lt {B:Nat} {out:List Int} {W:World} (h:Bd B out W):B<W.heap.size:=by
 rcases h with h|h <;> exact h.lt
theorem Bd.fresh (w:World):Bd w.heap.size [] (w.alloc (.cells #[.pointer none,.slice none 0 0] 254)):=Lib.IsBuilderF.of (Lib.fresh_isBuilder 254 5 w)
theorem Bd.alloc {B:Nat} {out:List Int} {W:World} (h:Bd B out W) (o:Obj):Bd B out (W.alloc o):=Lib.IsBuilderF.alloc h o
theorem Bd.kept {B:Nat} {out:List Int} {W W':World} (h:Bd B out W) (hb:Below W.heap.size W W'):Bd B out W':=by
 have hk:∀ k o,W.heap[k]?=some o→W'.heap[k]?=some o:=fun k o hk=>by rw[hb.block k (Array.getElem?_eq_some_iff.1 hk).1];exact hk
 have one:∀ p,Lib.BuilderAtF 254 5 B B p (out.map (Value.int .u8)) W→Lib.BuilderAtF 254 5 B B p (out.map (Value.int .u8)) W':=by
  rintro p ⟨hB,v,hc,⟨ho1,ho2⟩,hne⟩
  refine⟨hB,v,hk _ _ hc,⟨ho1,?_⟩,hne⟩
  rcases ho2 with h|⟨g,cap,cur,fz,h1,h2,h3,h4⟩
  ·exact Or.inl h
  ·exact Or.inr ⟨g,cap,cur,fz,h1,h2,hk _ _ h3,h4⟩
 exact h.elim (fun x=>Or.inl (one _ x)) (fun x=>Or.inr (one _ x))
theorem xAk (B:Nat) (out:List Int) (s:ByteArray) (W:World) (h:Bd B out W) (hl:out.length≤1000000) (hs:s.size≤1000000):Calls Tryz.prog 146 #[bp B,.string s] W fun e W'=>e=.returned (.tuple #[.int .i64 s.size,.nilIface])∧Bd B (out++bI s) W'∧Below B W W'∧OK B W W':=by
 refine(Any.Builder_WriteString_k bwL bwLX B B _ s W h (by rw[List.length_map];omega) (Nat.le_of_lt h.lt)).mono ?_
 rintro e W' ⟨he,h1,h2,h3⟩
 have e2:(bI s).map (Value.int .u8)=Lib.strCells s:=by unfold bI Lib.strCells;rw[List.map_map];rfl
 exact⟨he,by unfold Bd;rw[List.map_append,e2];exact Or.inr h1,h2,h3⟩
theorem xnT (c:Int) (h:xa3 c≠[]):Lib.runeCells c=(xa3 c).map (Value.int .u8):=by
 unfold Lib.runeCells
 congr 1
 unfold Lib.encodeRuneZ xa3
 have h1:=mt (xeL c).2 h
 rw[if_neg h1]
 by_cases a:c<128
 ·rw[if_pos a,if_pos (by omega)]
 rw[if_neg a,if_neg (by omega)]
 by_cases b:c<2048
 ·rw[if_pos b,if_pos (by omega)]
 rw[if_neg b,if_neg (by omega)]
 by_cases d:c<65536
 ·rw[if_pos d,if_pos (by omega)]
 rw[if_neg d,if_neg (by omega),if_pos (by omega)]
theorem xzp (B:Nat) (out:List Int) (c:Int) (W:World) (h:Bd B out W) (hc:xa3 c≠[]) (hl:out.length≤1000000):Calls Tryz.prog 314 #[bp B,.int .i32 c] W fun e W'=>e=.returned (.tuple #[.int .i64 (xa3 c).length,.nilIface])∧Bd B (out++xa3 c) W'∧Below B W W'∧OK B W W':=by
 have h1:=xec hc
 refine(Any.Builder_WriteRune_k brL brLX B B _ c (by omega) (by omega) W h (by rw[List.length_map];omega) (Nat.le_of_lt h.lt)).mono ?_
 rintro e W' ⟨he,h1,h2,h3⟩
 rw[xnT c hc] at he h1
 rw[List.length_map] at he
 exact⟨he,by unfold Bd;rw[List.map_append];exact Or.inr h1,h2,h3⟩
theorem xAg (B:Nat) (out:List Int) (W:World) (h:Bd B out W) (hb:∀ b ∈ out,0≤b∧b<256):Calls Tryz.prog 147 #[bp B] W fun e W'=>e=.returned (.string (str out))∧Below B W W':=by
 have e2:out.map (Value.int .u8)=Lib.byteCells (str out).data.toList:=by
  unfold Lib.byteCells
  rw[xbF,List.map_map]
  apply List.map_congr_left
  intro b hm
  have:=hb b hm
  simp only[Function.comp,UInt8.toNat_ofNat']
  congr 1
  omega
 have h':Lib.IsBuilderF 254 5 B B (Lib.byteCells (str out).data.toList) W:=by rw[← e2];exact h
 refine(Any.Builder_String_any_k bsL bsLX B B _ W h' (Nat.le_of_lt h.lt)).mono ?_
 rintro e W' ⟨he,_,h2,_⟩
 exact⟨he,h2⟩
theorem xqr (s p:ByteArray) (w:World):Calls Tryz.prog 280 #[.string s,.string p] w fun e w'=>e=.returned (.bool (Lib.hasPrefix s.data.toList p.data.toList))∧w'=w:=Any.strings_HasPrefix hpL s p w
theorem xvU (s p:ByteArray) (w:World):Calls Tryz.prog 364 #[.string s,.string p] w fun e w'=>e=.returned (.tuple #[.string ⟨(Lib.trimPrefix s.data.toList p.data.toList).toArray⟩,.bool (Lib.hasPrefix s.data.toList p.data.toList)])∧w'=w:=Any.strings_CutPrefix cpL s p w
def xlg (s:ByteArray) (r:Int):Bool:=decide (r=65533) && !(Lib.hasPrefix s.data.toList [239,191,189])
theorem xhX (s:ByteArray) (r:Int) (w:World):Calls Tryz.prog 341 #[.string s,.int .i32 r] w fun e w'=>e=.returned (.bool (xlg s r))∧Below w.heap.size w w':=by
 by_cases hr:r=65533
 ·have e:xlg s r=!(Lib.hasPrefix s.data.toList [239,191,189]):=by unfold xlg;rw[decide_eq_true hr,Bool.true_and]
  rw[e]
  subst hr
  have H:=lH (fun W=>xqr s { data:=#[239,191,189] } W)
  go_enter Tryz.func341,Tryz.ntmps341
  go_wp2_with fail
  refine(H.out _).mono ?_
  rintro e w' ⟨rfl,rfl⟩
  go_wp2_with fail
  go_ret
  exact⟨rfl,by go_grown⟩
 ·have e:xlg s r=false:=by unfold xlg;rw[decide_eq_false hr,Bool.false_and]
  rw[e]
  go_enter Tryz.func341,Tryz.ntmps341
  go_wp2_with fail
  go_ret
  exact⟨rfl,by go_grown⟩
def xqd (b:Int):Int:=if b=34 then 34 else if b=92 then 92 else if b=47 then 47 else if b=98 then 8 else if b=102 then 12 else if b=110 then 10 else if b=114 then 13 else if b=116 then 9 else 0
theorem xzO (b:Int):xvm b=if xqd b=0 then none else some (xqd b):=by
 unfold xvm xqd
 repeat' split
 all_goals first|rfl|omega
theorem xw1 (c:Int) (w:World):Calls Tryz.prog 342 #[.int .i32 c] w fun e w'=>e=.returned (.int .i32 (xqd c))∧Below w.heap.size w w':=by
 go_enter Tryz.func342,Tryz.ntmps342
 unfold xqd
 by_cases h1:c=34
 ·subst h1;go_wp2_with fail;go_ret;exact⟨rfl,by go_grown⟩
 by_cases h2:c=92
 ·subst h2;go_wp2_with fail;go_ret;exact⟨rfl,by go_grown⟩
 by_cases h3:c=47
 ·subst h3;go_wp2_with fail;go_ret;exact⟨rfl,by go_grown⟩
 by_cases h4:c=98
 ·subst h4;go_wp2_with fail;go_ret;exact⟨rfl,by go_grown⟩
 by_cases h5:c=102
 ·subst h5;go_wp2_with fail;go_ret;exact⟨rfl,by go_grown⟩
 by_cases h6:c=110
 ·subst h6;go_wp2_with fail;go_ret;exact⟨rfl,by go_grown⟩
 by_cases h7:c=114
 ·subst h7;go_wp2_with fail;go_ret;exact⟨rfl,by go_grown⟩
 by_cases h8:c=116
 ·subst h8;go_wp2_with fail;go_ret;exact⟨rfl,by go_grown⟩
 rw[if_neg h1,if_neg h2,if_neg h3,if_neg h4,if_neg h5,if_neg h6,if_neg h7,if_neg h8]
 go_wp2_with fail;go_ret;exact⟨rfl,by go_grown⟩
theorem xrO (c:Int) (w:World) (h0:-1000≤c) (hm:c≤2000000):Calls Tryz.prog 365 #[.int .i32 c] w fun e w'=>e=.returned (.int .i32 (xfw c))∧Below w.heap.size w w':=by
 go_enter Tryz.func365,Tryz.ntmps365
 unfold xfw
 by_cases h1:48≤c∧c≤57
 ·obtain⟨a,b⟩:=h1
  have wr:IntKind.i32.wrap (c - 48)=c - 48:=by rw[IntKind.wrap_i32];omega
  rw[if_pos ⟨a,b⟩];go_wp2_with fail;go_ret;exact⟨rfl,by go_grown⟩
 by_cases h2:97≤c∧c≤102
 ·obtain⟨a,b⟩:=h2
  have g1:¬ c≤57:=by omega
  have g0:(48:Int)≤c:=by omega
  have wr:IntKind.i32.wrap (c - 97)=c - 97:=by rw[IntKind.wrap_i32];omega
  have wr2:IntKind.i32.wrap (c - 97+10)=c - 87:=by rw[IntKind.wrap_i32];omega
  rw[if_neg h1,if_pos ⟨a,b⟩];clear h1;go_wp2_with fail;go_ret;exact⟨rfl,by go_grown⟩
 by_cases h3:65≤c∧c≤70
 ·obtain⟨a,b⟩:=h3
  have g1:¬ c≤57:=by omega
  have g0:(48:Int)≤c:=by omega
  have g2:¬ (97:Int)≤c:=by omega
  have wr:IntKind.i32.wrap (c - 65)=c - 65:=by rw[IntKind.wrap_i32];omega
  have wr2:IntKind.i32.wrap (c - 65+10)=c - 55:=by rw[IntKind.wrap_i32];omega
  rw[if_neg h1,if_neg h2,if_pos ⟨a,b⟩];clear h1 h2;go_wp2_with fail;go_ret;exact⟨rfl,by go_grown⟩
 rw[if_neg h1,if_neg h2,if_neg h3]
 by_cases a1:c<48
 ·have q1:¬ (48:Int)≤c:=by omega
  have q2:¬ (97:Int)≤c:=by omega
  have q3:¬ (65:Int)≤c:=by omega
  clear h1 h2 h3
  go_wp2_with fail;go_ret;exact⟨rfl,by go_grown⟩
 have q1:(48:Int)≤c:=by omega
 have q2:¬ c≤(57:Int):=by omega
 by_cases a2:c<65
 ·have q3:¬ (97:Int)≤c:=by omega
  have q4:¬ (65:Int)≤c:=by omega
  clear h1 h2 h3
  go_wp2_with fail;go_ret;exact⟨rfl,by go_grown⟩
 have q5:(65:Int)≤c:=by omega
 have q6:¬ c≤(70:Int):=by omega
 by_cases a3:c<97
 ·have q3:¬ (97:Int)≤c:=by omega
  clear h1 h2 h3
  go_wp2_with fail;go_ret;exact⟨rfl,by go_grown⟩
 have q7:(97:Int)≤c:=by omega
 have q8:¬ c≤(102:Int):=by omega
 clear h1 h2 h3
 go_wp2_with fail;go_ret;exact⟨rfl,by go_grown⟩
theorem xht (s:ByteArray) (i:Nat) (hi:i<s.size):xlg (s.extract i s.size) (Utf8.decode s i).1=decide (xaw ((bI s).drop i)=[]):=by
 have h:=xud s i hi
 unfold xlg
 by_cases hl:xaw ((bI s).drop i)=[]
 ·obtain⟨h1,h2⟩:=h.2 hl
  rw[h1,h2,decide_eq_true hl];rfl
 ·rw[decide_eq_false hl]
  cases hd:decide (((Utf8.decode s i).1:Int)=65533) with
  | false=>rfl
  | true =>
   cases hp:Lib.hasPrefix (s.extract i s.size).data.toList [239,191,189] with
   | true=>rfl
   | false=>exact absurd (h.1 ⟨of_decide_eq_true hd,hp⟩) hl
theorem xrl (s:ByteArray) (n:Nat) (T:Int) (k:Nat) (hk:¬ k<s.size) (h:T=xuT n (xas ((bI s).drop k))):T=n:=by
 rw[List.drop_of_length_le (by rw[xah];omega),xkg] at h
 rw[h];unfold xuT;rw[if_neg (by omega)];omega
theorem xlu (s:ByteArray) (k:Nat) (hk:k<s.size):(bI s).drop k≠[]:=by
 intro e
 have:=congrArg List.length e
 rw[List.length_drop,xah] at this
 simp at this
 omega
theorem xqU (s:ByteArray) (n:Nat) (T:Int) (k:Nat) (hk:k<s.size) (hl:xaw ((bI s).drop k)=[]) (h:T=xuT n (xas ((bI s).drop k))):T=-1:=by
 rw[xfi (xlu s k hk),if_pos hl] at h
 rw[h];rfl
theorem xuf (s:ByteArray) (n:Nat) (T:Int) (k:Nat) (hk:k<s.size) (hl:xaw ((bI s).drop k)≠[]) (h:T=xuT n (xas ((bI s).drop k))):T=xuT (n+1) (xas ((bI s).drop (k+(Utf8.decode s k).2))):=by
 rw[xfi (xlu s k hk),if_neg hl,List.drop_drop,← (xhD s k hk hl).1] at h
 rw[h]
 unfold xuT
 by_cases hc:xas ((bI s).drop (k+(Utf8.decode s k).2))<0
 ·rw[if_pos hc,if_pos (by omega),if_pos hc]
 ·rw[if_neg hc,if_neg (by omega),if_neg hc];omega
theorem xoj (s:ByteArray) (w:World) (hs:s.size≤100000):Calls Tryz.prog 372 #[.string s] w fun e w'=>e=.returned (.int .i64 (xas (bI s)))∧Below w.heap.size w w':=by
 obtain⟨T,hT⟩:∃ T,xas (bI s)=T:=⟨_,rfl⟩
 rw[hT]
 have H0:Hid (T=xuT 0 (xas ((bI s).drop 0))):=lH (by
  have h2:-1≤xas (bI s):=xes (bI s).length (bI s)
  unfold xuT
  rw[List.drop_zero,← hT]
  split <;> omega)
 clear hT
 go_enter Tryz.func372,Tryz.ntmps372
 go_wp2_with fail
 go_loopw [3] (fun i wr=>∃ (k n:Nat),i=.int .i64 n∧n≤k∧Hid (T=xuT n (xas ((bI s).drop k)))∧Hid (wr.heap[w.heap.size]?=some (.stringIter s k))∧Hid (Below w.heap.size w wr)) (fun _ wr=>s.size - wr.iterPos w.heap.size)
 case atStart=>exact⟨0,0,rfl,Nat.le_refl _,H0,lH (World.iter_heap _ _ _),lH ((Below.refl _ _).alloc (Nat.le_refl _) _)⟩
 case round =>
  obtain⟨k,n,rfl,hnk,HT,HIT,HB⟩:=hrel
  by_cases hp:k<s.size
  ·have hnx:=fun ty=>Lib.run_next_any_at (P:=Tryz.prog) wr w.heap.size s k ty HIT.out hp
   have hbd:=xqm s k hp
   have HL:=lH (fun W=>xhX (s.extract k s.size) (Utf8.decode s k).1 W)
   rw[xht s k hp] at HL
   have HW:=lH (Lib.iterAt_heap wr w.heap.size s k (k+(Utf8.decode s k).2) HIT.out)
   have HB2:=lH (Lib.below_iterAt HB.out (k:=w.heap.size) (Nat.le_refl _) s (k+(Utf8.decode s k).2))
   have hk1:(k:Int)≤(s.size:Int):=by omega
   by_cases hl:xaw ((bI s).drop k)=[]
   ·have HF:=lH (xqU s n T k hp hl HT.out)
    rw[decide_eq_true hl] at HL
    generalize Utf8.decode s k=d at *
    clear hbd hl
    go_wp2_with fail
    refine(HL.out _).mono ?_
    rintro e w2 ⟨rfl,hb2⟩
    have HB3:=lH (HB2.out.trans (hb2.mono HB2.out.size))
    clear hb2
    go_wp2_with fail
    refine bodyPost_ret (v:=.int .i64 (-1)) (by simp[results,Tryz.results372,go_sem]) rfl ⟨by rw[HF.out],HB3.out⟩
   ·have HF:=lH (xuf s n T k hp hl HT.out)
    rw[decide_eq_false hl] at HL
    generalize Utf8.decode s k=d at *
    have HD:=lH hbd
    clear hbd hl
    go_wp2_with fail
    refine(HL.out _).mono ?_
    rintro e w2 ⟨rfl,hb2⟩
    have HB3:=lH (HB2.out.trans (hb2.mono HB2.out.size))
    have HW2:Hid (w2.heap[w.heap.size]?=some (.stringIter s (k+d.2))):=lH (by rw[hb2.block _ (Array.getElem?_eq_some_iff.1 HW.out).1];exact HW.out)
    clear hb2
    go_wp2_with fail
    go_roundw
    case rel=>exact⟨k+d.2,n+1,by go_num,by have:=HD.out;omega,HF,HW2,HB3⟩
    case measure =>
     have:=HD.out
     simp only[World.iterPos,HW2.out,HIT.out]
     omega
  ·have hnx:=fun ty=>Lib.run_next_end_at (P:=Tryz.prog) wr w.heap.size s k ty HIT.out hp
   have HF:=lH (xrl s n T k hp HT.out)
   go_wp2_with fail
   go_ret
   exact⟨by rw[HF.out];rfl,HB.out⟩
theorem xh0 (s:ByteArray) (w:World) (hs:s.size≤100000):Calls Tryz.prog 355 #[.string s] w fun e w'=>e=.returned (.bool (decide (0≤xas (bI s))))∧Below w.heap.size w w':=by
 have HC:=lH (xoj s w hs)
 generalize xas (bI s)=c at *
 go_enter Tryz.func355,Tryz.ntmps355
 go_wp2_with fail
 refine HC.out.mono ?_
 rintro e w2 ⟨rfl,hb2⟩
 go_wp2_with fail
 go_ret
 exact⟨rfl,hb2⟩
structure QInv (s:ByteArray) (k:Nat) (out:List Int):Prop where
 le:k≤s.size
 cnt:xas (bI s)<0↔xas ((bI s).drop k)<0
 out_:out=34 :: xdp ((bI s).take k)
theorem QInv.zero (s:ByteArray):QInv s 0 ([]++[34]):=⟨Nat.zero_le _,by rw[List.drop_zero],by rw[List.take_zero];rfl⟩
theorem QInv.len {s:ByteArray} {k:Nat} {out:List Int} (h:QInv s k out):out.length≤6*s.size+1:=by
 have h1:=xhF ((bI s).take k)
 have h2:((bI s).take k).length≤s.size:=by rw[List.length_take,xah];omega
 rw[h.out_,List.length_cons]
 omega
theorem QInv.bad {s:ByteArray} {k:Nat} {out:List Int} (h:QInv s k out) (hk:k<s.size) (hl:xaw ((bI s).drop k)=[]):xkL (bI s)=([],4):=by
 have h1:xas (bI s)<0:=h.cnt.2 (by rw[xfi (xlu s k hk),if_pos hl];decide)
 unfold xkL
 rw[if_pos h1]
theorem QInv.fin {s:ByteArray} {k:Nat} {out:List Int} (h:QInv s k out) (hk:¬ k<s.size):xkL (bI s)=(out++[34],0):=by
 have e:k=s.size:=by have:=h.le;omega
 have h1:¬ xas (bI s)<0:=by
  rw[h.cnt,List.drop_of_length_le (by rw[xah];omega),xkg]
  decide
 unfold xkL
 rw[if_neg h1,h.out_,List.take_of_length_le (by rw[xah];omega)]
theorem QInv.byte {s:ByteArray} {k:Nat} {out:List Int} (h:QInv s k out) (hk:¬ k<s.size):∀ b ∈ out++[34],0≤b∧b<256:=by
 have hq:=h.fin hk
 have hc:¬ xas (bI s)<0:=by
  intro hc
  unfold xkL at hq
  rw[if_pos hc] at hq
  injection hq with h1 h2
  cases h2
 obtain⟨n,hv,_⟩:=xmw (l:=bI s) (by omega)
 have e:k=s.size:=by have:=h.le;omega
 have ht:(bI s).take k=bI s:=List.take_of_length_le (by rw[xah];omega)
 intro b hb
 rw[h.out_,ht] at hb
 rcases List.mem_append.1 hb with hb|hb
 ·rcases List.mem_cons.1 hb with rfl|hb
  ·decide
  ·have:=xlG hv b hb;omega
 ·rw[List.mem_singleton] at hb;subst hb;decide
def xjH (s:ByteArray):ByteArray:=⟨(s.data.toList.drop 2).toArray⟩
theorem xm4 (s:ByteArray):bI (xjH s)=(bI s).drop 2:=by
 unfold bI xjH
 rw[List.map_drop]
theorem xus (s:ByteArray) (h:Lib.hasPrefix s.data.toList [92,117]=true):(⟨(Lib.trimPrefix s.data.toList [92,117]).toArray⟩:ByteArray)=xjH s:=by
 unfold Lib.trimPrefix xjH;rw[if_pos h];rfl
theorem xyj (s:ByteArray) (h:Lib.hasPrefix s.data.toList [92,117]=true):bI s=92 :: 117 :: bI (xjH s):=by
 obtain⟨t,ht⟩:=(xdz _ _).1 h
 rw[xm4]
 unfold bI
 rw[ht];rfl
theorem xv9 (s:ByteArray) (h:Lib.hasPrefix s.data.toList [92,117]=false):¬ ∃ t,bI s=92 :: 117 :: t:=by
 rintro⟨t,ht⟩
 have:Lib.hasPrefix s.data.toList [92,117]=true:=(xdz _ _).2 ⟨t,ht⟩
 rw[this] at h;cases h
theorem xAl (s:ByteArray) (h0:Lib.hasPrefix s.data.toList [92,117]=false) (h:Lib.hasPrefix [92,117] s.data.toList=true):bI s=[]∨bI s=[92]:=by
 obtain⟨t,ht⟩:=(xdz _ _).1 h
 have e:[(92:Int),117]=bI s++t:=ht
 have n:=xv9 s h0
 cases hb:bI s with
 | nil=>exact Or.inl rfl
 | cons a u =>
  rw[hb] at e
  injection e with e1 e2
  cases u with
  | nil=>right;rw[← e1]
  | cons b v =>
   injection e2 with e3 e4
   exact absurd ⟨v,by rw[hb,← e1,← e3]⟩ n
theorem xBp (s:ByteArray) (h:Lib.hasPrefix [92,117] s.data.toList=false):¬ (bI s=[]∨bI s=[92]):=by
 intro hq
 have:Lib.hasPrefix [92,117] s.data.toList=true:=by
  rcases hq with hq|hq
  ·exact(xdz _ _).2 ⟨[92,117],by show _=bI s++_;rw[hq];rfl⟩
  ·exact(xdz _ _).2 ⟨[117],by show _=bI s++_;rw[hq];rfl⟩
 rw[this] at h;cases h
def xnN (s:ByteArray):Value:=.tuple #[.int .i32 (xan (bI s)).1,.int .i64 (xan (bI s)).2]
theorem xxb (s:ByteArray) (w:World) (h0:Lib.hasPrefix s.data.toList [92,117]=false):Calls Tryz.prog 343 #[.string s] w fun e w'=>e=.returned (xnN s)∧Below w.heap.size w w':=by
 have H:=lH (fun W=>xvU s { data:=#[92,117] } W)
 have H2:=lH (fun W=>xqr { data:=#[92,117] } s W)
 rw[show ({ data:=#[92,117] }:ByteArray).data.toList=[92,117] from rfl] at H H2
 rw[h0] at H
 unfold xnN
 cases h1:Lib.hasPrefix [92,117] s.data.toList with
 | true =>
  rw[h1] at H2
  have hv:=xov _ (xAl s h0 h1)
  rw[hv]
  clear hv h0 h1
  go_enter Tryz.func343,Tryz.ntmps343
  go_wp2_with fail
  refine(H.out _).mono ?_
  rintro e w' ⟨rfl,rfl⟩
  go_wp2_with fail
  refine(H2.out _).mono ?_
  rintro e w' ⟨rfl,rfl⟩
  go_wp2_with fail
  refine bodyPost_ret (v:=.tuple #[.int .i32 0,.int .i64 3]) (by simp[results,Tryz.results343,go_sem]) rfl ⟨rfl,by go_grown⟩
 | false =>
  rw[h1] at H2
  have hv:=xuY _ (xv9 s h0) (xBp s h1)
  rw[hv]
  clear hv h0 h1
  go_enter Tryz.func343,Tryz.ntmps343
  go_wp2_with fail
  refine(H.out _).mono ?_
  rintro e w' ⟨rfl,rfl⟩
  go_wp2_with fail
  refine(H2.out _).mono ?_
  rintro e w' ⟨rfl,rfl⟩
  go_wp2_with fail
  refine bodyPost_ret (v:=.tuple #[.int .i32 0,.int .i64 4]) (by simp[results,Tryz.results343,go_sem]) rfl ⟨rfl,by go_grown⟩
theorem xxz (x y:Int) (hx₀:0≤x) (hx:x % 16=0) (hx₁:x<2147483648) (h₀:0≤y) (h₁:y<16):bits .or .i32 x y=x+y :=
 bits_join .i32 31 (by decide) wraps_i32 4 x y hx₀ hx hx₁ h₀ h₁ (by omega)
def xxL (t:ByteArray) (F:Int × Int) (k:Nat) (c:Int):Prop:=k≤t.size∧t.size≤4∧F=xaW (4 - k) (2+k) c ((bI t).drop k)∧0≤c∧c<16 ^ k
def min4 (r:ByteArray):Nat:=if r.size<4 then r.size else 4
theorem xr4 (r:ByteArray):xxL (r.extract 0 (min4 r)) (xaW 4 2 0 (bI r)) 0 0∧(r.extract 0 (min4 r)).size=min4 r:=by
 have hm:min4 r≤r.size∧min4 r≤4:=by unfold min4;split <;> omega
 have hs:(r.extract 0 (min4 r)).size=min4 r:=by rw[ByteArray.size_extract];omega
 refine⟨⟨Nat.zero_le _,by rw[hs];exact hm.2,?_,by decide,by decide⟩,hs⟩
 rw[xca _ _ _ (Nat.zero_le _),List.drop_zero,List.drop_zero]
 by_cases h:r.size<4
 ·unfold min4
  rw[if_pos h,List.take_of_length_le (by rw[xah];omega)]
 ·unfold min4
  rw[if_neg h]
  have:=xeI 4 2 0 (bI r) [] (by rw[xah];omega)
  rw[List.append_nil] at this
  exact this.symm
theorem xvf {t:ByteArray} {F:Int × Int} {k:Nat} {c:Int} (h:xxL t F k c) (hk:k<t.size) (hd:xfw (Utf8.decode t k).1<0):F=(0,4):=by
 obtain⟨h1,h2,h3,h4,h5⟩:=h
 obtain⟨b,e1,e2,e3⟩:=xkD t k hk
 rw[h3,e1,show 4 - k=(3 - k)+1 by omega]
 exact xu2 _ _ _ _ _ (by omega) (by rw[← e2];exact hd)
theorem xqf {t:ByteArray} {F:Int × Int} {k:Nat} {c:Int} (h:xxL t F k c) (hk:k<t.size) (hd:¬ xfw (Utf8.decode t k).1<0):(Utf8.decode t k).2=1∧xxL t F (k+1) (16*c+xfw (Utf8.decode t k).1)∧c<4096:=by
 obtain⟨h1,h2,h3,h4,h5⟩:=h
 obtain⟨b,e1,e2,e3⟩:=xkD t k hk
 rw[e2] at hd ⊢
 have hb:=xq1 b
 refine⟨e3 hd,⟨by omega,h2,?_,by omega,?_⟩,?_⟩
 ·rw[h3,e1,show 4 - k=(3 - k)+1 by omega,xtZ _ _ _ _ _ (by omega) hd,show 4 - (k+1)=3 - k by omega,show 2+(k+1)=2+k+1 by omega]
 ·rw[Int.pow_succ];omega
 ·rcases(by omega:k=0∨k=1∨k=2∨k=3) with rfl|rfl|rfl|rfl
  all_goals (simp only[Int.reducePow] at h5;omega)
theorem xtQ {t:ByteArray} {F:Int × Int} {k:Nat} {c:Int} (h:xxL t F k c) (hk:¬ k<t.size):(t.size<4→F=(0,3))∧(¬ t.size<4→F=(c,0)):=by
 obtain⟨h1,h2,h3,h4,h5⟩:=h
 have e:(bI t).drop k=[]:=List.drop_of_length_le (by rw[xah];omega)
 rw[e] at h3
 constructor
 ·intro h
  rw[h3,show 4 - k=(3 - k)+1 by omega];rfl
 ·intro h
  rw[h3,show 4 - k=0 by omega];rfl
theorem xtV (s:ByteArray) (w:World) (hs:s.size≤100000) (h0:Lib.hasPrefix s.data.toList [92,117]=true):Calls Tryz.prog 343 #[.string s] w fun e w'=>e=.returned (xnN s)∧Below w.heap.size w w':=by
 have H:=lH (fun W=>xvU s { data:=#[92,117] } W)
 rw[show ({ data:=#[92,117] }:ByteArray).data.toList=[92,117] from rfl,h0,xus s h0] at H
 have HF:Hid (xan (bI s)=xaW 4 2 0 (bI (xjH s))):=lH (by rw[xyj s h0,xve])
 have hrs:(xjH s).size≤100000:=by
  have:=congrArg List.length (xm4 s)
  rw[List.length_drop,xah,xah] at this
  omega
 unfold xnN
 rw[HF.out]
 clear HF h0 hs
 generalize xjH s=r at *
 obtain⟨hu,hsz⟩:=xr4 r
 obtain⟨F,hF⟩:∃ F,xaW 4 2 0 (bI r)=F:=⟨_,rfl⟩
 rw[hF] at hu ⊢
 clear hF
 have hm:min (4:Int) ((r.size:Nat):Int)=(min4 r:Int):=by unfold min4;split <;> omega
 have HM:Hid (min4 r≤r.size∧min4 r≤4∧(min4 r<4↔r.size<4)):=lH (by unfold min4;split <;> omega)
 generalize min4 r=m at *
 have HU:=lH hu
 have HSZ:=lH hsz
 clear hu hsz
 have hm1:=HM.out.1
 go_enter Tryz.func343,Tryz.ntmps343
 go_wp2_with fail
 refine(H.out _).mono ?_
 rintro e w' ⟨rfl,rfl⟩
 go_wp2_with fail
 have T0:(m:Int).toNat=m:=rfl
 go_loopw [6] (fun i wr=>∃ (k:Nat) (c:Int),i=.int .i32 c∧Hid (xxL (r.extract 0 m) F k c)∧Hid (wr.heap[w'.heap.size]?=some (.stringIter (r.extract 0 m) k))∧Hid (Below w'.heap.size w' wr)) (fun _ wr=>(r.extract 0 m).size - wr.iterPos w'.heap.size)
 case atStart=>exact⟨0,0,rfl,HU,lH (World.iter_heap _ _ _),lH ((Below.refl _ _).alloc (Nat.le_refl _) _)⟩
 case round =>
  obtain⟨k,c,rfl,HI,HIT,HB⟩:=hrel
  have HSZ2:=HSZ
  generalize r.extract 0 m=t at *
  by_cases hp:k<t.size
  ·have hnx:=fun ty=>Lib.run_next_any_at (P:=Tryz.prog) wr w'.heap.size t k ty HIT.out hp
   have hbd:=xqm t k hp
   have HD:=lH (fun W=>xrO (Utf8.decode t k).1 W (by omega) (by omega))
   have HW:=lH (Lib.iterAt_heap wr w'.heap.size t k (k+(Utf8.decode t k).2) HIT.out)
   have HB2:=lH (Lib.below_iterAt HB.out (k:=w'.heap.size) (Nat.le_refl _) t (k+(Utf8.decode t k).2))
   by_cases hd:xfw (Utf8.decode t k).1<0
   ·have hF:=xvf HI.out hp hd
    generalize Utf8.decode t k=d at *
    have HF:=lH hF
    clear hbd hF
    go_wp2_with fail
    refine(HD.out _).mono ?_
    rintro e w2 ⟨rfl,hb2⟩
    have HB3:=lH (HB2.out.trans (hb2.mono HB2.out.size))
    clear hb2
    go_wp2_with fail
    refine bodyPost_ret (v:=.tuple #[.int .i32 0,.int .i64 4]) (by simp[results,Tryz.results343,go_sem]) rfl ⟨by rw[HF.out],HB3.out⟩
   ·obtain⟨hw1,hI2,hc4⟩:=xqf HI.out hp hd
    have hc0:=HI.out.2.2.2.1
    have hdl:=xq1 (Utf8.decode t k).1
    generalize hg:xfw (Utf8.decode t k).1=g at *
    have hs4:IntKind.i32.wrap (c*16)=c*16:=by rw[IntKind.wrap_i32];omega
    have ho:=xxz (c*16) g (by omega) (by omega) (by omega) (by omega) (by omega)
    have HI2:=lH (show xxL t F (k+1) (c*16+g) by rw[Int.mul_comm c 16];exact hI2)
    generalize Utf8.decode t k=d at *
    have HW1:=lH hw1
    clear hbd hdl hg hI2 hc4 hc0 hw1
    go_wp2_with fail
    refine(HD.out _).mono ?_
    rintro e w2 ⟨rfl,hb2⟩
    have HB3:=lH (HB2.out.trans (hb2.mono HB2.out.size))
    have HW2:Hid (w2.heap[w'.heap.size]?=some (.stringIter t (k+d.2))):=lH (by rw[hb2.block _ (Array.getElem?_eq_some_iff.1 HW.out).1];exact HW.out)
    clear hb2
    go_wp2_with fail
    go_roundw
    case rel=>exact⟨k+1,c*16+g,rfl,HI2,by rw[← HW1.out];exact HW2,HB3⟩
    case measure =>
     simp only[World.iterPos,HW2.out,HIT.out,HW1.out]
     omega
  ·have hnx:=fun ty=>Lib.run_next_end_at (P:=Tryz.prog) wr w'.heap.size t k ty HIT.out hp
   have he:=xtQ HI.out hp
   rw[HSZ.out] at he
   by_cases h4:m<4
   ·have h4':r.size<4:=HM.out.2.2.1 h4
    have HF:=lH (he.1 h4)
    have h5:((r.size:Nat):Int)<4:=by omega
    clear he h4 h4'
    go_wp2_with fail
    refine bodyPost_ret (v:=.tuple #[.int .i32 0,.int .i64 3]) (by simp[results,Tryz.results343,go_sem]) rfl ⟨by rw[HF.out],HB.out⟩
   ·have h4':¬ r.size<4:=fun h=>h4 (HM.out.2.2.2 h)
    have HF:=lH (he.2 h4)
    have h5:¬ ((r.size:Nat):Int)<4:=by omega
    clear he h4 h4'
    go_wp2_with fail
    refine bodyPost_ret (v:=.tuple #[.int .i32 c,.int .i64 0]) (by simp[results,Tryz.results343,go_sem]) rfl ⟨by rw[HF.out],HB.out⟩
theorem xmH (s:ByteArray) (w:World) (hs:s.size≤100000):Calls Tryz.prog 343 #[.string s] w fun e w'=>e=.returned (xnN s)∧Below w.heap.size w w':=by
 cases h:Lib.hasPrefix s.data.toList [92,117] with
 | true=>exact xtV s w hs h
 | false=>exact xxb s w h
def xfk (l:List Int) (w:World) (e:Ending) (w':World):Prop:=(∃ (c:Int) (n:Nat) (er:Int),e=.returned (.tuple #[.int .i32 c,.int .i64 n,.int .i64 er])∧xdy l c n er)∧Below w.heap.size w w'
theorem xBk {a b:Int} {t:List Int} (h:xqd b≠0):xkP (a :: b :: t)=.piece (xa3 (xqd b)) 2:=by
 have h2:=xzO b
 rw[if_neg h] at h2
 rw[xdX,h2,(xsn h2).1]
theorem xBq {a b:Int} {t:List Int} (h:xqd b=0):xkP (a :: b :: t)=if (xan (a :: b :: t)).2≠0 then xph (xan (a :: b :: t)).2 else if (xan (a :: b :: t)).1<55296∨57343<(xan (a :: b :: t)).1 then .piece (xa3 (xan (a :: b :: t)).1) 6 else if 56319<(xan (a :: b :: t)).1 then .form else
   if (xan ((a :: b :: t).drop 6)).2≠0 then xph (xan ((a :: b :: t).drop 6)).2 else if (xan ((a :: b :: t).drop 6)).1<56320∨57343<(xan ((a :: b :: t).drop 6)).1 then .form
   else .piece (xa3 (65536+1024*((xan (a :: b :: t)).1 - 55296)+(xan ((a :: b :: t).drop 6)).1 - 56320)) 12:=by
 have h2:=xzO b
 rw[if_pos h] at h2
 rw[xdX,h2]
theorem xmX {b:Int} {t:List Int} {c:Int} {n:Nat} {e:Int} (h:xkP (92 :: b :: t)=xph e) (he:e=3∨e=4):xdy (92 :: b :: t) c n e:=by
 rcases he with rfl|rfl
 ·exact Or.inl ⟨rfl,h⟩
 ·exact Or.inr (Or.inl ⟨rfl,h⟩)
theorem xzF (s:ByteArray) (h:1<s.size):∃ a t,bI s=a :: ((s[1]'h).toNat:Int) :: t:=by
 have h1:=xmU s 1 h
 cases hb:bI s with
 | nil=>rw[hb] at h1;cases h1
 | cons a u =>
  cases u with
  | nil=>rw[hb] at h1;cases h1
  | cons b t =>
   rw[hb] at h1
   have:b=((s[1]'h).toNat:Int):=by simpa using h1
   exact⟨a,t,by rw[this]⟩
theorem xtF (s:ByteArray) (w:World) (hs:s.size=1) (hh:(bI s).headD 0=92):Calls Tryz.prog 313 #[.string s] w (xfk (bI s) w):=by
 have h1:(s.size:Int)=1:=by omega
 have hl:bI s=[92]:=by
  have:=xah s
  cases hb:bI s with
  | nil=>rw[hb,hs] at this;cases this
  | cons a u =>
   rw[hb] at hh this
   rw[hs] at this
   have hu:u=[]:=List.eq_nil_of_length_eq_zero (by simpa using this)
   rw[hu];rw[List.headD_cons] at hh;rw[hh]
 rw[hl]
 have HM:Hid (xdy [92] 0 0 3):=lH (Or.inl ⟨rfl,rfl⟩)
 clear hs hh hl
 unfold xfk
 go_enter Tryz.func313,Tryz.ntmps313
 go_wp2_with fail
 refine bodyPost_ret (v:=.tuple #[.int .i32 0,.int .i64 0,.int .i64 3]) (by simp[results,Tryz.results313,go_sem]) rfl ⟨⟨0,0,3,rfl,HM.out⟩,by go_grown⟩
theorem xqw (s:ByteArray) (w:World) (hs:1<s.size) (hs2:s.size≤100000) (hh:(bI s).headD 0=92):Calls Tryz.prog 313 #[.string s] w (xfk (bI s) w):=by
 have h1:¬ (s.size:Int)=1:=by omega
 have hb2:(1:Int)<(s.size:Int):=by omega
 obtain⟨a,t,hl⟩:=xzF s hs
 rw[hl,List.headD_cons] at hh
 subst hh
 have hbl:=(s[1]'hs).toNat_lt
 have HU:=lH (fun W=>xmH s W hs2)
 have HU2:=lH (fun W (h6:6≤s.size)=>xmH (s.extract 6 s.size) W (by rw[ByteArray.size_extract];omega))
 have hd6:6≤s.size→bI (s.extract 6 s.size)=((92:Int) :: ((s[1]'hs).toNat:Int) :: t).drop 6:=fun h6=>by rw[xgG s 6 h6,hl]
 have hlen:((92:Int) :: ((s[1]'hs).toNat:Int) :: t).length=s.size:=by rw[← hl,xah]
 unfold xnN at HU HU2
 rw[hl] at HU ⊢
 unfold xfk
 obtain⟨b,hbv⟩:∃ b:Int,((s[1]'hs).toNat:Int)=b:=⟨_,rfl⟩
 have hw:IntKind.i32.wrap b=b:=by rw[IntKind.wrap_i32];omega
 have HT:=lH (fun W=>xw1 b W)
 rw[hbv] at HU hd6 hlen ⊢
 clear hbl hl
 by_cases hr:xqd b=0
 ·rw[hr] at HT
  have HE:=lH (xBq (a:=92) (t:=t) hr)
  have hfe:=xiq 6 0 0 (92 :: b :: t)
  have hfl:=xla (92 :: b :: t)
  have hfn:=xif (l:=92 :: b :: t)
  by_cases he:(xan (92 :: b :: t)).2=0
  ·have hlt:=hfl he
   have h6:=hfn he
   have h6s:6≤s.size:=by rw[← hlen];exact h6
   have he2:(xan (92 :: b :: t))=((xan (92 :: b :: t)).1,0):=by rw[← he]
   generalize hr1:(xan (92 :: b :: t)).1=r at *
   rw[he2] at HU HE
   simp only[ne_eq,not_true_eq_false,if_false] at HE
   by_cases hr2:r<55296∨57343<r
   ·have HM:Hid (xdy (92 :: b :: t) r 6 0):=lH (xlM (by rw[HE.out,if_pos hr2]))
    clear hr HE hfe hfl hfn HU2 hd6 he2 he hr1 h6 h6s hlt
    by_cases hr3:r<55296
    ·clear hr2
     go_enter Tryz.func313,Tryz.ntmps313
     go_wp2_with fail
     refine(HT.out _).mono ?_
     rintro e w2 ⟨rfl,hb2⟩
     go_wp2_with fail
     refine(HU.out _).mono ?_
     rintro e w3 ⟨rfl,hb3⟩
     have HB3:=lH (hb2.trans (hb3.mono hb2.size))
     clear hb2 hb3
     go_wp2_with fail
     refine bodyPost_ret (v:=.tuple #[.int .i32 (r),.int .i64 (6),.int .i64 (0)]) (by simp[results,Tryz.results313,go_sem]) rfl ⟨⟨r,6,0,rfl,HM.out⟩,HB3.out⟩
    ·have hr4:(57344:Int)≤r:=by omega
     clear hr2
     go_enter Tryz.func313,Tryz.ntmps313
     go_wp2_with fail
     refine(HT.out _).mono ?_
     rintro e w2 ⟨rfl,hb2⟩
     go_wp2_with fail
     refine(HU.out _).mono ?_
     rintro e w3 ⟨rfl,hb3⟩
     have HB3:=lH (hb2.trans (hb3.mono hb2.size))
     clear hb2 hb3
     go_wp2_with fail
     refine bodyPost_ret (v:=.tuple #[.int .i32 (r),.int .i64 (6),.int .i64 (0)]) (by simp[results,Tryz.results313,go_sem]) rfl ⟨⟨r,6,0,rfl,HM.out⟩,HB3.out⟩
   rw[if_neg hr2] at HE
   have q1:¬ r<55296:=fun h=>hr2 (Or.inl h)
   have q2:¬ (57344:Int)≤r:=fun h=>hr2 (Or.inr (by omega))
   clear hr2
   by_cases hr3:56319<r
   ·have HM:Hid (xdy (92 :: b :: t) 0 0 4):=lH (Or.inr (Or.inl ⟨rfl,by rw[HE.out,if_pos hr3]⟩))
    have q3:(56320:Int)≤r:=by omega
    clear hr HE hfe hfl hfn HU2 hd6 he2 he hr1 h6 h6s hlt hr3
    go_enter Tryz.func313,Tryz.ntmps313
    go_wp2_with fail
    refine(HT.out _).mono ?_
    rintro e w2 ⟨rfl,hb2⟩
    go_wp2_with fail
    refine(HU.out _).mono ?_
    rintro e w3 ⟨rfl,hb3⟩
    have HB3:=lH (hb2.trans (hb3.mono hb2.size))
    clear hb2 hb3
    go_wp2_with fail
    refine bodyPost_ret (v:=.tuple #[.int .i32 (0),.int .i64 (0),.int .i64 (4)]) (by simp[results,Tryz.results313,go_sem]) rfl ⟨⟨0,0,4,rfl,HM.out⟩,HB3.out⟩
   rw[if_neg hr3] at HE
   have q3:¬ (56320:Int)≤r:=by omega
   have hd:=hd6 h6s
   have HU3:=lH (fun W=>HU2.out W h6s)
   rw[hd] at HU3
   have hfe3:=xiq 6 0 0 ((92 :: b :: t).drop 6)
   have hfl3:=xla ((92 :: b :: t).drop 6)
   have hs6:(6:Int)≤(s.size:Int):=by omega
   by_cases hg:(xan ((92 :: b :: t).drop 6)).2=0
   ·have hlt3:=hfl3 hg
    have hg2:(xan ((92 :: b :: t).drop 6))=((xan ((92 :: b :: t).drop 6)).1,0):=by rw[← hg]
    generalize hr4:(xan ((92 :: b :: t).drop 6)).1=g at *
    rw[hg2] at HU3 HE
    simp only[ne_eq,not_true_eq_false,if_false] at HE
    by_cases hr5:g<56320∨57343<g
    ·have HM:Hid (xdy (92 :: b :: t) 0 0 4):=lH (Or.inr (Or.inl ⟨rfl,by rw[HE.out,if_pos hr5]⟩))
     clear hr HE hfe hfl hfn HU2 hd6 he2 he hr1 h6 h6s hlt hr3 hd hfe3 hfl3 hg hg2 hr4 hlt3
     by_cases hr6:g<56320
     ·clear hr5
      go_enter Tryz.func313,Tryz.ntmps313
      go_wp2_with fail
      refine(HT.out _).mono ?_
      rintro e w2 ⟨rfl,hb2⟩
      go_wp2_with fail
      refine(HU.out _).mono ?_
      rintro e w3 ⟨rfl,hb3⟩
      have HB3:=lH (hb2.trans (hb3.mono hb2.size))
      clear hb2 hb3
      go_wp2_with fail
      refine(HU3.out _).mono ?_
      rintro e w4 ⟨rfl,hb4⟩
      have HB4:=lH (HB3.out.trans (hb4.mono HB3.out.size))
      clear hb4
      clear HB3
      have HB3:=HB4
      clear HB4
      go_wp2_with fail
      refine bodyPost_ret (v:=.tuple #[.int .i32 (0),.int .i64 (0),.int .i64 (4)]) (by simp[results,Tryz.results313,go_sem]) rfl ⟨⟨0,0,4,rfl,HM.out⟩,HB3.out⟩
     ·have hr7:(57344:Int)≤g:=by omega
      clear hr5
      go_enter Tryz.func313,Tryz.ntmps313
      go_wp2_with fail
      refine(HT.out _).mono ?_
      rintro e w2 ⟨rfl,hb2⟩
      go_wp2_with fail
      refine(HU.out _).mono ?_
      rintro e w3 ⟨rfl,hb3⟩
      have HB3:=lH (hb2.trans (hb3.mono hb2.size))
      clear hb2 hb3
      go_wp2_with fail
      refine(HU3.out _).mono ?_
      rintro e w4 ⟨rfl,hb4⟩
      have HB4:=lH (HB3.out.trans (hb4.mono HB3.out.size))
      clear hb4
      clear HB3
      have HB3:=HB4
      clear HB4
      go_wp2_with fail
      refine bodyPost_ret (v:=.tuple #[.int .i32 (0),.int .i64 (0),.int .i64 (4)]) (by simp[results,Tryz.results313,go_sem]) rfl ⟨⟨0,0,4,rfl,HM.out⟩,HB3.out⟩
    ·rw[if_neg hr5] at HE
     have q5:¬ g<56320:=fun h=>hr5 (Or.inl h)
     have q6:¬ (57344:Int)≤g:=fun h=>hr5 (Or.inr (by omega))
     have v1:IntKind.i32.wrap (r - 55296)=r - 55296:=by rw[IntKind.wrap_i32];omega
     have v2:IntKind.i32.wrap ((r - 55296)*1024)=(r - 55296)*1024:=by rw[IntKind.wrap_i32];omega
     have v3:IntKind.i32.wrap (65536+(r - 55296)*1024)=65536+(r - 55296)*1024:=by rw[IntKind.wrap_i32];omega
     have v4:IntKind.i32.wrap (g - 56320)=g - 56320:=by rw[IntKind.wrap_i32];omega
     have v5:IntKind.i32.wrap (65536+(r - 55296)*1024+(g - 56320))=65536+(r - 55296)*1024+(g - 56320):=by rw[IntKind.wrap_i32];omega
     have HM:Hid (xdy (92 :: b :: t) (65536+(r - 55296)*1024+(g - 56320)) 12 0):=lH (xlM (by rw[HE.out,show 65536+1024*(r - 55296)+g - 56320=65536+(r - 55296)*1024+(g - 56320) by omega]))
     clear hr HE hfe hfl hfn HU2 hd6 he2 he hr1 h6 h6s hlt hr3 hd hfe3 hfl3 hg hg2 hr4 hlt3 hr5
     go_enter Tryz.func313,Tryz.ntmps313
     go_wp2_with fail
     refine(HT.out _).mono ?_
     rintro e w2 ⟨rfl,hb2⟩
     go_wp2_with fail
     refine(HU.out _).mono ?_
     rintro e w3 ⟨rfl,hb3⟩
     have HB3:=lH (hb2.trans (hb3.mono hb2.size))
     clear hb2 hb3
     go_wp2_with fail
     refine(HU3.out _).mono ?_
     rintro e w4 ⟨rfl,hb4⟩
     have HB4:=lH (HB3.out.trans (hb4.mono HB3.out.size))
     clear hb4
     clear HB3
     have HB3:=HB4
     clear HB4
     go_wp2_with fail
     refine bodyPost_ret (v:=.tuple #[.int .i32 (65536+(r - 55296)*1024+(g - 56320)),.int .i64 (12),.int .i64 (0)]) (by simp[results,Tryz.results313,go_sem]) rfl ⟨⟨65536+(r - 55296)*1024+(g - 56320),12,0,rfl,HM.out⟩,HB3.out⟩
   ·have HM:Hid (xdy (92 :: b :: t) 0 0 (xan ((92 :: b :: t).drop 6)).2):=lH (xmX (by rw[HE.out,if_pos hg]) (hfe3.resolve_left hg))
    generalize xan ((92 :: b :: t).drop 6)=G at *
    clear hr HE hfe hfl hfn HU2 hd6 he2 he hr1 h6 h6s hlt hr3 hd hfe3 hfl3
    go_enter Tryz.func313,Tryz.ntmps313
    go_wp2_with fail
    refine(HT.out _).mono ?_
    rintro e w2 ⟨rfl,hb2⟩
    go_wp2_with fail
    refine(HU.out _).mono ?_
    rintro e w3 ⟨rfl,hb3⟩
    have HB3:=lH (hb2.trans (hb3.mono hb2.size))
    clear hb2 hb3
    go_wp2_with fail
    refine(HU3.out _).mono ?_
    rintro e w4 ⟨rfl,hb4⟩
    have HB4:=lH (HB3.out.trans (hb4.mono HB3.out.size))
    clear hb4
    clear HB3
    have HB3:=HB4
    clear HB4
    go_wp2_with fail
    refine bodyPost_ret (v:=.tuple #[.int .i32 (0),.int .i64 (0),.int .i64 (G.2)]) (by simp[results,Tryz.results313,go_sem]) rfl ⟨⟨0,0,G.2,rfl,HM.out⟩,HB3.out⟩
  ·have HM:Hid (xdy (92 :: b :: t) 0 0 (xan (92 :: b :: t)).2):=lH (xmX (by rw[HE.out,if_pos he]) (hfe.resolve_left he))
   generalize xan (92 :: b :: t)=F at *
   clear hr HE hfe hfl hfn HU2 hd6
   go_enter Tryz.func313,Tryz.ntmps313
   go_wp2_with fail
   refine(HT.out _).mono ?_
   rintro e w2 ⟨rfl,hb2⟩
   go_wp2_with fail
   refine(HU.out _).mono ?_
   rintro e w3 ⟨rfl,hb3⟩
   have HB3:=lH (hb2.trans (hb3.mono hb2.size))
   clear hb2 hb3
   go_wp2_with fail
   refine bodyPost_ret (v:=.tuple #[.int .i32 (0),.int .i64 (0),.int .i64 (F.2)]) (by simp[results,Tryz.results313,go_sem]) rfl ⟨⟨0,0,F.2,rfl,HM.out⟩,HB3.out⟩
 ·have HM:Hid (xdy (92 :: b :: t) (xqd b) 2 0):=lH (xlM (xBk hr))
  generalize xqd b=x at *
  clear HU HU2 hd6
  go_enter Tryz.func313,Tryz.ntmps313
  go_wp2_with fail
  refine(HT.out _).mono ?_
  rintro e w2 ⟨rfl,hb2⟩
  go_wp2_with fail
  refine bodyPost_ret (v:=.tuple #[.int .i32 x,.int .i64 2,.int .i64 0]) (by simp[results,Tryz.results313,go_sem]) rfl ⟨⟨x,2,0,rfl,HM.out⟩,hb2⟩
theorem xt8 (s:ByteArray) (w:World) (hs:0<s.size) (hs2:s.size≤100000) (hh:(bI s).headD 0=92):Calls Tryz.prog 313 #[.string s] w (xfk (bI s) w):=by
 by_cases h:s.size=1
 ·exact xtF s w h hh
 ·exact xqw s w (by omega) hs2 hh
def xiw (s:ByteArray) (w:World) (e:Ending) (w':World):Prop:=(∃ k:Nat,e=.returned (.int .i64 k)∧k≤s.size∧Adv (bI s) k∧¬ xlA ((bI s).drop k))∧Below w.heap.size w w'
theorem xAr (s:ByteArray) (k:Nat) (hk:¬ k<s.size):¬ xlA ((bI s).drop k):=by
 rw[List.drop_of_length_le (by rw[xah];omega)]
 rintro⟨h,_⟩
 exact h rfl
theorem xqg (s:ByteArray) (w:World) (hs:s.size≤100000):Calls Tryz.prog 312 #[.string s] w (xiw s w):=by
 unfold xiw
 go_enter Tryz.func312,Tryz.ntmps312
 go_wp2_with fail
 go_loopw [] (fun wr=>∃ (k:Nat),k≤s.size∧Hid (Adv (bI s) k)∧Hid (wr.heap[w.heap.size]?=some (.stringIter s k))∧Hid (Below w.heap.size w wr)) (fun wr=>s.size - wr.iterPos w.heap.size)
 case atStart=>exact⟨0,Nat.zero_le _,lH (xs0 _),lH (World.iter_heap _ _ _),lH ((Below.refl _ _).alloc (Nat.le_refl _) _)⟩
 case round =>
  obtain⟨k,hks,HA,HIT,HB⟩:=hrel
  by_cases hp:k<s.size
  ·have hnx:=fun ty=>Lib.run_next_any_at (P:=Tryz.prog) wr w.heap.size s k ty HIT.out hp
   have hbd:=xqm s k hp
   have HL:=lH (fun W=>xhX (s.extract k s.size) (Utf8.decode s k).1 W)
   rw[xht s k hp] at HL
   have HW:=lH (Lib.iterAt_heap wr w.heap.size s k (k+(Utf8.decode s k).2) HIT.out)
   have HB2:=lH (Lib.below_iterAt HB.out (k:=w.heap.size) (Nat.le_refl _) s (k+(Utf8.decode s k).2))
   have hk1:(k:Int)≤(s.size:Int):=by omega
   have hpl:=xz4 s k hp
   have HK:=lH hks
   clear hks
   by_cases h1:((Utf8.decode s k).1:Int)<32
   ·have HN:Hid (¬ xlA ((bI s).drop k)):=lH (fun h=>hpl.1 h (Or.inl h1))
    generalize Utf8.decode s k=d at *
    clear hbd hpl HL
    go_wp2_with fail
    go_ret
    exact⟨⟨k,rfl,HK.out,HA.out,HN.out⟩,HB2.out⟩
   by_cases h2:((Utf8.decode s k).1:Int)=34
   ·have HN:Hid (¬ xlA ((bI s).drop k)):=lH (fun h=>hpl.1 h (Or.inr (Or.inl h2)))
    generalize Utf8.decode s k=d at *
    clear hbd hpl HL
    go_wp2_with fail
    go_ret
    exact⟨⟨k,rfl,HK.out,HA.out,HN.out⟩,HB2.out⟩
   by_cases h3:((Utf8.decode s k).1:Int)=92
   ·have HN:Hid (¬ xlA ((bI s).drop k)):=lH (fun h=>hpl.1 h (Or.inr (Or.inr (Or.inl h3))))
    generalize Utf8.decode s k=d at *
    clear hbd hpl HL
    go_wp2_with fail
    go_ret
    exact⟨⟨k,rfl,HK.out,HA.out,HN.out⟩,HB2.out⟩
   by_cases hl:xaw ((bI s).drop k)=[]
   ·have HN:Hid (¬ xlA ((bI s).drop k)):=lH (fun h=>hpl.1 h (Or.inr (Or.inr (Or.inr hl))))
    rw[decide_eq_true hl] at HL
    generalize Utf8.decode s k=d at *
    clear hbd hpl hl
    go_wp2_with fail
    refine(HL.out _).mono ?_
    rintro e w2 ⟨rfl,hb2⟩
    have HB3:=lH (HB2.out.trans (hb2.mono HB2.out.size))
    clear hb2
    go_wp2_with fail
    go_ret
    exact⟨⟨k,rfl,HK.out,HA.out,HN.out⟩,HB3.out⟩
   ·have hP:xlA ((bI s).drop k):=hpl.2 (by rintro(h|h|h|h);exact h1 h;exact h2 h;exact h3 h;exact hl h)
    have HA2:=lH (xtE HA.out hP)
    rw[← (xhD s k hp hl).1] at HA2
    rw[decide_eq_false hl] at HL
    generalize Utf8.decode s k=d at *
    have HD:=lH hbd
    have b2:((d.1:Int) == 34)=false:=by simpa using h2
    have b3:((d.1:Int) == 92)=false:=by simpa using h3
    clear hbd hpl hl hP
    go_wp2_with fail
    refine(HL.out _).mono ?_
    rintro e w2 ⟨rfl,hb2⟩
    have HB3:=lH (HB2.out.trans (hb2.mono HB2.out.size))
    have HW2:Hid (w2.heap[w.heap.size]?=some (.stringIter s (k+d.2))):=lH (by rw[hb2.block _ (Array.getElem?_eq_some_iff.1 HW.out).1];exact HW.out)
    clear hb2
    go_wp2_with fail
    refine⟨⟨k+d.2,HD.out.2.2,HA2,HW2,HB3⟩,?_⟩
    have:=HD.out
    simp only[World.iterPos,HW2.out,HIT.out]
    omega
  ·have hnx:=fun ty=>Lib.run_next_end_at (P:=Tryz.prog) wr w.heap.size s k ty HIT.out hp
   have hk:k=s.size:=by omega
   have HN:Hid (¬ xlA ((bI s).drop s.size)):=lH (xAr s s.size (by omega))
   subst hk
   clear hp hks
   go_wp2_with fail
   go_ret
   exact⟨⟨s.size,rfl,Nat.le_refl _,HA.out,HN.out⟩,HB.out⟩
end Go.Proofs.YtjinnigjfopbcaaGreatDoor
