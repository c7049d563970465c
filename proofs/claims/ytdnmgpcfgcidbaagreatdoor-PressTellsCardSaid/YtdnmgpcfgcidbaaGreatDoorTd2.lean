/- dJq dJr dJs dJt dJu dJv dJw dJx dJk. -/
import Derived.Lib.Strings
import Derived.Test.YtdnmgpcfgcidbaaGreatDoorTd1
import Derived.Test.YtdnmgpcfgcidbaaGreatDoorRs
namespace Go.Proofs.YtdnmgpcfgcidbaaGreatDoor
set_option linter.unusedVariables false
set_option linter.unusedSimpArgs false
open Go.RowKit
set_option maxRecDepth 20000
theorem toNat_inj {a b:UInt8} (h:(a.toNat:Int)=(b.toNat:Int)):a=b:=UInt8.toNat_inj.1 (by omega)
theorem map_pre (p l:List UInt8):p.isPrefixOf l=true↔∃ t,l.map (fun c=>(c.toNat:Int))=p.map (fun c=>(c.toNat:Int))++t:=by
 rw[List.isPrefixOf_iff_prefix]
 constructor
 ·rintro⟨t,rfl⟩
  exact⟨t.map (fun c=>(c.toNat:Int)),by rw[List.map_append]⟩
 ·rintro⟨t,h⟩
  have e:=congrArg (List.take p.length) h
  rw[List.take_left' (by rw[List.length_map]),← List.map_take] at e
  refine⟨l.drop p.length,?_⟩
  have e2:l.take p.length=p:=List.map_inj_right (f:=fun c:UInt8=>(c.toNat:Int)) (fun x y h=>toNat_inj h) |>.1 e
  conv=>lhs;arg 1;rw[← e2]
  exact List.take_append_drop _ _
theorem bI_from (s:ByteArray) (i:Nat) (h:i≤s.size):bI (s.extract i s.size)=(bI s).drop i:=by
 rw[bI_extract s i s.size h]
 exact List.take_of_length_le (by rw[List.length_drop,bI_len];omega)
theorem enc_pos {c:Int} (h:encC c≠[]):0≤c∧c≤1114111:=by
 have:=mt (encC_nil c).2 h
 omega
theorem enc_lost:encC 65533=[239,191,189]:=by decide
theorem lost_iff (s:ByteArray) (i:Nat) (hi:i<s.size):(((Utf8.decode s i).1:Int)=65533∧Lib.hasPrefix (s.extract i s.size).data.toList [239,191,189]=false)↔runeP ((bI s).drop i)=[]:=by
 have hp:∀ t,Lib.hasPrefix (s.extract i s.size).data.toList [239,191,189]=true→(bI s).drop i=[239,191,189]++t∨∃ t,(bI s).drop i=[239,191,189]++t:=by
  intro t h
  obtain⟨t,h⟩:=(map_pre _ _).1 h
  refine Or.inr ⟨t,?_⟩
  have e:=bI_from s i (by omega)
  unfold bI at e
  rw[h] at e
  exact e.symm
 constructor
 ·rintro⟨h1,h2⟩
  rcases decode_rune s i hi with ⟨h,_⟩|⟨c,hc,hn,hd⟩
  ·exact h
  ·rw[hd] at h1
   have h3:=enc_pos (c:=c) (by rw[hc];exact hn)
   have h4:c=65533:=by dsimp only at h1;omega
   rw[h4,enc_lost] at hc
   obtain⟨c',t,e1,e2⟩:=rune_is _ hn
   have h5:Lib.hasPrefix (s.extract i s.size).data.toList [239,191,189]=true:=by
    refine(map_pre _ _).2 ⟨t,?_⟩
    have e:=bI_from s i (by omega)
    unfold bI at e
    rw[e]
    unfold bI at e2 hc
    rw[← hc] at e2
    exact e2
   rw[h5] at h2
   cases h2
 ·intro h
  rcases decode_rune s i hi with ⟨_,h1⟩|⟨c,hc,hn,hd⟩
  ·rw[h1]
   refine⟨rfl,?_⟩
   cases hq:Lib.hasPrefix (s.extract i s.size).data.toList [239,191,189] with
   | false=>rfl
   | true =>
    have:∃ t,(bI s).drop i=[239,191,189]++t:=by rcases hp [] hq with h|h;exact⟨_,h⟩;exact h
    obtain⟨t,ht⟩:=this
    have:=rune_of 65533 t (by rw[enc_lost];simp)
    rw[enc_lost,← ht,h] at this
    cases this
  ·exact absurd h hn
def PlDd (l:List Int):Prop:=runeP l≠[]∧32≤l.headD 0∧l.headD 0≠34∧l.headD 0≠92
theorem step_pl {l:List Int} (h:PlDd l):stepP l=.piece (runeP l) (runeP l).length:=by
 cases l with
 | nil=>exact absurd rfl h.1
 | cons b t =>
  obtain⟨h1,h2,h3,h4⟩:=h
  simp only[List.headD_cons] at h2 h3 h4
  rw[stepP,if_neg h3,if_neg h4,if_neg]
  rintro(h|h)
  ·exact h1 h
  ·omega
theorem step_not {l:List Int} (h:¬ PlDd l) (hl:l≠[]) (h3:l.headD 0≠34) (h4:l.headD 0≠92):stepP l=.form:=by
 cases l with
 | nil=>exact absurd rfl hl
 | cons b t =>
  simp only[List.headD_cons] at h3 h4
  rw[stepP,if_neg h3,if_neg h4,if_pos]
  refine Classical.byContradiction fun hq=>h ⟨fun e=>hq (Or.inl e),?_,h3,h4⟩
  simp only[List.headD_cons]
  exact Int.not_lt.1 fun e=>hq (Or.inr e)
def Adv (l:List Int) (k:Nat):Prop:=k≤l.length∧∀ f p out,l.length≤f→takeG f l p out=takeG f (l.drop k) (p+k) (out++l.take k)
theorem adv_zero (l:List Int):Adv l 0:=⟨Nat.zero_le _,fun f p out _=>by rw[List.drop_zero,List.take_zero,List.append_nil,Nat.add_zero]⟩
theorem adv_step {l:List Int} {k:Nat} (h:Adv l k) (hp:PlDd (l.drop k)):Adv l (k+(runeP (l.drop k)).length):=by
 obtain⟨h1,h2⟩:=h
 have h3:=(rune_len (l.drop k)).1
 have h5:1≤(runeP (l.drop k)).length:=List.length_pos_iff.2 hp.1
 rw[List.length_drop] at h3
 refine⟨by omega,fun f p out hf=>?_⟩
 rw[h2 f p out hf]
 obtain⟨g,rfl⟩:∃ g,f=g+1:=⟨f - 1,by omega⟩
 rw[takeG_step,step_pl hp]
 show takeG g ((l.drop k).drop _) _ _=_
 rw[List.drop_drop,takeG_fuel g (g+1) _ _ _ (by rw[List.length_drop];omega) (by rw[List.length_drop];omega),List.take_add,rune_take _ hp.1,List.append_assoc,Nat.add_assoc]
theorem pl_rune {l:List Int} {c:Int} (h:encC c=runeP l) (h0:runeP l≠[]):PlDd l↔(32≤c∧c≠34∧c≠92):=by
 obtain⟨c',t,e1,e2⟩:=rune_is l h0
 have hh:∃ b t',l=b :: t'∧((c<128∧b=c)∨(128≤c∧128≤b)):=by
  cases hl:runeP l with
  | nil=>exact absurd hl h0
  | cons b u =>
   rw[hl] at e2
   refine⟨b,u++t,e2,?_⟩
   have hc0:=enc_pos (c:=c) (by rw[h];exact h0)
   by_cases hc:c<128
   ·left
    rcases encC_ways c with h'|⟨_,_,h'⟩|⟨_,_,h'⟩|⟨_,_,_,h'⟩|⟨_,_,h'⟩
    ·rw[h'] at h;exact absurd h.symm h0
    ·rw[h',hl] at h;injection h with ha hb;exact⟨hc,ha.symm⟩
    all_goals omega
   ·right
    refine⟨by omega,encC_high c (by omega) b ?_⟩
    rw[h,hl];exact List.mem_cons_self
 obtain⟨b,t',rfl,hb⟩:=hh
 unfold PlDd
 rw[List.headD_cons]
 constructor
 ·rintro⟨_,h2,h3,h4⟩
  omega
 ·rintro⟨h2,h3,h4⟩
  exact⟨h0,by omega,by omega,by omega⟩
theorem pl_iff (s:ByteArray) (i:Nat) (hi:i<s.size):PlDd ((bI s).drop i)↔¬ (((Utf8.decode s i).1:Int)<32∨((Utf8.decode s i).1:Int)=34∨((Utf8.decode s i).1:Int)=92∨runeP ((bI s).drop i)=[]):=by
 rcases decode_rune s i hi with ⟨h,h1⟩|⟨c,hc,hn,hd⟩
 ·constructor
  ·rintro⟨h2,_⟩;exact absurd h h2
  ·intro h2;exact absurd (Or.inr (Or.inr (Or.inr h))) h2
 ·rw[pl_rune hc hn,hd]
  have h3:=enc_pos (c:=c) (by rw[hc];exact hn)
  dsimp only
  constructor
  ·rintro⟨h4,h5,h6⟩ (h|h|h|h)
   ·omega
   ·omega
   ·omega
   ·exact hn h
  ·intro h
   refine⟨Int.not_lt.1 fun e=>h (Or.inl (by omega)),fun e=>h (Or.inr (Or.inl (by omega))),fun e=>h (Or.inr (Or.inr (Or.inl (by omega))))⟩
theorem width_rune (s:ByteArray) (i:Nat) (hi:i<s.size) (h:runeP ((bI s).drop i)≠[]):(Utf8.decode s i).2=(runeP ((bI s).drop i)).length∧encC (Utf8.decode s i).1=runeP ((bI s).drop i):=by
 rcases decode_rune s i hi with ⟨h1,_⟩|⟨c,hc,hn,hd⟩
 ·exact absurd h1 h
 ·have h3:=enc_pos (c:=c) (by rw[hc];exact hn)
  rw[hd]
  refine⟨rfl,?_⟩
  dsimp only
  rw[Int.toNat_of_nonneg h3.1]
  exact hc
theorem dec_bd (s:ByteArray) (i:Nat) (hi:i<s.size):(Utf8.decode s i).1≤1114111∧1≤(Utf8.decode s i).2∧i+(Utf8.decode s i).2≤s.size:=by
 rcases decode_rune s i hi with ⟨_,h1⟩|⟨c,hc,hn,hd⟩
 ·rw[h1];exact⟨by decide,by decide,by dsimp only;omega⟩
 ·have h3:=enc_pos (c:=c) (by rw[hc];exact hn)
  have h4:=(rune_len ((bI s).drop i)).1
  rw[List.length_drop,bI_len] at h4
  have h5:1≤(runeP ((bI s).drop i)).length:=List.length_pos_iff.2 hn
  rw[hd]
  exact⟨by dsimp only;omega,h5,by dsimp only;omega⟩
theorem four_pre (t:List Int):fourP (92 :: 117 :: t)=fourG 4 2 0 t:=by
 have h0:¬ badF 0 92:=by decide
 have h1:¬ badF 1 117:=by decide
 unfold fourP
 rw[fourG,if_neg h0,fourG,if_neg h1]
 rfl
theorem four_short (l:List Int) (h:l=[]∨l=[92]):fourP l=(0,3):=by
 rcases h with rfl|rfl <;> rfl
theorem four_not (l:List Int) (h0:¬ (∃ t,l=92 :: 117 :: t)) (h1:¬ (l=[]∨l=[92])):fourP l=(0,4):=by
 unfold fourP
 cases l with
 | nil=>exact absurd (Or.inl rfl) h1
 | cons a t =>
  rw[fourG]
  by_cases ha:a=92
  ·subst ha
   rw[if_neg (by decide)]
   cases t with
   | nil=>exact absurd (Or.inr rfl) h1
   | cons b u =>
    rw[fourG]
    rw[if_pos (show badF (0+1) b from Or.inr (Or.inl ⟨rfl,fun hb=>h0 ⟨u,by rw[hb]⟩⟩))]
  ·rw[if_pos (show badF 0 a from Or.inl ⟨rfl,ha⟩)]
theorem four_bad (f i:Nat) (c b:Int) (t:List Int) (hi:1<i) (h:digP b<0):fourG (f+1) i c (b :: t)=(0,4):=by
 rw[fourG,if_pos (show badF i b from Or.inr (Or.inr ⟨hi,h⟩))]
theorem four_dig (f i:Nat) (c b:Int) (t:List Int) (hi:1<i) (h:¬ digP b<0):fourG (f+1) i c (b :: t)=fourG f (i+1) (16*c+digP b) t:=by
 rw[fourG,if_neg,if_pos hi]
 rintro(⟨h1,_⟩|⟨h1,_⟩|⟨_,h1⟩)
 ·omega
 ·omega
 ·exact h h1
theorem dig_round (s:ByteArray) (i:Nat) (hi:i<s.size):∃ b,(bI s).drop i=b :: (bI s).drop (i+1)∧digP (Utf8.decode s i).1=digP b∧(¬ digP b<0→(Utf8.decode s i).2=1):=by
 have hl:i<(bI s).length:=by rw[bI_len];exact hi
 refine⟨(bI s)[i],List.drop_eq_getElem_cons hl,?_⟩
 have hd:=List.drop_eq_getElem_cons hl
 generalize (bI s)[i]=b at hd ⊢
 have hhi:∀ x:Int,128≤x→digP x=-1:=by
  intro x hx
  unfold digP
  rw[if_neg (by omega),if_neg (by omega),if_neg (by omega)]
 have hb0:0≤b:=by
  have:=bI_byte s b (List.mem_of_mem_drop (i:=i) (by rw[hd];exact List.mem_cons_self))
  exact this.1
 by_cases hb:b<128
 ·have he:encC b=[b]:=by
   rcases encC_ways b with h|⟨_,_,h⟩|⟨h,_⟩|⟨h,_⟩|⟨h,_⟩
   ·have:=(encC_nil b).1 h;omega
   ·exact h
   all_goals omega
  have hx:=decode_of s i b ((bI s).drop (i+1)) (by rw[he];simp) (by rw[he,hd];rfl)
  rw[hx,he]
  dsimp only
  rw[Int.toNat_of_nonneg hb0]
  exact⟨rfl,fun _=>rfl⟩
 ·rw[hhi b (by omega)]
  refine⟨hhi _ ?_,fun h=>absurd (by decide) h⟩
  rcases decode_rune s i hi with ⟨_,h1⟩|⟨c,hc,hn,hdd⟩
  ·rw[h1];decide
  ·rw[hdd]
   dsimp only
   have h3:=enc_pos (c:=c) (by rw[hc];exact hn)
   rw[Int.toNat_of_nonneg h3.1]
   refine Int.not_lt.1 fun hlt=>?_
   have he:encC c=[c]:=by
    rcases encC_ways c with h|⟨_,_,h⟩|⟨h,_⟩|⟨h,_⟩|⟨h,_⟩
    ·rw[h] at hc;exact absurd hc.symm hn
    ·exact h
    all_goals omega
   obtain⟨c',t,e1,e2⟩:=rune_is _ hn
   rw[← hc,he,hd] at e2
   injection e2 with e3 e4
   omega
def MarkOk (l:List Int) (c:Int) (n:Nat) (e:Int):Prop :=
 (e=3∧escP l=.short)∨(e=4∧escP l=.form)∨(e=0∧escP l=.piece (encC c) n∧encC c≠[]∧1≤n∧n≤l.length)
theorem mark_of {b:Int} {t:List Int} {c:Int} {n:Nat} (h:escP (92 :: b :: t)=.piece (encC c) n):MarkOk (92 :: b :: t) c n 0:=by
 have hp:=piece_esc b t _ _ h
 exact Or.inr (Or.inr ⟨rfl,h,hp.ne,hp.one,hp.len⟩)
abbrev bp (B:Nat):Value:=.pointer (some ⟨B,0,none⟩)
abbrev OK (B:Nat) (W W':World):Prop:=Lib.OthersKept 5 (some B) W W'
def Bd (B:Nat) (out:List Int) (W:World):Prop:=Lib.IsBuilderF 175 5 B B (out.map (Value.int .u8)) W
theorem Bd.lt {B:Nat} {out:List Int} {W:World} (h:Bd B out W):B<W.heap.size:=by
 rcases h with h|h <;> exact h.lt
theorem Bd.fresh (w:World):Bd w.heap.size [] (w.alloc (.cells #[.pointer none,.slice none 0 0] 175)):=Lib.IsBuilderF.of (Lib.fresh_isBuilder 175 5 w)
theorem Bd.kept {B:Nat} {out:List Int} {W W':World} (h:Bd B out W) (hb:Below W.heap.size W W'):Bd B out W':=by
 have hk:∀ k o,W.heap[k]?=some o→W'.heap[k]?=some o:=fun k o hk=>by rw[hb.block k (Array.getElem?_eq_some_iff.1 hk).1];exact hk
 have one:∀ p,Lib.BuilderAtF 175 5 B B p (out.map (Value.int .u8)) W→Lib.BuilderAtF 175 5 B B p (out.map (Value.int .u8)) W':=by
  rintro p ⟨hB,v,hc,⟨ho1,ho2⟩,hne⟩
  refine⟨hB,v,hk _ _ hc,⟨ho1,?_⟩,hne⟩
  rcases ho2 with h|⟨g,cap,cur,fz,h1,h2,h3,h4⟩
  ·exact Or.inl h
  ·exact Or.inr ⟨g,cap,cur,fz,h1,h2,hk _ _ h3,h4⟩
 exact h.elim (fun x=>Or.inl (one _ x)) (fun x=>Or.inr (one _ x))
theorem ws_any (B:Nat) (out:List Int) (s:ByteArray) (W:World) (h:Bd B out W) (hl:out.length≤1000000) (hs:s.size≤1000000):Calls Tryz.prog 86 #[bp B,.string s] W fun e W'=>e=.returned (.tuple #[.int .i64 s.size,.nilIface])∧Bd B (out++bI s) W'∧Below B W W'∧OK B W W':=by
 refine(Any.Builder_WriteString_k bwL bwLX B B _ s W h (by rw[List.length_map];omega) (Nat.le_of_lt h.lt)).mono ?_
 rintro e W' ⟨he,h1,h2,h3⟩
 have e2:(bI s).map (Value.int .u8)=Lib.strCells s:=by unfold bI Lib.strCells;rw[List.map_map];rfl
 exact⟨he,by unfold Bd;rw[List.map_append,e2];exact Or.inr h1,h2,h3⟩
theorem rune_cells (c:Int) (h:encC c≠[]):Lib.runeCells c=(encC c).map (Value.int .u8):=by
 unfold Lib.runeCells
 congr 1
 unfold Lib.encodeRuneZ encC
 have h1:=mt (encC_nil c).2 h
 rw[if_neg h1]
 by_cases a:c<128
 ·rw[if_pos a,if_pos (by omega)]
 rw[if_neg a,if_neg (by omega)]
 by_cases b:c<2048
 ·rw[if_pos b,if_pos (by omega)]
 rw[if_neg b,if_neg (by omega)]
 by_cases d:c<65536
 ·rw[if_pos d,if_pos (by omega)]
 rw[if_neg d,if_neg (by omega),if_pos (by omega)]
theorem wr_any (B:Nat) (out:List Int) (c:Int) (W:World) (h:Bd B out W) (hc:encC c≠[]) (hl:out.length≤1000000):Calls Tryz.prog 234 #[bp B,.int .i32 c] W fun e W'=>e=.returned (.tuple #[.int .i64 (encC c).length,.nilIface])∧Bd B (out++encC c) W'∧Below B W W'∧OK B W W':=by
 have h1:=enc_pos hc
 refine(Any.Builder_WriteRune_k brL brLX B B _ c (by omega) (by omega) W h (by rw[List.length_map];omega) (Nat.le_of_lt h.lt)).mono ?_
 rintro e W' ⟨he,h1,h2,h3⟩
 rw[rune_cells c hc] at he h1
 rw[List.length_map] at he
 exact⟨he,by unfold Bd;rw[List.map_append];exact Or.inr h1,h2,h3⟩
theorem st_any (B:Nat) (out:List Int) (W:World) (h:Bd B out W) (hb:∀ b ∈ out,0≤b∧b<256):Calls Tryz.prog 87 #[bp B] W fun e W'=>e=.returned (.string (str out))∧Below B W W':=by
 have e2:out.map (Value.int .u8)=Lib.byteCells (str out).data.toList:=by
  unfold Lib.byteCells
  rw[str_list,List.map_map]
  apply List.map_congr_left
  intro b hm
  have:=hb b hm
  simp only[Function.comp,UInt8.toNat_ofNat']
  congr 1
  omega
 have h':Lib.IsBuilderF 175 5 B B (Lib.byteCells (str out).data.toList) W:=by rw[← e2];exact h
 refine(Any.Builder_String_any_k bsL bsLX B B _ W h' (Nat.le_of_lt h.lt)).mono ?_
 rintro e W' ⟨he,_,h2,_⟩
 exact⟨he,h2⟩
theorem hp_any (s p:ByteArray) (w:World):Calls Tryz.prog 208 #[.string s,.string p] w fun e w'=>e=.returned (.bool (Lib.hasPrefix s.data.toList p.data.toList))∧w'=w:=Any.strings_HasPrefix hpL s p w
theorem cp_any (s p:ByteArray) (w:World):Calls Tryz.prog 272 #[.string s,.string p] w fun e w'=>e=.returned (.tuple #[.string ⟨(Lib.trimPrefix s.data.toList p.data.toList).toArray⟩,.bool (Lib.hasPrefix s.data.toList p.data.toList)])∧w'=w:=Any.strings_CutPrefix cpL s p w
def lostB (s:ByteArray) (r:Int):Bool:=decide (r=65533) && !(Lib.hasPrefix s.data.toList [239,191,189])
set_option maxHeartbeats 1000000 in
theorem islost_any (s:ByteArray) (r:Int) (w:World):Calls Tryz.prog 251 #[.string s,.int .i32 r] w fun e w'=>e=.returned (.bool (lostB s r))∧Below w.heap.size w w':=by
 by_cases hr:r=65533
 ·have e:lostB s r=!(Lib.hasPrefix s.data.toList [239,191,189]):=by unfold lostB;rw[decide_eq_true hr,Bool.true_and]
  rw[e]
  subst hr
  have H:=Lib.hid (fun W=>hp_any s { data:=#[239,191,189] } W)
  go_enter Tryz.func251,Tryz.ntmps251
  go_wp2_with fail
  refine(H.out _).mono ?_
  rintro e w' ⟨rfl,rfl⟩
  go_wp2_with fail
  go_ret
  exact⟨rfl,by go_grown⟩
 ·have e:lostB s r=false:=by unfold lostB;rw[decide_eq_false hr,Bool.false_and]
  rw[e]
  go_enter Tryz.func251,Tryz.ntmps251
  go_wp2_with fail
  go_ret
  exact⟨rfl,by go_grown⟩
def twoR (b:Int):Int:=if b=34 then 34 else if b=92 then 92 else if b=47 then 47 else if b=98 then 8 else if b=102 then 12 else if b=110 then 10 else if b=114 then 13 else if b=116 then 9 else 0
theorem two_r (b:Int):twoP b=if twoR b=0 then none else some (twoR b):=by
 unfold twoP twoR
 repeat' split
 all_goals first|rfl|omega
set_option maxHeartbeats 2000000 in
theorem two_any (c:Int) (w:World):Calls Tryz.prog 252 #[.int .i32 c] w fun e w'=>e=.returned (.int .i32 (twoR c))∧Below w.heap.size w w':=by
 go_enter Tryz.func252,Tryz.ntmps252
 unfold twoR
 by_cases h1:c=34
 ·subst h1;go_wp2_with fail;go_ret;exact⟨rfl,by go_grown⟩
 by_cases h2:c=92
 ·subst h2;go_wp2_with fail;go_ret;exact⟨rfl,by go_grown⟩
 by_cases h3:c=47
 ·subst h3;go_wp2_with fail;go_ret;exact⟨rfl,by go_grown⟩
 by_cases h4:c=98
 ·subst h4;go_wp2_with fail;go_ret;exact⟨rfl,by go_grown⟩
 by_cases h5:c=102
 ·subst h5;go_wp2_with fail;go_ret;exact⟨rfl,by go_grown⟩
 by_cases h6:c=110
 ·subst h6;go_wp2_with fail;go_ret;exact⟨rfl,by go_grown⟩
 by_cases h7:c=114
 ·subst h7;go_wp2_with fail;go_ret;exact⟨rfl,by go_grown⟩
 by_cases h8:c=116
 ·subst h8;go_wp2_with fail;go_ret;exact⟨rfl,by go_grown⟩
 rw[if_neg h1,if_neg h2,if_neg h3,if_neg h4,if_neg h5,if_neg h6,if_neg h7,if_neg h8]
 go_wp2_with fail;go_ret;exact⟨rfl,by go_grown⟩
set_option maxHeartbeats 2000000 in
theorem digit_any (c:Int) (w:World) (h0:-1000≤c) (hm:c≤2000000):Calls Tryz.prog 273 #[.int .i32 c] w fun e w'=>e=.returned (.int .i32 (digP c))∧Below w.heap.size w w':=by
 go_enter Tryz.func273,Tryz.ntmps273
 unfold digP
 by_cases h1:48≤c∧c≤57
 ·obtain⟨a,b⟩:=h1
  have wr:IntKind.i32.wrap (c - 48)=c - 48:=by rw[IntKind.wrap_i32];omega
  rw[if_pos ⟨a,b⟩];go_wp2_with fail;go_ret;exact⟨rfl,by go_grown⟩
 by_cases h2:97≤c∧c≤102
 ·obtain⟨a,b⟩:=h2
  have g1:¬ c≤57:=by omega
  have g0:(48:Int)≤c:=by omega
  have wr:IntKind.i32.wrap (c - 97)=c - 97:=by rw[IntKind.wrap_i32];omega
  have wr2:IntKind.i32.wrap (c - 97+10)=c - 87:=by rw[IntKind.wrap_i32];omega
  rw[if_neg h1,if_pos ⟨a,b⟩];clear h1;go_wp2_with fail;go_ret;exact⟨rfl,by go_grown⟩
 by_cases h3:65≤c∧c≤70
 ·obtain⟨a,b⟩:=h3
  have g1:¬ c≤57:=by omega
  have g0:(48:Int)≤c:=by omega
  have g2:¬ (97:Int)≤c:=by omega
  have wr:IntKind.i32.wrap (c - 65)=c - 65:=by rw[IntKind.wrap_i32];omega
  have wr2:IntKind.i32.wrap (c - 65+10)=c - 55:=by rw[IntKind.wrap_i32];omega
  rw[if_neg h1,if_neg h2,if_pos ⟨a,b⟩];clear h1 h2;go_wp2_with fail;go_ret;exact⟨rfl,by go_grown⟩
 rw[if_neg h1,if_neg h2,if_neg h3]
 by_cases a1:c<48
 ·have q1:¬ (48:Int)≤c:=by omega
  have q2:¬ (97:Int)≤c:=by omega
  have q3:¬ (65:Int)≤c:=by omega
  clear h1 h2 h3
  go_wp2_with fail;go_ret;exact⟨rfl,by go_grown⟩
 have q1:(48:Int)≤c:=by omega
 have q2:¬ c≤(57:Int):=by omega
 by_cases a2:c<65
 ·have q3:¬ (97:Int)≤c:=by omega
  have q4:¬ (65:Int)≤c:=by omega
  clear h1 h2 h3
  go_wp2_with fail;go_ret;exact⟨rfl,by go_grown⟩
 have q5:(65:Int)≤c:=by omega
 have q6:¬ c≤(70:Int):=by omega
 by_cases a3:c<97
 ·have q3:¬ (97:Int)≤c:=by omega
  clear h1 h2 h3
  go_wp2_with fail;go_ret;exact⟨rfl,by go_grown⟩
 have q7:(97:Int)≤c:=by omega
 have q8:¬ c≤(102:Int):=by omega
 clear h1 h2 h3
 go_wp2_with fail;go_ret;exact⟨rfl,by go_grown⟩
def rest2 (s:ByteArray):ByteArray:=⟨(s.data.toList.drop 2).toArray⟩
theorem rest2_bI (s:ByteArray):bI (rest2 s)=(bI s).drop 2:=by
 unfold bI rest2
 rw[List.map_drop]
theorem trim_yes (s:ByteArray) (h:Lib.hasPrefix s.data.toList [92,117]=true):(⟨(Lib.trimPrefix s.data.toList [92,117]).toArray⟩:ByteArray)=rest2 s:=by
 unfold Lib.trimPrefix rest2;rw[if_pos h];rfl
theorem pre_yes (s:ByteArray) (h:Lib.hasPrefix s.data.toList [92,117]=true):bI s=92 :: 117 :: bI (rest2 s):=by
 obtain⟨t,ht⟩:=(map_pre _ _).1 h
 rw[rest2_bI]
 unfold bI
 rw[ht];rfl
theorem pre_no (s:ByteArray) (h:Lib.hasPrefix s.data.toList [92,117]=false):¬ ∃ t,bI s=92 :: 117 :: t:=by
 rintro⟨t,ht⟩
 have:Lib.hasPrefix s.data.toList [92,117]=true:=(map_pre _ _).2 ⟨t,ht⟩
 rw[this] at h;cases h
theorem of_yes (s:ByteArray) (h0:Lib.hasPrefix s.data.toList [92,117]=false) (h:Lib.hasPrefix [92,117] s.data.toList=true):bI s=[]∨bI s=[92]:=by
 obtain⟨t,ht⟩:=(map_pre _ _).1 h
 have e:[(92:Int),117]=bI s++t:=ht
 have n:=pre_no s h0
 cases hb:bI s with
 | nil=>exact Or.inl rfl
 | cons a u =>
  rw[hb] at e
  injection e with e1 e2
  cases u with
  | nil=>right;rw[← e1]
  | cons b v =>
   injection e2 with e3 e4
   exact absurd ⟨v,by rw[hb,← e1,← e3]⟩ n
theorem of_no (s:ByteArray) (h:Lib.hasPrefix [92,117] s.data.toList=false):¬ (bI s=[]∨bI s=[92]):=by
 intro hq
 have:Lib.hasPrefix [92,117] s.data.toList=true:=by
  rcases hq with hq|hq
  ·exact(map_pre _ _).2 ⟨[92,117],by show _=bI s++_;rw[hq];rfl⟩
  ·exact(map_pre _ _).2 ⟨[117],by show _=bI s++_;rw[hq];rfl⟩
 rw[this] at h;cases h
def unitV (s:ByteArray):Value:=.tuple #[.int .i32 (fourP (bI s)).1,.int .i64 (fourP (bI s)).2]
set_option maxHeartbeats 2000000 in
theorem unit_no (s:ByteArray) (w:World) (h0:Lib.hasPrefix s.data.toList [92,117]=false):Calls Tryz.prog 253 #[.string s] w fun e w'=>e=.returned (unitV s)∧Below w.heap.size w w':=by
 have H:=Lib.hid (fun W=>cp_any s { data:=#[92,117] } W)
 have H2:=Lib.hid (fun W=>hp_any { data:=#[92,117] } s W)
 rw[show ({ data:=#[92,117] }:ByteArray).data.toList=[92,117] from rfl] at H H2
 rw[h0] at H
 unfold unitV
 cases h1:Lib.hasPrefix [92,117] s.data.toList with
 | true =>
  rw[h1] at H2
  have hv:=four_short _ (of_yes s h0 h1)
  rw[hv]
  clear hv h0 h1
  go_enter Tryz.func253,Tryz.ntmps253
  go_wp2_with fail
  refine(H.out _).mono ?_
  rintro e w' ⟨rfl,rfl⟩
  go_wp2_with fail
  refine(H2.out _).mono ?_
  rintro e w' ⟨rfl,rfl⟩
  go_wp2_with fail
  refine bodyPost_ret (v:=.tuple #[.int .i32 0,.int .i64 3]) (by simp[results,Tryz.results253,go_sem]) rfl ⟨rfl,by go_grown⟩
 | false =>
  rw[h1] at H2
  have hv:=four_not _ (pre_no s h0) (of_no s h1)
  rw[hv]
  clear hv h0 h1
  go_enter Tryz.func253,Tryz.ntmps253
  go_wp2_with fail
  refine(H.out _).mono ?_
  rintro e w' ⟨rfl,rfl⟩
  go_wp2_with fail
  refine(H2.out _).mono ?_
  rintro e w' ⟨rfl,rfl⟩
  go_wp2_with fail
  refine bodyPost_ret (v:=.tuple #[.int .i32 0,.int .i64 4]) (by simp[results,Tryz.results253,go_sem]) rfl ⟨rfl,by go_grown⟩
theorem i32_or4 (x y:Int) (hx₀:0≤x) (hx:x % 16=0) (hx₁:x<2147483648) (h₀:0≤y) (h₁:y<16):bits .or .i32 x y=x+y :=
 bits_join .i32 31 (by decide) wraps_i32 4 x y hx₀ hx hx₁ h₀ h₁ (by omega)
def UInv (t:ByteArray) (F:Int × Int) (k:Nat) (c:Int):Prop:=k≤t.size∧t.size≤4∧F=fourG (4 - k) (2+k) c ((bI t).drop k)∧0≤c∧c<16 ^ k
def min4 (r:ByteArray):Nat:=if r.size<4 then r.size else 4
theorem uinv_zero (r:ByteArray):UInv (r.extract 0 (min4 r)) (fourG 4 2 0 (bI r)) 0 0∧(r.extract 0 (min4 r)).size=min4 r:=by
 have hm:min4 r≤r.size∧min4 r≤4:=by unfold min4;split <;> omega
 have hs:(r.extract 0 (min4 r)).size=min4 r:=by rw[ByteArray.size_extract];omega
 refine⟨⟨Nat.zero_le _,by rw[hs];exact hm.2,?_,by decide,by decide⟩,hs⟩
 rw[bI_extract _ _ _ (Nat.zero_le _),List.drop_zero,List.drop_zero]
 by_cases h:r.size<4
 ·unfold min4
  rw[if_pos h,List.take_of_length_le (by rw[bI_len];omega)]
 ·unfold min4
  rw[if_neg h]
  have:=four_more 4 2 0 (bI r) [] (by rw[bI_len];omega)
  rw[List.append_nil] at this
  exact this.symm
theorem uinv_bad {t:ByteArray} {F:Int × Int} {k:Nat} {c:Int} (h:UInv t F k c) (hk:k<t.size) (hd:digP (Utf8.decode t k).1<0):F=(0,4):=by
 obtain⟨h1,h2,h3,h4,h5⟩:=h
 obtain⟨b,e1,e2,e3⟩:=dig_round t k hk
 rw[h3,e1,show 4 - k=(3 - k)+1 by omega]
 exact four_bad _ _ _ _ _ (by omega) (by rw[← e2];exact hd)
theorem uinv_step {t:ByteArray} {F:Int × Int} {k:Nat} {c:Int} (h:UInv t F k c) (hk:k<t.size) (hd:¬ digP (Utf8.decode t k).1<0):(Utf8.decode t k).2=1∧UInv t F (k+1) (16*c+digP (Utf8.decode t k).1)∧c<4096:=by
 obtain⟨h1,h2,h3,h4,h5⟩:=h
 obtain⟨b,e1,e2,e3⟩:=dig_round t k hk
 rw[e2] at hd ⊢
 have hb:=dig_lt b
 refine⟨e3 hd,⟨by omega,h2,?_,by omega,?_⟩,?_⟩
 ·rw[h3,e1,show 4 - k=(3 - k)+1 by omega,four_dig _ _ _ _ _ (by omega) hd,show 4 - (k+1)=3 - k by omega,show 2+(k+1)=2+k+1 by omega]
 ·rw[Int.pow_succ];omega
 ·rcases(by omega:k=0∨k=1∨k=2∨k=3) with rfl|rfl|rfl|rfl
  all_goals (simp only[Int.reducePow] at h5;omega)
theorem uinv_end {t:ByteArray} {F:Int × Int} {k:Nat} {c:Int} (h:UInv t F k c) (hk:¬ k<t.size):(t.size<4→F=(0,3))∧(¬ t.size<4→F=(c,0)):=by
 obtain⟨h1,h2,h3,h4,h5⟩:=h
 have e:(bI t).drop k=[]:=List.drop_of_length_le (by rw[bI_len];omega)
 rw[e] at h3
 constructor
 ·intro h
  rw[h3,show 4 - k=(3 - k)+1 by omega];rfl
 ·intro h
  rw[h3,show 4 - k=0 by omega];rfl
set_option maxHeartbeats 4000000 in
theorem unit_yes (s:ByteArray) (w:World) (hs:s.size≤100000) (h0:Lib.hasPrefix s.data.toList [92,117]=true):Calls Tryz.prog 253 #[.string s] w fun e w'=>e=.returned (unitV s)∧Below w.heap.size w w':=by
 have H:=Lib.hid (fun W=>cp_any s { data:=#[92,117] } W)
 rw[show ({ data:=#[92,117] }:ByteArray).data.toList=[92,117] from rfl,h0,trim_yes s h0] at H
 have HF:Hid (fourP (bI s)=fourG 4 2 0 (bI (rest2 s))):=Lib.hid (by rw[pre_yes s h0,four_pre])
 have hrs:(rest2 s).size≤100000:=by
  have:=congrArg List.length (rest2_bI s)
  rw[List.length_drop,bI_len,bI_len] at this
  omega
 unfold unitV
 rw[HF.out]
 clear HF h0 hs
 generalize rest2 s=r at *
 obtain⟨hu,hsz⟩:=uinv_zero r
 obtain⟨F,hF⟩:∃ F,fourG 4 2 0 (bI r)=F:=⟨_,rfl⟩
 rw[hF] at hu ⊢
 clear hF
 have hm:min (4:Int) ((r.size:Nat):Int)=(min4 r:Int):=by unfold min4;split <;> omega
 have HM:Hid (min4 r≤r.size∧min4 r≤4∧(min4 r<4↔r.size<4)):=Lib.hid (by unfold min4;split <;> omega)
 generalize min4 r=m at *
 have HU:=Lib.hid hu
 have HSZ:=Lib.hid hsz
 clear hu hsz
 have hm1:=HM.out.1
 go_enter Tryz.func253,Tryz.ntmps253
 go_wp2_with fail
 refine(H.out _).mono ?_
 rintro e w' ⟨rfl,rfl⟩
 go_wp2_with fail
 have T0:(m:Int).toNat=m:=rfl
 go_loopw [6] (fun i wr=>∃ (k:Nat) (c:Int),i=.int .i32 c∧Hid (UInv (r.extract 0 m) F k c)∧Hid (wr.heap[w'.heap.size]?=some (.stringIter (r.extract 0 m) k))∧Hid (Below w'.heap.size w' wr)) (fun _ wr=>(r.extract 0 m).size - wr.iterPos w'.heap.size)
 case atStart=>exact⟨0,0,rfl,HU,Lib.hid (World.iter_heap _ _ _),Lib.hid ((Below.refl _ _).alloc (Nat.le_refl _) _)⟩
 case round =>
  obtain⟨k,c,rfl,HI,HIT,HB⟩:=hrel
  have HSZ2:=HSZ
  generalize r.extract 0 m=t at *
  by_cases hp:k<t.size
  ·have hnx:=fun ty=>Lib.run_next_any_at (P:=Tryz.prog) wr w'.heap.size t k ty HIT.out hp
   have hbd:=dec_bd t k hp
   have HD:=Lib.hid (fun W=>digit_any (Utf8.decode t k).1 W (by omega) (by omega))
   have HW:=Lib.hid (Lib.iterAt_heap wr w'.heap.size t k (k+(Utf8.decode t k).2) HIT.out)
   have HB2:=Lib.hid (Lib.below_iterAt HB.out (k:=w'.heap.size) (Nat.le_refl _) t (k+(Utf8.decode t k).2))
   by_cases hd:digP (Utf8.decode t k).1<0
   ·have hF:=uinv_bad HI.out hp hd
    generalize Utf8.decode t k=d at *
    have HF:=Lib.hid hF
    clear hbd hF
    go_wp2_with fail
    refine(HD.out _).mono ?_
    rintro e w2 ⟨rfl,hb2⟩
    have HB3:=Lib.hid (HB2.out.trans (hb2.mono HB2.out.size))
    clear hb2
    go_wp2_with fail
    refine bodyPost_ret (v:=.tuple #[.int .i32 0,.int .i64 4]) (by simp[results,Tryz.results253,go_sem]) rfl ⟨by rw[HF.out],HB3.out⟩
   ·obtain⟨hw1,hI2,hc4⟩:=uinv_step HI.out hp hd
    have hc0:=HI.out.2.2.2.1
    have hdl:=dig_lt (Utf8.decode t k).1
    generalize hg:digP (Utf8.decode t k).1=g at *
    have hs4:IntKind.i32.wrap (c*16)=c*16:=by rw[IntKind.wrap_i32];omega
    have ho:=i32_or4 (c*16) g (by omega) (by omega) (by omega) (by omega) (by omega)
    have HI2:=Lib.hid (show UInv t F (k+1) (c*16+g) by rw[Int.mul_comm c 16];exact hI2)
    generalize Utf8.decode t k=d at *
    have HW1:=Lib.hid hw1
    clear hbd hdl hg hI2 hc4 hc0 hw1
    go_wp2_with fail
    refine(HD.out _).mono ?_
    rintro e w2 ⟨rfl,hb2⟩
    have HB3:=Lib.hid (HB2.out.trans (hb2.mono HB2.out.size))
    have HW2:Hid (w2.heap[w'.heap.size]?=some (.stringIter t (k+d.2))):=Lib.hid (by rw[hb2.block _ (Array.getElem?_eq_some_iff.1 HW.out).1];exact HW.out)
    clear hb2
    go_wp2_with fail
    go_roundw
    case rel=>exact⟨k+1,c*16+g,rfl,HI2,by rw[← HW1.out];exact HW2,HB3⟩
    case measure =>
     simp only[World.iterPos,HW2.out,HIT.out,HW1.out]
     omega
  ·have hnx:=fun ty=>Lib.run_next_end_at (P:=Tryz.prog) wr w'.heap.size t k ty HIT.out hp
   have he:=uinv_end HI.out hp
   rw[HSZ.out] at he
   by_cases h4:m<4
   ·have h4':r.size<4:=HM.out.2.2.1 h4
    have HF:=Lib.hid (he.1 h4)
    have h5:((r.size:Nat):Int)<4:=by omega
    clear he h4 h4'
    go_wp2_with fail
    refine bodyPost_ret (v:=.tuple #[.int .i32 0,.int .i64 3]) (by simp[results,Tryz.results253,go_sem]) rfl ⟨by rw[HF.out],HB.out⟩
   ·have h4':¬ r.size<4:=fun h=>h4 (HM.out.2.2.2 h)
    have HF:=Lib.hid (he.2 h4)
    have h5:¬ ((r.size:Nat):Int)<4:=by omega
    clear he h4 h4'
    go_wp2_with fail
    refine bodyPost_ret (v:=.tuple #[.int .i32 c,.int .i64 0]) (by simp[results,Tryz.results253,go_sem]) rfl ⟨by rw[HF.out],HB.out⟩
theorem unit_any (s:ByteArray) (w:World) (hs:s.size≤100000):Calls Tryz.prog 253 #[.string s] w fun e w'=>e=.returned (unitV s)∧Below w.heap.size w w':=by
 cases h:Lib.hasPrefix s.data.toList [92,117] with
 | true=>exact unit_yes s w hs h
 | false=>exact unit_no s w h
def MarkEnd (l:List Int) (w:World) (e:Ending) (w':World):Prop:=(∃ (c:Int) (n:Nat) (er:Int),e=.returned (.tuple #[.int .i32 c,.int .i64 n,.int .i64 er])∧MarkOk l c n er)∧Below w.heap.size w w'
theorem esc_r {a b:Int} {t:List Int} (h:twoR b≠0):escP (a :: b :: t)=.piece (encC (twoR b)) 2:=by
 have h2:=two_r b
 rw[if_neg h] at h2
 rw[esc_of,h2,(two_val h2).1]
theorem esc_n {a b:Int} {t:List Int} (h:twoR b=0):escP (a :: b :: t)=if (fourP (a :: b :: t)).2≠0 then badE (fourP (a :: b :: t)).2 else if (fourP (a :: b :: t)).1<55296∨57343<(fourP (a :: b :: t)).1 then .piece (encC (fourP (a :: b :: t)).1) 6 else if 56319<(fourP (a :: b :: t)).1 then .form else
   if (fourP ((a :: b :: t).drop 6)).2≠0 then badE (fourP ((a :: b :: t).drop 6)).2 else if (fourP ((a :: b :: t).drop 6)).1<56320∨57343<(fourP ((a :: b :: t).drop 6)).1 then .form
   else .piece (encC (65536+1024*((fourP (a :: b :: t)).1 - 55296)+(fourP ((a :: b :: t).drop 6)).1 - 56320)) 12:=by
 have h2:=two_r b
 rw[if_pos h] at h2
 rw[esc_of,h2]
theorem mark_err {b:Int} {t:List Int} {c:Int} {n:Nat} {e:Int} (h:escP (92 :: b :: t)=badE e) (he:e=3∨e=4):MarkOk (92 :: b :: t) c n e:=by
 rcases he with rfl|rfl
 ·exact Or.inl ⟨rfl,h⟩
 ·exact Or.inr (Or.inl ⟨rfl,h⟩)
theorem bI_two (s:ByteArray) (h:1<s.size):∃ a t,bI s=a :: ((s[1]'h).toNat:Int) :: t:=by
 have h1:=bI_get s 1 h
 cases hb:bI s with
 | nil=>rw[hb] at h1;cases h1
 | cons a u =>
  cases u with
  | nil=>rw[hb] at h1;cases h1
  | cons b t =>
   rw[hb] at h1
   have:b=((s[1]'h).toNat:Int):=by simpa using h1
   exact⟨a,t,by rw[this]⟩
set_option maxHeartbeats 2000000 in
theorem mark_one (s:ByteArray) (w:World) (hs:s.size=1) (hh:(bI s).headD 0=92):Calls Tryz.prog 233 #[.string s] w (MarkEnd (bI s) w):=by
 have h1:(s.size:Int)=1:=by omega
 have hl:bI s=[92]:=by
  have:=bI_len s
  cases hb:bI s with
  | nil=>rw[hb,hs] at this;cases this
  | cons a u =>
   rw[hb] at hh this
   rw[hs] at this
   have hu:u=[]:=List.eq_nil_of_length_eq_zero (by simpa using this)
   rw[hu];rw[List.headD_cons] at hh;rw[hh]
 rw[hl]
 have HM:Hid (MarkOk [92] 0 0 3):=Lib.hid (Or.inl ⟨rfl,rfl⟩)
 clear hs hh hl
 unfold MarkEnd
 go_enter Tryz.func233,Tryz.ntmps233
 go_wp2_with fail
 refine bodyPost_ret (v:=.tuple #[.int .i32 0,.int .i64 0,.int .i64 3]) (by simp[results,Tryz.results233,go_sem]) rfl ⟨⟨0,0,3,rfl,HM.out⟩,by go_grown⟩
set_option maxHeartbeats 4000000 in
theorem mark_more (s:ByteArray) (w:World) (hs:1<s.size) (hs2:s.size≤100000) (hh:(bI s).headD 0=92):Calls Tryz.prog 233 #[.string s] w (MarkEnd (bI s) w):=by
 have h1:¬ (s.size:Int)=1:=by omega
 have hb2:(1:Int)<(s.size:Int):=by omega
 obtain⟨a,t,hl⟩:=bI_two s hs
 rw[hl,List.headD_cons] at hh
 subst hh
 have hbl:=(s[1]'hs).toNat_lt
 have HU:=Lib.hid (fun W=>unit_any s W hs2)
 have HU2:=Lib.hid (fun W (h6:6≤s.size)=>unit_any (s.extract 6 s.size) W (by rw[ByteArray.size_extract];omega))
 have hd6:6≤s.size→bI (s.extract 6 s.size)=((92:Int) :: ((s[1]'hs).toNat:Int) :: t).drop 6:=fun h6=>by rw[bI_from s 6 h6,hl]
 have hlen:((92:Int) :: ((s[1]'hs).toNat:Int) :: t).length=s.size:=by rw[← hl,bI_len]
 unfold unitV at HU HU2
 rw[hl] at HU ⊢
 unfold MarkEnd
 obtain⟨b,hbv⟩:∃ b:Int,((s[1]'hs).toNat:Int)=b:=⟨_,rfl⟩
 have hw:IntKind.i32.wrap b=b:=by rw[IntKind.wrap_i32];omega
 have HT:=Lib.hid (fun W=>two_any b W)
 rw[hbv] at HU hd6 hlen ⊢
 clear hbl hl
 by_cases hr:twoR b=0
 ·rw[hr] at HT
  have HE:=Lib.hid (esc_n (a:=92) (t:=t) hr)
  have hfe:=four_err 6 0 0 (92 :: b :: t)
  have hfl:=four_lt (92 :: b :: t)
  have hfn:=four_len (l:=92 :: b :: t)
  by_cases he:(fourP (92 :: b :: t)).2=0
  ·have hlt:=hfl he
   have h6:=hfn he
   have h6s:6≤s.size:=by rw[← hlen];exact h6
   have he2:(fourP (92 :: b :: t))=((fourP (92 :: b :: t)).1,0):=by rw[← he]
   generalize hr1:(fourP (92 :: b :: t)).1=r at *
   rw[he2] at HU HE
   simp only[ne_eq,not_true_eq_false,if_false] at HE
   by_cases hr2:r<55296∨57343<r
   ·have HM:Hid (MarkOk (92 :: b :: t) r 6 0):=Lib.hid (mark_of (by rw[HE.out,if_pos hr2]))
    clear hr HE hfe hfl hfn HU2 hd6 he2 he hr1 h6 h6s hlt
    by_cases hr3:r<55296
    ·clear hr2
     go_enter Tryz.func233,Tryz.ntmps233
     go_wp2_with fail
     refine(HT.out _).mono ?_
     rintro e w2 ⟨rfl,hb2⟩
     go_wp2_with fail
     refine(HU.out _).mono ?_
     rintro e w3 ⟨rfl,hb3⟩
     have HB3:=Lib.hid (hb2.trans (hb3.mono hb2.size))
     clear hb2 hb3
     go_wp2_with fail
     refine bodyPost_ret (v:=.tuple #[.int .i32 (r),.int .i64 (6),.int .i64 (0)]) (by simp[results,Tryz.results233,go_sem]) rfl ⟨⟨r,6,0,rfl,HM.out⟩,HB3.out⟩
    ·have hr4:(57344:Int)≤r:=by omega
     clear hr2
     go_enter Tryz.func233,Tryz.ntmps233
     go_wp2_with fail
     refine(HT.out _).mono ?_
     rintro e w2 ⟨rfl,hb2⟩
     go_wp2_with fail
     refine(HU.out _).mono ?_
     rintro e w3 ⟨rfl,hb3⟩
     have HB3:=Lib.hid (hb2.trans (hb3.mono hb2.size))
     clear hb2 hb3
     go_wp2_with fail
     refine bodyPost_ret (v:=.tuple #[.int .i32 (r),.int .i64 (6),.int .i64 (0)]) (by simp[results,Tryz.results233,go_sem]) rfl ⟨⟨r,6,0,rfl,HM.out⟩,HB3.out⟩
   rw[if_neg hr2] at HE
   have q1:¬ r<55296:=fun h=>hr2 (Or.inl h)
   have q2:¬ (57344:Int)≤r:=fun h=>hr2 (Or.inr (by omega))
   clear hr2
   by_cases hr3:56319<r
   ·have HM:Hid (MarkOk (92 :: b :: t) 0 0 4):=Lib.hid (Or.inr (Or.inl ⟨rfl,by rw[HE.out,if_pos hr3]⟩))
    have q3:(56320:Int)≤r:=by omega
    clear hr HE hfe hfl hfn HU2 hd6 he2 he hr1 h6 h6s hlt hr3
    go_enter Tryz.func233,Tryz.ntmps233
    go_wp2_with fail
    refine(HT.out _).mono ?_
    rintro e w2 ⟨rfl,hb2⟩
    go_wp2_with fail
    refine(HU.out _).mono ?_
    rintro e w3 ⟨rfl,hb3⟩
    have HB3:=Lib.hid (hb2.trans (hb3.mono hb2.size))
    clear hb2 hb3
    go_wp2_with fail
    refine bodyPost_ret (v:=.tuple #[.int .i32 (0),.int .i64 (0),.int .i64 (4)]) (by simp[results,Tryz.results233,go_sem]) rfl ⟨⟨0,0,4,rfl,HM.out⟩,HB3.out⟩
   rw[if_neg hr3] at HE
   have q3:¬ (56320:Int)≤r:=by omega
   have hd:=hd6 h6s
   have HU3:=Lib.hid (fun W=>HU2.out W h6s)
   rw[hd] at HU3
   have hfe3:=four_err 6 0 0 ((92 :: b :: t).drop 6)
   have hfl3:=four_lt ((92 :: b :: t).drop 6)
   have hs6:(6:Int)≤(s.size:Int):=by omega
   by_cases hg:(fourP ((92 :: b :: t).drop 6)).2=0
   ·have hlt3:=hfl3 hg
    have hg2:(fourP ((92 :: b :: t).drop 6))=((fourP ((92 :: b :: t).drop 6)).1,0):=by rw[← hg]
    generalize hr4:(fourP ((92 :: b :: t).drop 6)).1=g at *
    rw[hg2] at HU3 HE
    simp only[ne_eq,not_true_eq_false,if_false] at HE
    by_cases hr5:g<56320∨57343<g
    ·have HM:Hid (MarkOk (92 :: b :: t) 0 0 4):=Lib.hid (Or.inr (Or.inl ⟨rfl,by rw[HE.out,if_pos hr5]⟩))
     clear hr HE hfe hfl hfn HU2 hd6 he2 he hr1 h6 h6s hlt hr3 hd hfe3 hfl3 hg hg2 hr4 hlt3
     by_cases hr6:g<56320
     ·clear hr5
      go_enter Tryz.func233,Tryz.ntmps233
      go_wp2_with fail
      refine(HT.out _).mono ?_
      rintro e w2 ⟨rfl,hb2⟩
      go_wp2_with fail
      refine(HU.out _).mono ?_
      rintro e w3 ⟨rfl,hb3⟩
      have HB3:=Lib.hid (hb2.trans (hb3.mono hb2.size))
      clear hb2 hb3
      go_wp2_with fail
      refine(HU3.out _).mono ?_
      rintro e w4 ⟨rfl,hb4⟩
      have HB4:=Lib.hid (HB3.out.trans (hb4.mono HB3.out.size))
      clear hb4
      clear HB3
      have HB3:=HB4
      clear HB4
      go_wp2_with fail
      refine bodyPost_ret (v:=.tuple #[.int .i32 (0),.int .i64 (0),.int .i64 (4)]) (by simp[results,Tryz.results233,go_sem]) rfl ⟨⟨0,0,4,rfl,HM.out⟩,HB3.out⟩
     ·have hr7:(57344:Int)≤g:=by omega
      clear hr5
      go_enter Tryz.func233,Tryz.ntmps233
      go_wp2_with fail
      refine(HT.out _).mono ?_
      rintro e w2 ⟨rfl,hb2⟩
      go_wp2_with fail
      refine(HU.out _).mono ?_
      rintro e w3 ⟨rfl,hb3⟩
      have HB3:=Lib.hid (hb2.trans (hb3.mono hb2.size))
      clear hb2 hb3
      go_wp2_with fail
      refine(HU3.out _).mono ?_
      rintro e w4 ⟨rfl,hb4⟩
      have HB4:=Lib.hid (HB3.out.trans (hb4.mono HB3.out.size))
      clear hb4
      clear HB3
      have HB3:=HB4
      clear HB4
      go_wp2_with fail
      refine bodyPost_ret (v:=.tuple #[.int .i32 (0),.int .i64 (0),.int .i64 (4)]) (by simp[results,Tryz.results233,go_sem]) rfl ⟨⟨0,0,4,rfl,HM.out⟩,HB3.out⟩
    ·rw[if_neg hr5] at HE
     have q5:¬ g<56320:=fun h=>hr5 (Or.inl h)
     have q6:¬ (57344:Int)≤g:=fun h=>hr5 (Or.inr (by omega))
     have v1:IntKind.i32.wrap (r - 55296)=r - 55296:=by rw[IntKind.wrap_i32];omega
     have v2:IntKind.i32.wrap ((r - 55296)*1024)=(r - 55296)*1024:=by rw[IntKind.wrap_i32];omega
     have v3:IntKind.i32.wrap (65536+(r - 55296)*1024)=65536+(r - 55296)*1024:=by rw[IntKind.wrap_i32];omega
     have v4:IntKind.i32.wrap (g - 56320)=g - 56320:=by rw[IntKind.wrap_i32];omega
     have v5:IntKind.i32.wrap (65536+(r - 55296)*1024+(g - 56320))=65536+(r - 55296)*1024+(g - 56320):=by rw[IntKind.wrap_i32];omega
     have HM:Hid (MarkOk (92 :: b :: t) (65536+(r - 55296)*1024+(g - 56320)) 12 0):=Lib.hid (mark_of (by rw[HE.out,show 65536+1024*(r - 55296)+g - 56320=65536+(r - 55296)*1024+(g - 56320) by omega]))
     clear hr HE hfe hfl hfn HU2 hd6 he2 he hr1 h6 h6s hlt hr3 hd hfe3 hfl3 hg hg2 hr4 hlt3 hr5
     go_enter Tryz.func233,Tryz.ntmps233
     go_wp2_with fail
     refine(HT.out _).mono ?_
     rintro e w2 ⟨rfl,hb2⟩
     go_wp2_with fail
     refine(HU.out _).mono ?_
     rintro e w3 ⟨rfl,hb3⟩
     have HB3:=Lib.hid (hb2.trans (hb3.mono hb2.size))
     clear hb2 hb3
     go_wp2_with fail
     refine(HU3.out _).mono ?_
     rintro e w4 ⟨rfl,hb4⟩
     have HB4:=Lib.hid (HB3.out.trans (hb4.mono HB3.out.size))
     clear hb4
     clear HB3
     have HB3:=HB4
     clear HB4
     go_wp2_with fail
     refine bodyPost_ret (v:=.tuple #[.int .i32 (65536+(r - 55296)*1024+(g - 56320)),.int .i64 (12),.int .i64 (0)]) (by simp[results,Tryz.results233,go_sem]) rfl ⟨⟨65536+(r - 55296)*1024+(g - 56320),12,0,rfl,HM.out⟩,HB3.out⟩
   ·have HM:Hid (MarkOk (92 :: b :: t) 0 0 (fourP ((92 :: b :: t).drop 6)).2):=Lib.hid (mark_err (by rw[HE.out,if_pos hg]) (hfe3.resolve_left hg))
    generalize fourP ((92 :: b :: t).drop 6)=G at *
    clear hr HE hfe hfl hfn HU2 hd6 he2 he hr1 h6 h6s hlt hr3 hd hfe3 hfl3
    go_enter Tryz.func233,Tryz.ntmps233
    go_wp2_with fail
    refine(HT.out _).mono ?_
    rintro e w2 ⟨rfl,hb2⟩
    go_wp2_with fail
    refine(HU.out _).mono ?_
    rintro e w3 ⟨rfl,hb3⟩
    have HB3:=Lib.hid (hb2.trans (hb3.mono hb2.size))
    clear hb2 hb3
    go_wp2_with fail
    refine(HU3.out _).mono ?_
    rintro e w4 ⟨rfl,hb4⟩
    have HB4:=Lib.hid (HB3.out.trans (hb4.mono HB3.out.size))
    clear hb4
    clear HB3
    have HB3:=HB4
    clear HB4
    go_wp2_with fail
    refine bodyPost_ret (v:=.tuple #[.int .i32 (0),.int .i64 (0),.int .i64 (G.2)]) (by simp[results,Tryz.results233,go_sem]) rfl ⟨⟨0,0,G.2,rfl,HM.out⟩,HB3.out⟩
  ·have HM:Hid (MarkOk (92 :: b :: t) 0 0 (fourP (92 :: b :: t)).2):=Lib.hid (mark_err (by rw[HE.out,if_pos he]) (hfe.resolve_left he))
   generalize fourP (92 :: b :: t)=F at *
   clear hr HE hfe hfl hfn HU2 hd6
   go_enter Tryz.func233,Tryz.ntmps233
   go_wp2_with fail
   refine(HT.out _).mono ?_
   rintro e w2 ⟨rfl,hb2⟩
   go_wp2_with fail
   refine(HU.out _).mono ?_
   rintro e w3 ⟨rfl,hb3⟩
   have HB3:=Lib.hid (hb2.trans (hb3.mono hb2.size))
   clear hb2 hb3
   go_wp2_with fail
   refine bodyPost_ret (v:=.tuple #[.int .i32 (0),.int .i64 (0),.int .i64 (F.2)]) (by simp[results,Tryz.results233,go_sem]) rfl ⟨⟨0,0,F.2,rfl,HM.out⟩,HB3.out⟩
 ·have HM:Hid (MarkOk (92 :: b :: t) (twoR b) 2 0):=Lib.hid (mark_of (esc_r hr))
  generalize twoR b=x at *
  clear HU HU2 hd6
  go_enter Tryz.func233,Tryz.ntmps233
  go_wp2_with fail
  refine(HT.out _).mono ?_
  rintro e w2 ⟨rfl,hb2⟩
  go_wp2_with fail
  refine bodyPost_ret (v:=.tuple #[.int .i32 x,.int .i64 2,.int .i64 0]) (by simp[results,Tryz.results233,go_sem]) rfl ⟨⟨x,2,0,rfl,HM.out⟩,hb2⟩
theorem mark_any (s:ByteArray) (w:World) (hs:0<s.size) (hs2:s.size≤100000) (hh:(bI s).headD 0=92):Calls Tryz.prog 233 #[.string s] w (MarkEnd (bI s) w):=by
 by_cases h:s.size=1
 ·exact mark_one s w h hh
 ·exact mark_more s w (by omega) hs2 hh
theorem lost_round (s:ByteArray) (i:Nat) (hi:i<s.size):lostB (s.extract i s.size) (Utf8.decode s i).1=decide (runeP ((bI s).drop i)=[]):=by
 have h:=lost_iff s i hi
 unfold lostB
 by_cases hl:runeP ((bI s).drop i)=[]
 ·obtain⟨h1,h2⟩:=h.2 hl
  rw[h1,h2,decide_eq_true hl];rfl
 ·rw[decide_eq_false hl]
  cases hd:decide (((Utf8.decode s i).1:Int)=65533) with
  | false=>rfl
  | true =>
   cases hp:Lib.hasPrefix (s.extract i s.size).data.toList [239,191,189] with
   | true=>rfl
   | false=>exact absurd (h.1 ⟨of_decide_eq_true hd,hp⟩) hl
def PlainEnd (s:ByteArray) (w:World) (e:Ending) (w':World):Prop:=(∃ k:Nat,e=.returned (.int .i64 k)∧k≤s.size∧Adv (bI s) k∧¬ PlDd ((bI s).drop k))∧Below w.heap.size w w'
theorem pl_nil (s:ByteArray) (k:Nat) (hk:¬ k<s.size):¬ PlDd ((bI s).drop k):=by
 rw[List.drop_of_length_le (by rw[bI_len];omega)]
 rintro⟨h,_⟩
 exact h rfl
set_option maxHeartbeats 4000000 in
theorem plain_any (s:ByteArray) (w:World) (hs:s.size≤100000):Calls Tryz.prog 232 #[.string s] w (PlainEnd s w):=by
 unfold PlainEnd
 go_enter Tryz.func232,Tryz.ntmps232
 go_wp2_with fail
 go_loopw [] (fun wr=>∃ (k:Nat),k≤s.size∧Hid (Adv (bI s) k)∧Hid (wr.heap[w.heap.size]?=some (.stringIter s k))∧Hid (Below w.heap.size w wr)) (fun wr=>s.size - wr.iterPos w.heap.size)
 case atStart=>exact⟨0,Nat.zero_le _,Lib.hid (adv_zero _),Lib.hid (World.iter_heap _ _ _),Lib.hid ((Below.refl _ _).alloc (Nat.le_refl _) _)⟩
 case round =>
  obtain⟨k,hks,HA,HIT,HB⟩:=hrel
  by_cases hp:k<s.size
  ·have hnx:=fun ty=>Lib.run_next_any_at (P:=Tryz.prog) wr w.heap.size s k ty HIT.out hp
   have hbd:=dec_bd s k hp
   have HL:=Lib.hid (fun W=>islost_any (s.extract k s.size) (Utf8.decode s k).1 W)
   rw[lost_round s k hp] at HL
   have HW:=Lib.hid (Lib.iterAt_heap wr w.heap.size s k (k+(Utf8.decode s k).2) HIT.out)
   have HB2:=Lib.hid (Lib.below_iterAt HB.out (k:=w.heap.size) (Nat.le_refl _) s (k+(Utf8.decode s k).2))
   have hk1:(k:Int)≤(s.size:Int):=by omega
   have hpl:=pl_iff s k hp
   have HK:=Lib.hid hks
   clear hks
   by_cases h1:((Utf8.decode s k).1:Int)<32
   ·have HN:Hid (¬ PlDd ((bI s).drop k)):=Lib.hid (fun h=>hpl.1 h (Or.inl h1))
    generalize Utf8.decode s k=d at *
    clear hbd hpl HL
    go_wp2_with fail
    go_ret
    exact⟨⟨k,rfl,HK.out,HA.out,HN.out⟩,HB2.out⟩
   by_cases h2:((Utf8.decode s k).1:Int)=34
   ·have HN:Hid (¬ PlDd ((bI s).drop k)):=Lib.hid (fun h=>hpl.1 h (Or.inr (Or.inl h2)))
    generalize Utf8.decode s k=d at *
    clear hbd hpl HL
    go_wp2_with fail
    go_ret
    exact⟨⟨k,rfl,HK.out,HA.out,HN.out⟩,HB2.out⟩
   by_cases h3:((Utf8.decode s k).1:Int)=92
   ·have HN:Hid (¬ PlDd ((bI s).drop k)):=Lib.hid (fun h=>hpl.1 h (Or.inr (Or.inr (Or.inl h3))))
    generalize Utf8.decode s k=d at *
    clear hbd hpl HL
    go_wp2_with fail
    go_ret
    exact⟨⟨k,rfl,HK.out,HA.out,HN.out⟩,HB2.out⟩
   by_cases hl:runeP ((bI s).drop k)=[]
   ·have HN:Hid (¬ PlDd ((bI s).drop k)):=Lib.hid (fun h=>hpl.1 h (Or.inr (Or.inr (Or.inr hl))))
    rw[decide_eq_true hl] at HL
    generalize Utf8.decode s k=d at *
    clear hbd hpl hl
    go_wp2_with fail
    refine(HL.out _).mono ?_
    rintro e w2 ⟨rfl,hb2⟩
    have HB3:=Lib.hid (HB2.out.trans (hb2.mono HB2.out.size))
    clear hb2
    go_wp2_with fail
    go_ret
    exact⟨⟨k,rfl,HK.out,HA.out,HN.out⟩,HB3.out⟩
   ·have hP:PlDd ((bI s).drop k):=hpl.2 (by rintro(h|h|h|h);exact h1 h;exact h2 h;exact h3 h;exact hl h)
    have HA2:=Lib.hid (adv_step HA.out hP)
    rw[← (width_rune s k hp hl).1] at HA2
    rw[decide_eq_false hl] at HL
    generalize Utf8.decode s k=d at *
    have HD:=Lib.hid hbd
    have b2:((d.1:Int) == 34)=false:=by simpa using h2
    have b3:((d.1:Int) == 92)=false:=by simpa using h3
    clear hbd hpl hl hP
    go_wp2_with fail
    refine(HL.out _).mono ?_
    rintro e w2 ⟨rfl,hb2⟩
    have HB3:=Lib.hid (HB2.out.trans (hb2.mono HB2.out.size))
    have HW2:Hid (w2.heap[w.heap.size]?=some (.stringIter s (k+d.2))):=Lib.hid (by rw[hb2.block _ (Array.getElem?_eq_some_iff.1 HW.out).1];exact HW.out)
    clear hb2
    go_wp2_with fail
    refine⟨⟨k+d.2,HD.out.2.2,HA2,HW2,HB3⟩,?_⟩
    have:=HD.out
    simp only[World.iterPos,HW2.out,HIT.out]
    omega
  ·have hnx:=fun ty=>Lib.run_next_end_at (P:=Tryz.prog) wr w.heap.size s k ty HIT.out hp
   have hk:k=s.size:=by omega
   have HN:Hid (¬ PlDd ((bI s).drop s.size)):=Lib.hid (pl_nil s s.size (by omega))
   subst hk
   clear hp hks
   go_wp2_with fail
   go_ret
   exact⟨⟨s.size,rfl,Nat.le_refl _,HA.out,HN.out⟩,HB.out⟩
structure TInv (s:ByteArray) (R:List Int × Nat × Int) (p:Nat) (out:List Int):Prop where
 le:p≤s.size
 run:R=takeG s.size ((bI s).drop p) p out
 len:out.length≤4*p
 byte:∀ b ∈ out,0≤b∧b<256
theorem TInv.plain {s:ByteArray} {R:List Int × Nat × Int} {p k:Nat} {out:List Int} (h:TInv s R p out) (hk:Adv ((bI s).drop p) k):TInv s R (p+k) (out++((bI s).drop p).take k):=by
 have h1:=hk.1
 have hp:=h.le
 rw[List.length_drop,bI_len] at h1
 refine⟨by omega,?_,?_,?_⟩
 ·rw[h.run,hk.2 _ _ _ (by rw[List.length_drop,bI_len];omega),List.drop_drop]
 ·have:=h.len
  rw[List.length_append,List.length_take,List.length_drop,bI_len]
  omega
 ·intro b hb
  rcases List.mem_append.1 hb with hb|hb
  ·exact h.byte b hb
  ·exact bI_byte s b (List.mem_of_mem_drop (List.mem_of_mem_take hb))
theorem TInv.short {s:ByteArray} {R:List Int × Nat × Int} {p:Nat} {out:List Int} (h:TInv s R p out) (hs:stepP ((bI s).drop p)=.short):R=([],s.size,3):=by
 have hp:=h.le
 have e:p+((bI s).drop p).length=s.size:=by rw[List.length_drop,bI_len];omega
 rw[h.run]
 cases hf:s.size with
 | zero=>rw[takeG,← hf,e]
 | succ f =>
  rw[takeG_step,hs]
  show ([],p+_,3)=_
  rw[e,hf]
theorem TInv.pos {s:ByteArray} {R:List Int × Nat × Int} {p:Nat} {out:List Int} (h:TInv s R p out) (hp:p<s.size):∃ f,s.size=f+1∧R=match stepP ((bI s).drop p) with
  | .short=>([],p+((bI s).drop p).length,3)
  | .form=>([],p,4)
  | .fin=>(out,p+1,0)
  | .piece t n=>takeG f (((bI s).drop p).drop n) (p+n) (out++t):=by
 obtain⟨f,hf⟩:∃ f,s.size=f+1:=⟨s.size - 1,by omega⟩
 refine⟨f,hf,?_⟩
 have:=h.run
 rw[hf,takeG_step] at this
 exact this
theorem TInv.form {s:ByteArray} {R:List Int × Nat × Int} {p:Nat} {out:List Int} (h:TInv s R p out) (hp:p<s.size) (hs:stepP ((bI s).drop p)=.form):R=([],p,4):=by
 obtain⟨f,_,hr⟩:=h.pos hp
 rw[hs] at hr;exact hr
theorem TInv.fin {s:ByteArray} {R:List Int × Nat × Int} {p:Nat} {out:List Int} (h:TInv s R p out) (hp:p<s.size) (hs:stepP ((bI s).drop p)=.fin):R=(out,p+1,0):=by
 obtain⟨f,_,hr⟩:=h.pos hp
 rw[hs] at hr;exact hr
theorem TInv.piece {s:ByteArray} {R:List Int × Nat × Int} {p n:Nat} {c:Int} {out:List Int} (h:TInv s R p out) (hp:p<s.size) (hs:stepP ((bI s).drop p)=.piece (encC c) n) (h1:1≤n) (h2:n≤((bI s).drop p).length):TInv s R (p+n) (out++encC c):=by
 obtain⟨f,hf,hr⟩:=h.pos hp
 rw[hs] at hr
 rw[List.length_drop,bI_len] at h2
 refine⟨by omega,?_,?_,?_⟩
 ·rw[hr]
  show takeG f (((bI s).drop p).drop n) _ _=_
  rw[List.drop_drop,takeG_fuel f s.size _ _ _ (by rw[List.length_drop,bI_len];omega) (by rw[List.length_drop,bI_len];omega)]
 ·have:=h.len
  have:=encC_len c
  rw[List.length_append];omega
 ·intro b hb
  rcases List.mem_append.1 hb with hb|hb
  ·exact h.byte b hb
  ·exact encC_byte c b hb
theorem at_split (s:ByteArray) (p:Nat) (h:p<s.size):(bI s).drop p=((s[p]'h).toNat:Int) :: (bI s).drop (p+1):=by
 have h1:=bI_get s p h
 have hk:p<(bI s).length:=by rw[bI_len];exact h
 rw[List.drop_eq_getElem_cons hk]
 rw[List.getElem?_eq_getElem hk] at h1
 injection h1 with h2
 rw[h2]
def TakeEndDd (R:List Int × Nat × Int) (w:World) (e:Ending) (w':World):Prop:=e=.returned (.tuple #[.string (str R.1),.int .i64 (R.2.1:Nat),.int .i64 R.2.2])∧Below w.heap.size w w'
def addNat:Value→Nat
 | .int _ n=>n.toNat
 | _=>0
set_option maxHeartbeats 8000000 in
theorem runes_any (s:ByteArray) (p0:Nat) (w:World) (hp0:p0≤s.size) (hs:s.size≤10000):Calls Tryz.prog 209 #[.string s,.int .i64 p0] w (TakeEndDd (takeG s.size ((bI s).drop p0) p0 []) w):=by
 have H0:Hid (TInv s (takeG s.size ((bI s).drop p0) p0 []) p0 []):=Lib.hid ⟨hp0,rfl,by simp,by simp⟩
 generalize takeG s.size ((bI s).drop p0) p0 []=R at *
 have e0:str []={ data:=#[] }:=rfl
 have HD0:=Lib.hid (Bd.fresh w)
 have HB0:Hid (Below w.heap.size w (w.alloc (.cells #[.pointer none,.slice none 0 0] 175))):=Lib.hid ((Below.refl _ w).alloc (Nat.le_refl _) _)
 unfold TakeEndDd
 clear hp0
 go_enter Tryz.func209,Tryz.ntmps209
 go_wp2_with fail
 go_loopw [1] (fun i wr=>∃ (p:Nat) (out:List Int),i=.int .i64 p∧Hid (TInv s R p out)∧Hid (Bd w.heap.size out wr)∧Hid (Below w.heap.size w wr)) (fun i _=>s.size - addNat i)
 case atStart=>exact⟨p0,[],rfl,H0,HD0,HB0⟩
 case round =>
  obtain⟨p,out,rfl,HI,HD,HB⟩:=hrel
  have hle:=HI.out.le
  have hps:(p:Int)≤(s.size:Int):=by omega
  have hln:=HI.out.len
  have HPL:=Lib.hid (fun W=>plain_any (s.extract p s.size) W (by rw[ByteArray.size_extract];omega))
  unfold PlainEnd at HPL
  rw[bI_from s p hle] at HPL
  have HLN:=Lib.hid (show out.length≤4*p∧p≤s.size from ⟨hln,hle⟩)
  clear hln hle
  go_wp2_with fail
  refine(HPL.out _).mono ?_
  rintro e w1 ⟨⟨k,rfl,hk1,hk2,hk3⟩,hb1⟩
  obtain⟨q,hq⟩:∃ q,p+k=q:=⟨_,rfl⟩
  have hq2:(p:Int)+(k:Int)=(q:Int):=by omega
  have hle:=HLN.out.2
  have hqs:q≤s.size:=by rw[ByteArray.size_extract] at hk1;omega
  have hpq:(p:Int)≤(q:Int):=by omega
  have hqi:(q:Int)≤(s.size:Int):=by omega
  have hbe:bI (s.extract p q)=((bI s).drop p).take k:=by rw[bI_extract _ _ _ (by omega),show q - p=k by omega]
  have HI1:Hid (TInv s R q (out++bI (s.extract p q))):=Lib.hid (by rw[hbe,← hq];exact HI.out.plain hk2)
  have HNP:Hid (¬ PlDd ((bI s).drop q)):=Lib.hid (by rw[← hq,← List.drop_drop];exact hk3)
  have HD1:=Lib.hid (HD.out.kept hb1)
  have HB1:=Lib.hid (HB.out.trans (hb1.mono HB.out.size))
  have HWS:=Lib.hid (fun W (hb:Bd w.heap.size out W)=>ws_any w.heap.size out (s.extract p q) W hb (by have:=HLN.out.1;omega) (by rw[ByteArray.size_extract];omega))
  have wq:IntKind.i64.wrap (q:Int)=(q:Int):=by rw[IntKind.wrap_i64];omega
  have HPQ:Hid (p≤q):=Lib.hid (by omega)
  generalize out++bI (s.extract p q)=out1 at *
  clear hq hk1 hk2 hk3 hb1 hbe hle hpq
  go_wp2_with fail
  refine(HWS.out _ HD1.out).mono ?_
  rintro e w2 ⟨rfl,g1,g2,g3⟩
  have HD2:=Lib.hid g1
  have HB2:=Lib.hid (HB1.out.trans g2)
  clear g1 g2 g3
  by_cases hend:q=s.size
  ·have HR:Hid (R=([],q,3)):=Lib.hid (by rw[hend];exact HI1.out.short (by rw[List.drop_of_length_le (by rw[bI_len];omega)];rfl))
   have hend2:(q:Int)=(s.size:Int):=by omega
   have hend3:((q:Int) == (s.size:Int))=true:=by simpa using hend2
   clear hend hend2
   go_wp2_with fail
   refine bodyPost_ret (v:=.tuple #[.string { data:=#[] },.int .i64 q,.int .i64 3]) (by simp[results,Tryz.results209,go_sem]) rfl ⟨by rw[HR.out,e0],HB2.out⟩
  have hlt:q<s.size:=by omega
  have hlt2:(q:Int)<(s.size:Int):=by omega
  have hend3:((q:Int) == (s.size:Int))=false:=by
   rw[beq_eq_false_iff_ne];omega
  have hsp:=at_split s q hlt
  have hbl:=(s[q]'hlt).toNat_lt
  obtain⟨b,hbv⟩:∃ b:Int,((s[q]'hlt).toNat:Int)=b:=⟨_,rfl⟩
  rw[hbv] at hsp
  clear hend
  by_cases h34:b=34
  ·have HR:Hid (R=(out1,q+1,0)):=Lib.hid (HI1.out.fin hlt (by rw[hsp,h34];exact step_34 _))
   have HST:=Lib.hid (fun W (hb:Bd w.heap.size out1 W)=>st_any w.heap.size out1 W hb HI1.out.byte)
   have w1q:IntKind.i64.wrap ((q:Int)+1)=(q:Int)+1:=by rw[IntKind.wrap_i64];omega
   subst h34
   clear hsp hbl
   go_wp2_with fail
   refine(HST.out _ HD2.out).mono ?_
   rintro e w3 ⟨rfl,g2⟩
   have HB3:=Lib.hid (HB2.out.trans g2)
   clear g2
   go_wp2_with fail
   refine bodyPost_ret (v:=.tuple #[.string (str out1),.int .i64 ((q:Int)+1),.int .i64 0]) (by simp[results,Tryz.results209,go_sem]) rfl ⟨by rw[HR.out];rfl,HB3.out⟩
  have b34:(b == 34)=false:=by rw[beq_eq_false_iff_ne];exact h34
  by_cases h92:b=92
  ·subst h92
   have hst:stepP ((bI s).drop q)=escP ((bI s).drop q):=by rw[hsp];exact step_esc _
   have hfr:=bI_from s q (Nat.le_of_lt hlt)
   have HMK:=Lib.hid (fun W=>mark_any (s.extract q s.size) W (by rw[ByteArray.size_extract];omega) (by rw[ByteArray.size_extract];omega) (by rw[hfr,hsp];rfl))
   unfold MarkEnd at HMK
   rw[hfr] at HMK
   have HST:=Lib.hid hst
   have HLEN:Hid (((bI s).drop q).length=s.size - q):=Lib.hid (by rw[List.length_drop,bI_len])
   have HLT:=Lib.hid hlt
   clear hsp hbl hfr hst
   go_wp2_with fail
   refine(HMK.out _).mono ?_
   rintro e w3 ⟨⟨c,n,er,rfl,hok⟩,hb3⟩
   have HB3:=Lib.hid (HB2.out.trans (hb3.mono HB2.out.size))
   have HD3:=Lib.hid (HD2.out.kept hb3)
   clear hb3
   rcases hok with ⟨rfl,h1⟩|⟨rfl,h1⟩|⟨rfl,h1,h2,h3,h4⟩
   ·have HR:Hid (R=([],s.size,3)):=Lib.hid (HI1.out.short (by rw[HST.out];exact h1))
    clear h1
    go_wp2_with fail
    refine bodyPost_ret (v:=.tuple #[.string { data:=#[] },.int .i64 s.size,.int .i64 3]) (by simp[results,Tryz.results209,go_sem]) rfl ⟨by rw[HR.out,e0],HB3.out⟩
   ·have HR:Hid (R=([],q,4)):=Lib.hid (HI1.out.form HLT.out (by rw[HST.out];exact h1))
    clear h1
    go_wp2_with fail
    refine bodyPost_ret (v:=.tuple #[.string { data:=#[] },.int .i64 q,.int .i64 4]) (by simp[results,Tryz.results209,go_sem]) rfl ⟨by rw[HR.out,e0],HB3.out⟩
   ·have HI2:=Lib.hid (HI1.out.piece HLT.out (by rw[HST.out];exact h1) h3 h4)
    have HL1:Hid (out1.length≤900000):=Lib.hid (by have:=HI1.out.len;omega)
    have HWR:=Lib.hid (fun W (hb:Bd w.heap.size out1 W)=>wr_any w.heap.size out1 c W hb h2 (by have:=HL1.out;omega))
    have hn:n≤s.size - q:=by rw[← HLEN.out];exact h4
    have wn:IntKind.i64.wrap ((q:Int)+(n:Int))=(q:Int)+(n:Int):=by rw[IntKind.wrap_i64];omega
    have HN:=Lib.hid (show 1≤n∧n≤s.size - q from ⟨h3,hn⟩)
    clear h1 h2 h3 h4 hn
    go_wp2_with fail
    refine(HWR.out _ HD3.out).mono ?_
    rintro e w4 ⟨rfl,g1,g2,g3⟩
    have HD4:=Lib.hid g1
    have HB4:=Lib.hid (HB3.out.trans g2)
    clear g1 g2 g3
    go_wp2_with fail
    refine⟨⟨q+n,_,by go_num,HI2,HD4,HB4⟩,?_⟩
    have:=HN.out
    have:=HPQ.out
    have:=HLT.out
    simp only[addNat]
    omega
  ·have HR:Hid (R=([],q,4)):=Lib.hid (HI1.out.form hlt (step_not HNP.out (by rw[hsp];simp) (by rw[hsp];exact h34) (by rw[hsp];exact h92)))
   have b92:(b == 92)=false:=by rw[beq_eq_false_iff_ne];exact h92
   clear hsp hbl
   go_wp2_with fail
   refine bodyPost_ret (v:=.tuple #[.string { data:=#[] },.int .i64 q,.int .i64 4]) (by simp[results,Tryz.results209,go_sem]) rfl ⟨by rw[HR.out,e0],HB2.out⟩
theorem takeP_at (l:List Int) (p:Nat) (hp:p<l.length) (h:l.getD p 0=34):takeP l p=takeG l.length (l.drop (p+1)) (p+1) []:=by
 unfold takeP
 rw[if_neg (by omega),if_neg (by omega),if_neg (by rw[Int.toNat_natCast];exact fun hq=>hq h)]
 rw[Int.toNat_natCast]
set_option maxHeartbeats 2000000 in
theorem jtake_any (s:ByteArray) (p:Nat) (w:World) (hp:p≤s.size) (hs:s.size≤10000):Calls Tryz.prog 165 #[.string s,.int .i64 p] w fun e w'=>e=.returned (.tuple #[.string (str (takeP (bI s) p).1),.int .i64 ((takeP (bI s) p).2.1:Nat),.int .i64 (takeP (bI s) p).2.2])∧Below w.heap.size w w':=by
 have e0:str []={ data:=#[] }:=rfl
 have hl:=bI_len s
 have n0:¬ (p:Int)<0:=by omega
 by_cases he:p=s.size
 ·have HR:Hid (takeP (bI s) p=([],p,3)):=Lib.hid (by
   unfold takeP
   rw[if_neg (by omega),if_pos (by omega),Int.toNat_natCast])
  rw[HR.out,e0]
  have q1:(p:Int)≤(s.size:Int):=by omega
  have q2:((p:Int) == (s.size:Int))=true:=by simpa using (show (p:Int)=s.size by omega)
  clear HR hl he hp
  go_enter Tryz.func165,Tryz.ntmps165
  go_wp2_with fail
  refine bodyPost_ret (v:=.tuple #[.string { data:=#[] },.int .i64 p,.int .i64 3]) (by simp[results,Tryz.results165,go_sem]) rfl ⟨rfl,by go_grown⟩
 have hlt:p<s.size:=by omega
 have hsp:=at_split s p hlt
 have hgd:(bI s).getD p 0=((s[p]'hlt).toNat:Int):=by
  rw[List.getD_eq_getElem?_getD,bI_get s p hlt];rfl
 have hbl:=(s[p]'hlt).toNat_lt
 obtain⟨b,hbv⟩:∃ b:Int,((s[p]'hlt).toNat:Int)=b:=⟨_,rfl⟩
 rw[hbv] at hgd
 have q1:(p:Int)<(s.size:Int):=by omega
 have q2:((p:Int) == (s.size:Int))=false:=by rw[beq_eq_false_iff_ne];omega
 by_cases h34:b=34
 ·have HR:Hid (takeP (bI s) p=takeG s.size ((bI s).drop (p+1)) (p+1) []):=Lib.hid (by
   rw[takeP_at _ _ (by omega) (by rw[hgd,h34]),hl])
  have HK:=Lib.hid (fun W=>runes_any s (p+1) W (by omega) hs)
  unfold TakeEndDd at HK
  rw[HR.out]
  generalize takeG s.size ((bI s).drop (p+1)) (p+1) []=R at *
  have w1:IntKind.i64.wrap ((p:Int)+1)=((p+1:Nat):Int):=by rw[IntKind.wrap_i64];omega
  subst h34
  clear HR hsp hbl hgd hl he
  go_enter Tryz.func165,Tryz.ntmps165
  go_wp2_with fail
  refine(HK.out _).mono ?_
  rintro e w1 ⟨rfl,hb1⟩
  go_wp2_with fail
  refine bodyPost_ret (v:=.tuple #[.string (str R.1),.int .i64 (R.2.1:Nat),.int .i64 R.2.2]) (by simp[results,Tryz.results165,go_sem]) rfl ⟨rfl,hb1⟩
 ·have HR:Hid (takeP (bI s) p=([],p,4)):=Lib.hid (by
   unfold takeP
   rw[if_neg (by omega),if_neg (by omega),Int.toNat_natCast,if_pos (by rw[hgd];exact h34)])
  rw[HR.out,e0]
  have b34:(b == 34)=false:=by rw[beq_eq_false_iff_ne];exact h34
  clear HR hsp hbl hgd hl he
  go_enter Tryz.func165,Tryz.ntmps165
  go_wp2_with fail
  refine bodyPost_ret (v:=.tuple #[.string { data:=#[] },.int .i64 p,.int .i64 4]) (by simp[results,Tryz.results165,go_sem]) rfl ⟨rfl,by go_grown⟩
end Go.Proofs.YtdnmgpcfgcidbaaGreatDoor
