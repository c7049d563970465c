/- dJa dJb dLa dJg dNm dPa dJe dJf dJc dJj dJp. -/
import Derived.Test.YtdnmgpcfgcidbaaGreatDoorTb5
import Derived.Deep.Slices
namespace Go.Proofs.YtdnmgpcfgcidbaaGreatDoor
set_option linter.unusedVariables false
set_option linter.unusedSimpArgs false
set_option maxRecDepth 20000
def encC (c:Int):List Int :=
 if c<0∨1114111<c∨(55296≤c∧c≤57343) then [] else if c<128 then [c] else if c<2048 then [192+c / 64,128+c % 64]
 else if c<65536 then [224+c / 4096,128+c / 64 % 64,128+c % 64] else [240+c / 262144,128+c / 4096 % 64,128+c / 64 % 64,128+c % 64]
def runeP4 (b0 b1 b2:Int):List Int→List Int
 | []=>[]
 | b3 :: _=>if encC (64*(64*(64*(b0 % 8)+b1 % 64)+b2 % 64)+b3 % 64)=[b0,b1,b2,b3] then [b0,b1,b2,b3] else []
def runeP3 (b0 b1:Int):List Int→List Int
 | []=>[]
 | b2 :: t=>if encC (64*(64*(b0 % 16)+b1 % 64)+b2 % 64)=[b0,b1,b2] then [b0,b1,b2] else runeP4 b0 b1 b2 t
def runeP2 (b0:Int):List Int→List Int
 | []=>[]
 | b1 :: t=>if encC (64*(b0 % 32)+b1 % 64)=[b0,b1] then [b0,b1] else runeP3 b0 b1 t
def runeP:List Int→List Int
 | []=>[]
 | b0 :: t=>if encC b0=[b0] then [b0] else runeP2 b0 t
theorem encC_ways (c:Int):encC c=[]∨(0≤c∧c<128∧encC c=[c])∨(128≤c∧c<2048∧encC c=[192+c / 64,128+c % 64])∨(2048≤c∧c<65536∧¬ (55296≤c∧c≤57343)∧encC c=[224+c / 4096,128+c / 64 % 64,128+c % 64]) ∨
  (65536≤c∧c≤1114111∧encC c=[240+c / 262144,128+c / 4096 % 64,128+c / 64 % 64,128+c % 64]):=by
 unfold encC
 by_cases h0:c<0∨1114111<c∨(55296≤c∧c≤57343)
 ·left;rw[if_pos h0]
 rw[if_neg h0]
 by_cases h1:c<128
 ·right;left;rw[if_pos h1];exact⟨by omega,h1,rfl⟩
 rw[if_neg h1]
 by_cases h2:c<2048
 ·right;right;left;rw[if_pos h2];exact⟨by omega,h2,rfl⟩
 rw[if_neg h2]
 by_cases h3:c<65536
 ·right;right;right;left;rw[if_pos h3];exact⟨by omega,h3,by omega,rfl⟩
 rw[if_neg h3]
 right;right;right;right
 exact⟨by omega,by omega,rfl⟩
theorem encC_nil (c:Int):encC c=[]↔(c<0∨1114111<c∨(55296≤c∧c≤57343)):=by
 constructor
 ·intro h
  unfold encC at h
  by_cases h0:c<0∨1114111<c∨(55296≤c∧c≤57343)
  ·exact h0
  rw[if_neg h0] at h
  split at h
  ·cases h
  split at h
  ·cases h
  split at h <;> cases h
 ·intro h;unfold encC;rw[if_pos h]
theorem encC_len (c:Int):(encC c).length≤4:=by
 rcases encC_ways c with h|⟨_,_,h⟩|⟨_,_,h⟩|⟨_,_,_,h⟩|⟨_,_,h⟩ <;> rw[h] <;> simp
theorem encC_byte (c:Int):∀ b ∈ encC c,0≤b∧b<256:=by
 intro b hb
 rcases encC_ways c with h|⟨h1,h2,h⟩|⟨h1,h2,h⟩|⟨h1,h2,_,h⟩|⟨h1,h2,h⟩ <;> rw[h] at hb <;> simp at hb <;> omega
theorem encC_high (c:Int) (hc:128≤c):∀ b ∈ encC c,128≤b:=by
 intro b hb
 rcases encC_ways c with h|⟨h1,h2,h⟩|⟨h1,h2,h⟩|⟨h1,h2,_,h⟩|⟨h1,h2,h⟩ <;> rw[h] at hb <;> simp at hb <;> omega
theorem encC_ne1 (c b0:Int) (h0:128≤b0):encC c≠[b0]:=by
 rcases encC_ways c with h|⟨h1,h2,h⟩|⟨h1,h2,h⟩|⟨h1,h2,_,h⟩|⟨h1,h2,h⟩ <;> rw[h] <;> simp
 omega
theorem encC_is2 (c b0 b1:Int) (h:encC c=[b0,b1]):194≤b0∧b0≤223∧128≤b1∧b1<192∧c=64*(b0 % 32)+b1 % 64:=by
 rcases encC_ways c with h'|⟨h1,h2,h'⟩|⟨h1,h2,h'⟩|⟨h1,h2,_,h'⟩|⟨h1,h2,h'⟩ <;> rw[h'] at h <;> simp at h
 omega
theorem encC_is3 (c b0 b1 b2:Int) (h:encC c=[b0,b1,b2]):224≤b0∧b0≤239∧128≤b1∧b1<192∧128≤b2∧b2<192∧c=64*(64*(b0 % 16)+b1 % 64)+b2 % 64:=by
 rcases encC_ways c with h'|⟨h1,h2,h'⟩|⟨h1,h2,h'⟩|⟨h1,h2,_,h'⟩|⟨h1,h2,h'⟩ <;> rw[h'] at h <;> simp at h
 omega
theorem rune_of (c:Int) (t:List Int) (h:encC c≠[]):runeP (encC c++t)=encC c:=by
 rcases encC_ways c with h'|⟨h1,h2,h'⟩|⟨h1,h2,h'⟩|⟨h1,h2,h3,h'⟩|⟨h1,h2,h'⟩
 ·exact absurd h' h
 ·rw[h',List.singleton_append,runeP,if_pos h']
 ·rw[h']
  have e:64*((192+c / 64) % 32)+(128+c % 64) % 64=c:=by omega
  rw[List.cons_append,List.cons_append,List.nil_append,runeP,if_neg (encC_ne1 _ _ (by omega)),runeP2,e,if_pos h']
 ·rw[h']
  have e:64*(64*((224+c / 4096) % 16)+(128+c / 64 % 64) % 64)+(128+c % 64) % 64=c:=by omega
  rw[List.cons_append,List.cons_append,List.cons_append,List.nil_append,runeP,if_neg (encC_ne1 _ _ (by omega)),runeP2,if_neg (fun hq=>by have:=encC_is2 _ _ _ hq;omega),runeP3,e,if_pos h']
 ·rw[h']
  have e:64*(64*(64*((240+c / 262144) % 8)+(128+c / 4096 % 64) % 64)+(128+c / 64 % 64) % 64)+(128+c % 64) % 64=c:=by omega
  rw[List.cons_append,List.cons_append,List.cons_append,List.cons_append,List.nil_append,runeP,if_neg (encC_ne1 _ _ (by omega)),runeP2,if_neg (fun hq=>by have:=encC_is2 _ _ _ hq;omega),runeP3,if_neg (fun hq=>by have:=encC_is3 _ _ _ _ hq;omega),runeP4,e,if_pos h']
theorem rune_is (l:List Int) (h:runeP l≠[]):∃ c t,encC c=runeP l∧l=runeP l++t:=by
 cases l with
 | nil=>exact absurd rfl h
 | cons b0 t =>
  rw[runeP] at h ⊢
  split
  ·exact⟨b0,t,by assumption,rfl⟩
  rename_i n0
  rw[if_neg n0] at h
  cases t with
  | nil=>exact absurd rfl h
  | cons b1 t =>
   rw[runeP2] at h ⊢
   split
   ·exact⟨_,t,by assumption,rfl⟩
   rename_i n1
   rw[if_neg n1] at h
   cases t with
   | nil=>exact absurd rfl h
   | cons b2 t =>
    rw[runeP3] at h ⊢
    split
    ·exact⟨_,t,by assumption,rfl⟩
    rename_i n2
    rw[if_neg n2] at h
    cases t with
    | nil=>exact absurd rfl h
    | cons b3 t =>
     rw[runeP4] at h ⊢
     split
     ·exact⟨_,t,by assumption,rfl⟩
     rename_i n3
     rw[if_neg n3] at h
     exact absurd rfl h
theorem rune_len (l:List Int):(runeP l).length≤l.length∧(runeP l).length≤4:=by
 by_cases h:runeP l=[]
 ·rw[h];simp
 ·obtain⟨c,t,h1,h2⟩:=rune_is l h
  refine⟨?_,by rw[← h1];exact encC_len c⟩
  have:=congrArg List.length h2
  rw[List.length_append] at this
  omega
theorem rune_take (l:List Int) (h:runeP l≠[]):l.take (runeP l).length=runeP l:=by
 obtain⟨c,t,h1,h2⟩:=rune_is l h
 have e:=congrArg (List.take (runeP l).length) h2
 rw[List.take_left' rfl] at e
 exact e
inductive Val:List Int→Nat→Prop
 | nil:Val [] 0
 | cons (c:Int) (l:List Int) (n:Nat):encC c≠[]→Val l n→Val (encC c++l) (n+1)
def countF:Nat→List Int→Int
 | 0,l=>if l=[] then 0 else -1
 | f+1,l=>if l=[] then 0 else if runeP l=[] then -1 else if countF f (l.drop (runeP l).length)<0 then -1 else countF f (l.drop (runeP l).length)+1
def countP (l:List Int):Int:=countF l.length l
theorem val_head {l:List Int} {n:Nat} (h:Val l n) (hl:l≠[]):∃ c m k,encC c≠[]∧l=encC c++m∧n=k+1∧Val m k:=by
 cases h with
 | nil=>exact absurd rfl hl
 | cons c m k h1 h2=>exact⟨c,m,k,h1,rfl,rfl,h2⟩
theorem val_count:∀ (f:Nat) (l:List Int) (n:Nat),l.length≤f→Val l n→countF f l=n
 | 0,l,n,hf,h=>by
  have:l=[]:=List.eq_nil_of_length_eq_zero (by omega)
  subst this
  cases hn:n with
  | zero=>rfl
  | succ k =>
   subst hn
   generalize hl:([]:List Int)=l at h
   cases h with
   | cons c m k h1 h2=>rcases List.append_eq_nil_iff.1 hl.symm with ⟨h3,_⟩;exact absurd h3 h1
 | f+1,l,n,hf,h=>by
  by_cases hl:l=[]
  ·subst hl
   rw[countF,if_pos rfl]
   generalize hl:([]:List Int)=l at h
   cases h with
   | nil=>rfl
   | cons c m k h1 h2=>rcases List.append_eq_nil_iff.1 hl.symm with ⟨h3,_⟩;exact absurd h3 h1
  ·obtain⟨c,m,k,h1,rfl,rfl,h2⟩:=val_head h hl
   rw[countF,if_neg hl,rune_of c m h1,if_neg h1,List.drop_left]
   have hp:0<(encC c).length:=List.length_pos_iff.2 h1
   rw[List.length_append] at hf
   rw[val_count f m k (by omega) h2,if_neg (by omega)]
   push_cast
   rfl
theorem count_is {l:List Int} {n:Nat} (h:Val l n):countP l=n:=val_count _ l n (Nat.le_refl _) h
def digP (c:Int):Int:=if 48≤c∧c≤57 then c - 48 else if 97≤c∧c≤102 then c - 87 else if 65≤c∧c≤70 then c - 55 else -1
def badF (i:Nat) (b:Int):Prop:=(i=0∧b≠92)∨(i=1∧b≠117)∨(1<i∧digP b<0)
instance (i:Nat) (b:Int):Decidable (badF i b):=by unfold badF;infer_instance
def fourG:Nat→Nat→Int→List Int→Int × Int
 | 0,_,c,_=>(c,0)
 | _+1,_,_,[]=>(0,3)
 | f+1,i,c,b :: t=>if badF i b then (0,4) else fourG f (i+1) (if 1<i then 16*c+digP b else c) t
def fourP (l:List Int):Int × Int:=fourG 6 0 0 l
def twoP (b:Int):Option Int :=
 if b=34 then some 34 else if b=92 then some 92 else if b=47 then some 47 else if b=98 then some 8 else if b=102 then some 12 else if b=110 then some 10 else if b=114 then some 13 else if b=116 then some 9 else none
inductive St
 | short
 | form
 | fin
 | piece (t:List Int) (n:Nat)
deriving DecidableEq
def badE (e:Int):St:=if e=3 then .short else .form
def escP (l:List Int):St :=
 match l with
 | _ :: b :: _=>match twoP b with
  | some x=>.piece [x] 2
  | none=>if (fourP l).2≠0 then badE (fourP l).2 else if (fourP l).1<55296∨57343<(fourP l).1 then .piece (encC (fourP l).1) 6 else if 56319<(fourP l).1 then .form else
   if (fourP (l.drop 6)).2≠0 then badE (fourP (l.drop 6)).2 else if (fourP (l.drop 6)).1<56320∨57343<(fourP (l.drop 6)).1 then .form
   else .piece (encC (65536+1024*((fourP l).1 - 55296)+(fourP (l.drop 6)).1 - 56320)) 12
 | _=>.short
def stepP:List Int→St
 | []=>.short
 | b :: t=>if b=34 then .fin else if b=92 then escP (b :: t) else if runeP (b :: t)=[]∨b<32 then .form else .piece (runeP (b :: t)) (runeP (b :: t)).length
def takeG:Nat→List Int→Nat→List Int→List Int × Nat × Int
 | 0,l,p,_=>([],p+l.length,3)
 | f+1,l,p,out=>match stepP l with
  | .short=>([],p+l.length,3)
  | .form=>([],p,4)
  | .fin=>(out,p+1,0)
  | .piece t n=>takeG f (l.drop n) (p+n) (out++t)
def takeP (l:List Int) (at_:Int):List Int × Nat × Int :=
 if at_<0∨(l.length:Int)<at_ then ([],0,2) else if at_=l.length then ([],at_.toNat,3) else if l.getD at_.toNat 0≠34 then ([],at_.toNat,4)
 else takeG l.length (l.drop (at_.toNat+1)) (at_.toNat+1) []
theorem four_ok:∀ (f i:Nat) (c:Int) (l:List Int),(fourG f i c l).2=0→f≤l.length
 | 0,_,_,_,_=>Nat.zero_le _
 | f+1,i,c,[],h=>by rw[fourG] at h;cases h
 | f+1,i,c,b :: t,h=>by
  rw[fourG] at h
  split at h
  ·cases h
  ·have:=four_ok f _ _ t h
   rw[List.length_cons]
   omega
theorem four_err:∀ (f i:Nat) (c:Int) (l:List Int),(fourG f i c l).2=0∨(fourG f i c l).2=3∨(fourG f i c l).2=4
 | 0,_,_,_=>.inl rfl
 | f+1,i,c,[]=>.inr (.inl rfl)
 | f+1,i,c,b :: t=>by
  rw[fourG]
  split
  ·exact .inr (.inr rfl)
  ·exact four_err f _ _ t
theorem four_more:∀ (f i:Nat) (c:Int) (l x:List Int),f≤l.length→fourG f i c (l.take f++x)=fourG f i c l
 | 0,_,_,_,_,_=>by rw[fourG,fourG]
 | f+1,i,c,[],x,h=>by simp at h
 | f+1,i,c,b :: t,x,h=>by
  rw[List.take_succ_cons,List.cons_append,fourG,fourG]
  rw[List.length_cons] at h
  split
  ·rfl
  ·exact four_more f _ _ t x (by omega)
theorem four_cut:∀ (f i:Nat) (c:Int) (l:List Int),l.length<f→(fourG f i c l).2=3∨(fourG f i c l).2=4
 | 0,_,_,_,h=>by omega
 | f+1,i,c,[],h=>.inl rfl
 | f+1,i,c,b :: t,h=>by
  rw[fourG]
  rw[List.length_cons] at h
  split
  ·exact .inr rfl
  ·exact four_cut f _ _ t (by omega)
theorem dig_lt (c:Int):digP c<16∧-1≤digP c:=by
 unfold digP
 split
 ·omega
 split
 ·omega
 split <;> omega
theorem four_val:∀ (f i:Nat) (c:Int) (l:List Int),0≤c→(fourG f i c l).2=0→0≤(fourG f i c l).1
 | 0,_,c,_,h0,_=>h0
 | f+1,i,c,[],h0,h=>by rw[fourG] at h;cases h
 | f+1,i,c,b :: t,h0,h=>by
  rw[fourG] at h ⊢
  split at h
  ·cases h
  ·rename_i hb
   rw[if_neg hb]
   refine four_val f _ _ t ?_ h
   split
   ·rename_i hi
    have:¬ digP b<0:=fun hd=>hb (.inr (.inr ⟨hi,hd⟩))
    omega
   ·exact h0
theorem four_bd:∀ (f i:Nat) (c:Int) (l:List Int) (m:Int),0≤c→c<m→(fourG f i c l).2=0→(fourG f i c l).1<m*16 ^ f
 | 0,_,c,_,m,h0,h1,_=>by rw[fourG];omega
 | f+1,i,c,[],m,h0,h1,h=>by rw[fourG] at h;cases h
 | f+1,i,c,b :: t,m,h0,h1,h=>by
  rw[fourG] at h ⊢
  split at h
  ·cases h
  ·rename_i hb
   rw[if_neg hb]
   have hd:=dig_lt b
   have e:m*16 ^ (f+1)=(16*m)*16 ^ f:=by rw[Int.pow_succ];rw[Int.mul_comm (16 ^ f) 16,← Int.mul_assoc,Int.mul_comm m 16]
   rw[e]
   refine four_bd f _ _ t (16*m) ?_ ?_ h
   ·split
    ·rename_i hi
     have:¬ digP b<0:=fun hd=>hb (.inr (.inr ⟨hi,hd⟩))
     omega
    ·exact h0
   ·split <;> omega
theorem four_lt (l:List Int) (h:(fourP l).2=0):0≤(fourP l).1∧(fourP l).1<65536:=by
 refine⟨four_val 6 0 0 l (by omega) h,?_⟩
 unfold fourP at h ⊢
 match l,h with
 | [],h=>rw[fourG] at h;cases h
 | [b],h =>
  rw[fourG] at h
  split at h
  ·cases h
  ·rw[fourG] at h;cases h
 | b :: b1 :: t,h =>
  rw[fourG] at h ⊢
  split at h
  ·cases h
  rename_i h0
  rw[if_neg h0]
  rw[fourG] at h ⊢
  split at h
  ·cases h
  rename_i h1
  rw[if_neg h1]
  have e0:(if 1<0+1 then 16*(if 1<0 then 16*0+digP b else 0)+digP b1 else if 1<0 then 16*0+digP b else 0)=0:=by simp
  rw[e0] at h ⊢
  have:=four_bd 4 (0+1+1) 0 t 1 (by omega) (by omega) h
  omega
theorem four_len {l:List Int} (h:(fourP l).2=0):6≤l.length:=four_ok 6 0 0 l h
theorem badE_short (e:Int):badE e=.short∨badE e=.form:=by
 unfold badE
 split
 ·exact .inl rfl
 ·exact .inr rfl
theorem two_val {b x:Int} (h:twoP b=some x):encC x=[x]∧0≤x∧x<128:=by
 unfold twoP at h
 repeat' (split at h)
 all_goals first|(cases h;done)|(injection h with h;subst h;exact⟨by decide,by omega,by omega⟩)
theorem esc_of (a b:Int) (t:List Int):escP (a :: b :: t)=match twoP b with
  | some x=>.piece [x] 2
  | none=>if (fourP (a :: b :: t)).2≠0 then badE (fourP (a :: b :: t)).2 else if (fourP (a :: b :: t)).1<55296∨57343<(fourP (a :: b :: t)).1 then .piece (encC (fourP (a :: b :: t)).1) 6 else if 56319<(fourP (a :: b :: t)).1 then .form else
   if (fourP ((a :: b :: t).drop 6)).2≠0 then badE (fourP ((a :: b :: t).drop 6)).2 else if (fourP ((a :: b :: t).drop 6)).1<56320∨57343<(fourP ((a :: b :: t).drop 6)).1 then .form
   else .piece (encC (65536+1024*((fourP (a :: b :: t)).1 - 55296)+(fourP ((a :: b :: t).drop 6)).1 - 56320)) 12:=rfl
structure PieceOk (l:List Int) (t:List Int) (n:Nat):Prop where
 one:1≤n
 len:n≤l.length
 rune:∃ c,encC c=t
 ne:t≠[]
 more:∀ x,stepP (l.take n++x)=.piece t n
 cut:∀ k,k<n→stepP (l.take k)=.short∨stepP (l.take k)=.form
theorem step_esc (t:List Int):stepP (92 :: t)=escP (92 :: t):=rfl
theorem esc_cut (b:Int) (t:List Int) (h:twoP b=none) (hf:(fourP (92 :: b :: t)).2=3∨(fourP (92 :: b :: t)).2=4):escP (92 :: b :: t)=.short∨escP (92 :: b :: t)=.form:=by
 rw[esc_of,h]
 simp only
 rw[if_pos (by omega)]
 exact badE_short _
theorem take_lt_len {l:List Int} {k:Nat} (h:k≤l.length):(l.take k).length=k:=by rw[List.length_take];omega
theorem piece_esc (b:Int) (s:List Int) (t:List Int) (n:Nat) (h:escP (92 :: b :: s)=.piece t n):PieceOk (92 :: b :: s) t n:=by
 rw[esc_of] at h
 cases h2:twoP b with
 | some x =>
  rw[h2] at h
  simp only at h
  injection h with h3 h4
  subst h3 h4
  obtain⟨e1,e2,e3⟩:=two_val h2
  refine⟨by omega,by simp,⟨x,e1⟩,by simp,fun y=>?_,fun k hk=>?_⟩
  ·show escP (92 :: b :: ([]++y))=_
   rw[esc_of,h2]
  ·match k,hk with
   | 0,_=>exact .inl rfl
   | 1,_=>exact .inl rfl
 | none =>
  rw[h2] at h
  simp only at h
  by_cases h3:(fourP (92 :: b :: s)).2=0
  ·rw[if_neg (by simpa using h3)] at h
   have l6:=four_len h3
   have hv:=four_lt _ h3
   have cut6:∀ k,k<6→stepP ((92 :: b :: s).take k)=.short∨stepP ((92 :: b :: s).take k)=.form:=by
    intro k hk
    match k,hk with
    | 0,_=>exact .inl rfl
    | 1,_=>exact .inl rfl
    | k+2,hk =>
     rw[List.take_succ_cons,List.take_succ_cons,step_esc]
     refine esc_cut b _ h2 ?_
     refine four_cut 6 0 0 _ ?_
     simp only[List.length_cons,List.length_take]
     omega
   have more6:∀ y,fourP ((92 :: b :: s).take 6++y)=fourP (92 :: b :: s):=fun y=>four_more 6 0 0 _ y l6
   by_cases h4:(fourP (92 :: b :: s)).1<55296∨57343<(fourP (92 :: b :: s)).1
   ·rw[if_pos h4] at h
    injection h with h5 h6
    subst h5 h6
    refine⟨by omega,l6,⟨_,rfl⟩,fun e=>?_,fun y=>?_,cut6⟩
    ·have:=(encC_nil _).1 e
     omega
    ·have hm:=more6 y
     rw[List.take_succ_cons,List.take_succ_cons,List.cons_append,List.cons_append] at hm ⊢
     rw[step_esc,esc_of,h2]
     simp only
     rw[hm,if_neg (by simpa using h3),if_pos h4]
   ·rw[if_neg h4] at h
    by_cases h5:56319<(fourP (92 :: b :: s)).1
    ·rw[if_pos h5] at h;cases h
    rw[if_neg h5] at h
    by_cases h6:(fourP ((92 :: b :: s).drop 6)).2=0
    ·rw[if_neg (by simpa using h6)] at h
     by_cases h7:(fourP ((92 :: b :: s).drop 6)).1<56320∨57343<(fourP ((92 :: b :: s).drop 6)).1
     ·rw[if_pos h7] at h;cases h
     rw[if_neg h7] at h
     injection h with h8 h9
     subst h8 h9
     have l12:=four_len h6
     rw[List.length_drop] at l12
     refine⟨by omega,by omega,⟨_,rfl⟩,fun e=>?_,fun y=>?_,fun k hk=>?_⟩
     ·have:=(encC_nil _).1 e
      omega
     ·have e12:(92 :: b :: s).take 12++y=(92 :: b :: s).take 6++(((92 :: b :: s).drop 6).take 6++y):=by
       rw[← List.append_assoc]
       congr 1
       rw[show (12:Nat)=6+6 from rfl,List.take_add]
      have hm:=more6 (((92 :: b :: s).drop 6).take 6++y)
      rw[← e12] at hm
      have hd:((92 :: b :: s).take 12++y).drop 6=((92 :: b :: s).drop 6).take 6++y:=by
       rw[e12]
       exact List.drop_left' (take_lt_len l6)
      have hm2:fourP (((92 :: b :: s).take 12++y).drop 6)=fourP ((92 :: b :: s).drop 6):=by
       rw[hd]
       exact four_more 6 0 0 _ y (by rw[List.length_drop];omega)
      rw[List.take_succ_cons,List.take_succ_cons,List.cons_append,List.cons_append] at hm hm2 ⊢
      rw[step_esc,esc_of,h2]
      simp only
      rw[hm,hm2,if_neg (by simpa using h3),if_neg h4,if_neg h5,if_neg (by simpa using h6),if_neg h7]
     ·by_cases hk6:k<6
      ·exact cut6 k hk6
      ·have e12:(92 :: b :: s).take k=(92 :: b :: s).take 6++((92 :: b :: s).drop 6).take (k - 6):=by
        conv=>lhs;rw[show k=6+(k - 6) by omega,List.take_add]
       have hm:=more6 (((92 :: b :: s).drop 6).take (k - 6))
       rw[← e12] at hm
       have hd:((92 :: b :: s).take k).drop 6=((92 :: b :: s).drop 6).take (k - 6):=by
        rw[e12]
        exact List.drop_left' (take_lt_len l6)
       have hc:(fourP (((92 :: b :: s).take k).drop 6)).2=3∨(fourP (((92 :: b :: s).take k).drop 6)).2=4:=by
        rw[hd]
        refine four_cut 6 0 0 _ ?_
        rw[List.length_take]
        omega
       obtain⟨j,rfl⟩:∃ j,k=j+2:=⟨k - 2,by omega⟩
       rw[List.take_succ_cons,List.take_succ_cons] at hm hc ⊢
       rw[step_esc,esc_of,h2]
       simp only
       rw[hm,if_neg (by simpa using h3),if_neg h4,if_neg h5,if_pos (by omega)]
       exact badE_short _
    ·rw[if_pos h6] at h
     rcases badE_short (fourP ((92 :: b :: s).drop 6)).2 with e|e <;> rw[e] at h <;> cases h
  ·rw[if_pos h3] at h
   rcases badE_short (fourP (92 :: b :: s)).2 with e|e <;> rw[e] at h <;> cases h
theorem rune_cut (c:Int) (k:Nat) (hk:k<(encC c).length):runeP ((encC c).take k)=[]:=by
 by_cases h:runeP ((encC c).take k)=[]
 ·exact h
 exfalso
 obtain⟨d,t,h1,h2⟩:=rune_is _ h
 have e:encC c=encC d++(t++(encC c).drop k):=by
  conv=>lhs;rw[← List.take_append_drop k (encC c),h2,← h1,List.append_assoc]
 have hd:encC d≠[]:=by rw[h1];exact h
 have hr:=rune_of d (t++(encC c).drop k) hd
 rw[← e] at hr
 have hc:encC c≠[]:=by intro e;rw[e] at hk;simp at hk
 have hr2:=rune_of c [] hc
 rw[List.append_nil] at hr2
 rw[hr2] at hr
 have h3:=congrArg List.length e
 have h4:=congrArg List.length hr
 have h5:((encC c).drop k).length=(encC c).length - k:=List.length_drop
 rw[List.length_append,List.length_append] at h3
 omega
theorem step_piece (l:List Int) (t:List Int) (n:Nat) (h:stepP l=.piece t n):PieceOk l t n:=by
 cases l with
 | nil=>cases h
 | cons b s =>
  rw[stepP] at h
  by_cases h1:b=34
  ·rw[if_pos h1] at h;cases h
  rw[if_neg h1] at h
  by_cases h2:b=92
  ·rw[if_pos h2] at h
   subst h2
   cases s with
   | nil=>cases h
   | cons b1 s=>exact piece_esc b1 s t n h
  rw[if_neg h2] at h
  by_cases h3:runeP (b :: s)=[]∨b<32
  ·rw[if_pos h3] at h;cases h
  rw[if_neg h3] at h
  injection h with h4 h5
  subst h4 h5
  have hne:runeP (b :: s)≠[]:=fun e=>h3 (.inl e)
  obtain⟨c,u,e1,e2⟩:=rune_is _ hne
  obtain⟨r,hr⟩:∃ r,encC c=b :: r:=by
   cases hc:encC c with
   | nil=>rw[← e1] at hne;exact absurd hc hne
   | cons x r =>
    rw[← e1,hc,List.cons_append] at e2
    injection e2 with e3 _
    exact⟨r,by rw[e3]⟩
  have htk:=rune_take _ hne
  refine⟨?_,(rune_len _).1,⟨c,e1⟩,hne,fun x=>?_,fun k hk=>?_⟩
  ·have:=List.length_pos_iff.2 hne;omega
  ·rw[htk,← e1,hr,List.cons_append,stepP,if_neg h1,if_neg h2,← List.cons_append,← hr,rune_of c x (by rw[e1];exact hne),if_neg (by rw[hr];intro hq;rcases hq with hq|hq;cases hq;exact h3 (.inr hq))]
  ·have hkl:(b :: s).take k=(encC c).take k:=by
    rw[e1,← htk,List.take_take,Nat.min_eq_left (by omega)]
   rw[hkl]
   have hrc:=rune_cut c k (by rw[e1];exact hk)
   cases k with
   | zero=>exact .inl rfl
   | succ k =>
    rw[hr,List.take_succ_cons] at hrc ⊢
    right
    rw[stepP,if_neg h1,if_neg h2,if_pos (.inl hrc)]
mutual
inductive Js
 | nul
 | bool (b:Bool)
 | num (n:Int)
 | str (s:List Int)
 | arr (l:Jl)
 | obj (l:Jl)
 | bad
inductive Jl
 | nil
 | cons (name:List Int) (v:Js) (l:Jl)
end
def Jl.length:Jl→Nat
 | .nil=>0
 | .cons _ _ l=>l.length+1
def maxI:Int:=9007199254740991
mutual
def chkV (d:Nat):Js→Int
 | .nul=>0
 | .bool _=>0
 | .num n=>if maxI<n∨n < -maxI then 11 else 0
 | .str s=>if countP s<0 then 4 else 0
 | .arr l=>if 4<d then 20 else if 64<l.length then 21 else chkL false d [] l
 | .obj l=>if 4<d then 20 else if 64<l.length then 21 else chkL true d [] l
 | .bad=>14
def chkL (ob:Bool) (d:Nat) (names:List (List Int)):Jl→Int
 | .nil=>0
 | .cons n v l=>if ob=true∧countP n<0 then 4 else if ob=true∧n ∈ names then 22 else if chkV (d+1) v≠0 then chkV (d+1) v else chkL ob d (names++[n]) l
end
def isB (b:Int):Bool:=b == 32 || b == 9 || b == 10 || b == 13
def blankN:List Int→Nat
 | []=>0
 | b :: t=>if isB b then blankN t+1 else 0
def isN (b:Int):Bool:=(48≤b && b≤57) || b == 43 || b == 45 || b == 46 || b == 101 || b == 69
def spanN:List Int→Nat
 | []=>0
 | b :: t=>if isN b then spanN t+1 else 0
def isD (b:Int):Bool:=48≤b && b≤57
def valD (l:List Int):Int:=l.foldl (fun n c=>10*n+(c - 48)) 0
def unsgn:List Int→List Int
 | []=>[]
 | b :: t=>if b=45 then t else b :: t
def isNeg:List Int→Bool
 | []=>false
 | b :: _=>b == 45
def badD (t:List Int):Prop:=unsgn t=[]∨(unsgn t).head?=some 48∧(1<(unsgn t).length∨isNeg t=true)∨¬ (unsgn t).all isD=true
instance (t:List Int):Decidable (badD t):=by unfold badD;infer_instance
def numP (l:List Int):Js × Nat × Int :=
 if badD (l.take (spanN l)) then (.nul,0,4) else if maxI<valD (unsgn (l.take (spanN l))) then (.nul,0,11)
 else (.num (if isNeg (l.take (spanN l)) then - valD (unsgn (l.take (spanN l))) else valD (unsgn (l.take (spanN l)))),spanN l,0)
def wordG:List Int→List Int→Nat→Nat × Int
 | [],_,i=>(i,0)
 | _ :: _,[],i=>(i,3)
 | c :: w,b :: t,i=>if b=c then wordG w t (i+1) else (0,4)
def wordP (w:List Int) (v:Js) (l:List Int):Js × Nat × Int:=if (wordG w l 0).2=0 then (v,(wordG w l 0).1,0) else (.nul,(wordG w l 0).1,(wordG w l 0).2)
def textP:List Int→List Int × Nat × Int
 | []=>([],0,3)
 | b :: t=>if b=34 then takeG (t.length+1) t 1 [] else ([],0,4)
def head0 (l:List Int):Int:=l.headD (-1)
mutual
def valueP:Nat→Nat→List Int→Js × Nat × Int
 | 0,_,l=>(.nul,l.length,3)
 | _+1,_,[]=>(.nul,0,3)
 | f+1,d,b :: t =>
  if b=110 then wordP [110,117,108,108] .nul (b :: t)
  else if b=102 then wordP [102,97,108,115,101] (.bool false) (b :: t)
  else if b=116 then wordP [116,114,117,101] (.bool true) (b :: t)
  else if b=34 then (if (textP (b :: t)).2.2=0 then (.str (textP (b :: t)).1,(textP (b :: t)).2.1,0) else (.nul,(textP (b :: t)).2.1,(textP (b :: t)).2.2))
  else if b=91∨b=123 then
   (if 4<d then (.nul,0,20) else if head0 (t.drop (blankN t))=b+2 then (if b=91 then .arr .nil else .obj .nil,blankN t+2,0)
   else if (itemsP f d (decide (b=123)) (b+2) [] 0 (t.drop (blankN t))).2.2≠0 then (.nul,blankN t+1+(itemsP f d (decide (b=123)) (b+2) [] 0 (t.drop (blankN t))).2.1,(itemsP f d (decide (b=123)) (b+2) [] 0 (t.drop (blankN t))).2.2)
   else (if b=91 then .arr (itemsP f d (decide (b=123)) (b+2) [] 0 (t.drop (blankN t))).1 else .obj (itemsP f d (decide (b=123)) (b+2) [] 0 (t.drop (blankN t))).1,blankN t+1+(itemsP f d (decide (b=123)) (b+2) [] 0 (t.drop (blankN t))).2.1,0))
  else if b=45∨isD b=true then numP (b :: t)
  else (.nul,0,4)
def itemsP:Nat→Nat→Bool→Int→List (List Int)→Nat→List Int→Jl × Nat × Int
 | 0,_,_,_,_,_,l=>(.nil,l.length,3)
 | f+1,d,ob,fin,names,k,l =>
  if l≠[]∧64≤k then (.nil,0,21)
  else match pairP ob names l with
  | (name,at_,e)=>if e≠0 then (.nil,at_,e) else
   match valueP f (d+1) (l.drop at_) with
   | (v,n,e2)=>if e2≠0 then (.nil,at_+n,e2) else
    (let m:=at_+n+blankN (l.drop (at_+n))
    if l.drop m=[] then (.nil,m,3) else if head0 (l.drop m)=fin then (.cons name v .nil,m+1,0) else if head0 (l.drop m)≠44 then (.nil,m,4) else
    (let q:=m+1+blankN (l.drop (m+1))
    match itemsP f d ob fin (names++[name]) (k+1) (l.drop q) with
    | (r,j,e3)=>if e3≠0 then (.nil,q+j,e3) else (.cons name v r,q+j,0)))
def pairP (ob:Bool) (names:List (List Int)) (l:List Int):List Int × Nat × Int :=
 if ob=false then ([],0,0) else
 match textP l with
 | (name,n,e)=>if e≠0 then ([],n,e) else if name ∈ names then ([],0,22) else
  (let m:=n+blankN (l.drop n)
  if l.drop m=[] then ([],m,3) else if head0 (l.drop m)≠58 then ([],m,4) else (name,m+1+blankN (l.drop (m+1)),0))
end
def fuelV (l:List Int):Nat:=2*l.length+1
def takeV (s:List Int):Js × Nat × Int :=
 if 4096<s.length then (.nul,0,5) else
 match valueP (fuelV s) 1 (s.drop (blankN s)) with
 | (v,n,e)=>if e≠0 then (.nul,blankN s+n,e) else
  (let m:=blankN s+n+blankN (s.drop (blankN s+n))
  if m<s.length then (.nul,m,4) else (v,m,0))
end Go.Proofs.YtdnmgpcfgcidbaaGreatDoor
namespace Go.Proofs.YtdnmgpcfgcidbaaGreatDoor
set_option linter.unusedVariables false
set_option linter.unusedSimpArgs false
open Go.RowKit
set_option maxRecDepth 20000
theorem bI_split (s:ByteArray) (k:Nat) (h:k<s.size):(bI s).drop k=((s[k]'h).toNat:Int) :: (bI s).drop (k+1):=by
 have hk:k<(bI s).length:=by rw[bI_len];exact h
 rw[List.drop_eq_getElem_cons hk]
 congr 1
 simp[bI]
 rfl
mutual
def AnyAt (S:Nat→Prop) (w:World):Js→Value→Prop
 | .nul,x=>x=.nilIface
 | .bool b,x=>x=.iface 4 (.bool b)
 | .num n,x=>x=.iface 3 (.int .i64 n)
 | .str s,x=>∃ t:ByteArray,x=.iface 9 (.string t)∧bI t=s∧s.length≤5000
 | .arr l,x=>∃ a cap,x=.iface 310 (.slice a l.length cap)∧l.length≤cap∧cap≤maxLen∧RowA S w a 0 l
 | .obj l,x=>∃ a cap,x=.iface 96 (.slice a l.length cap)∧l.length≤cap∧cap≤maxLen∧RowP S w a 0 l
 | .bad,x=>x=.iface 100000 (.float .f64 4609434218613702656)
def RowA (S:Nat→Prop) (w:World) (a:Option Addr) (i:Nat):Jl→Prop
 | .nil=>True
 | .cons n v l=>(∃ g off y,a=some ⟨g,off,none⟩∧S g∧g<w.heap.size∧w.cell? ⟨g,off+i,none⟩=some y∧AnyAt S w v y)∧RowA S w a (i+1) l
def RowP (S:Nat→Prop) (w:World) (a:Option Addr) (i:Nat):Jl→Prop
 | .nil=>True
 | .cons n v l=>(∃ g off y t,a=some ⟨g,off,none⟩∧S g∧g<w.heap.size∧w.cell? ⟨g,off+i*2,none⟩=some (.string t)∧bI t=n∧n.length≤5000∧w.cell? ⟨g,off+i*2+1,none⟩=some y∧AnyAt S w v y)∧RowP S w a (i+1) l
end
mutual
theorem AnyAt.keep {S S':Nat→Prop} {w w':World} (hS:∀ b,S b→b<w.heap.size→S' b) (hs:w.heap.size≤w'.heap.size) (hk:∀ b,S b→b<w.heap.size→w'.heap[b]?=w.heap[b]?):∀ (v:Js) (x:Value),AnyAt S w v x→AnyAt S' w' v x
 | .nul,x,h=>by rw[AnyAt] at h ⊢;exact h
 | .bool b,x,h=>by rw[AnyAt] at h ⊢;exact h
 | .num n,x,h=>by rw[AnyAt] at h ⊢;exact h
 | .str s,x,h=>by rw[AnyAt] at h ⊢;exact h
 | .arr l,x,h=>by
  rw[AnyAt] at h ⊢
  obtain⟨a,cap,h1,h2,h3,h4⟩:=h
  exact⟨a,cap,h1,h2,h3,RowA.keep hS hs hk l a 0 h4⟩
 | .obj l,x,h=>by
  rw[AnyAt] at h ⊢
  obtain⟨a,cap,h1,h2,h3,h4⟩:=h
  exact⟨a,cap,h1,h2,h3,RowP.keep hS hs hk l a 0 h4⟩
 | .bad,x,h=>by rw[AnyAt] at h ⊢;exact h
theorem RowA.keep {S S':Nat→Prop} {w w':World} (hS:∀ b,S b→b<w.heap.size→S' b) (hs:w.heap.size≤w'.heap.size) (hk:∀ b,S b→b<w.heap.size→w'.heap[b]?=w.heap[b]?):∀ (l:Jl) (a:Option Addr) (i:Nat),RowA S w a i l→RowA S' w' a i l
 | .nil,a,i,h=>by rw[RowA];trivial
 | .cons n v l,a,i,h=>by
  rw[RowA] at h ⊢
  obtain⟨⟨g,off,y,h1,h2,h3,h4,h5⟩,h6⟩:=h
  exact⟨⟨g,off,y,h1,hS g h2 h3,Nat.lt_of_lt_of_le h3 hs,(World.cell?_of_block (a:=⟨g,off+i,none⟩) (hk g h2 h3)).trans h4,AnyAt.keep hS hs hk v y h5⟩,RowA.keep hS hs hk l a (i+1) h6⟩
theorem RowP.keep {S S':Nat→Prop} {w w':World} (hS:∀ b,S b→b<w.heap.size→S' b) (hs:w.heap.size≤w'.heap.size) (hk:∀ b,S b→b<w.heap.size→w'.heap[b]?=w.heap[b]?):∀ (l:Jl) (a:Option Addr) (i:Nat),RowP S w a i l→RowP S' w' a i l
 | .nil,a,i,h=>by rw[RowP];trivial
 | .cons n v l,a,i,h=>by
  rw[RowP] at h ⊢
  obtain⟨⟨g,off,y,t,h1,h2,h3,h4,h7,h8,h5,h9⟩,h6⟩:=h
  exact⟨⟨g,off,y,t,h1,hS g h2 h3,Nat.lt_of_lt_of_le h3 hs,(World.cell?_of_block (a:=⟨g,off+i*2,none⟩) (hk g h2 h3)).trans h4,h7,h8,(World.cell?_of_block (a:=⟨g,off+i*2+1,none⟩) (hk g h2 h3)).trans h5,AnyAt.keep hS hs hk v y h9⟩,RowP.keep hS hs hk l a (i+1) h6⟩
end
theorem AnyAt.below {S:Nat→Prop} {w w':World} {v:Js} {x:Value} (h:AnyAt S w v x) (hb:Below w.heap.size w w'):AnyAt S w' v x:=AnyAt.keep (fun _ e _=>e) hb.size (fun b _ hlt=>hb.block b hlt) v x h
theorem AnyAt.mono {S S':Nat→Prop} {w:World} {v:Js} {x:Value} (h:AnyAt S w v x) (hS:∀ b,S b→S' b):AnyAt S' w v x:=AnyAt.keep (fun b e _=>hS b e) (Nat.le_refl _) (fun _ _ _=>rfl) v x h
def Jl.at?:Jl→Nat→Option (List Int × Js)
 | .nil,_=>none
 | .cons n v _,0=>some (n,v)
 | .cons _ _ l,i+1=>l.at? i
def Jl.drop:Jl→Nat→Jl
 | l,0=>l
 | .nil,_+1=>.nil
 | .cons _ _ l,i+1=>l.drop i
def Jl.names:Jl→List (List Int)
 | .nil=>[]
 | .cons n _ l=>n :: l.names
theorem Jl.drop_zero (l:Jl):l.drop 0=l:=by cases l <;> rfl
theorem Jl.lt_at:∀ (l:Jl) (k:Nat),k<l.length→∃ n v,l.at? k=some (n,v)
 | .nil,_,h=>absurd h (Nat.not_lt_zero _)
 | .cons n v t,0,_=>⟨n,v,rfl⟩
 | .cons _ _ t,k+1,e=>Jl.lt_at t k (Nat.lt_of_succ_lt_succ e)
theorem Jl.names_at:∀ (l:Jl) (i:Nat) (n:List Int) (v:Js),l.at? i=some (n,v)→l.names[i]?=some n
 | .nil,_,_,_,h=>by cases h
 | .cons n' v' t,0,n,v,h=>by
  obtain⟨rfl,rfl⟩:n'=n∧v'=v:=by simpa[Jl.at?] using h
  rfl
 | .cons n' v' t,i+1,n,v,h=>by simpa[Jl.names] using Jl.names_at t i n v h
theorem RowA.at {S:Nat→Prop} {w:World} {a:Option Addr}:∀ (l:Jl) (i k:Nat) (n:List Int) (v:Js),RowA S w a i l→l.at? k=some (n,v)→∃ g off y,a=some ⟨g,off,none⟩∧S g∧g<w.heap.size∧w.cell? ⟨g,off+(i+k),none⟩=some y∧AnyAt S w v y
 | .nil,_,_,_,_,_,h=>by cases h
 | .cons n' v' t,i,0,n,v,hr,h=>by
  rw[RowA] at hr
  obtain⟨rfl,rfl⟩:n'=n∧v'=v:=by simpa[Jl.at?] using h
  exact hr.1
 | .cons n' v' t,i,k+1,n,v,hr,h=>by
  rw[RowA] at hr
  have:=RowA.at t (i+1) k n v hr.2 h
  rwa[show i+1+k=i+(k+1) by omega] at this
theorem RowA.of {S:Nat→Prop} {w:World} {a:Option Addr}:∀ (l:Jl) (i:Nat),(∀ k n v,l.at? k=some (n,v)→∃ g off y,a=some ⟨g,off,none⟩∧S g∧g<w.heap.size∧w.cell? ⟨g,off+(i+k),none⟩=some y∧AnyAt S w v y)→RowA S w a i l
 | .nil,_,_=>by rw[RowA];trivial
 | .cons n v t,i,h=>by
  rw[RowA]
  exact⟨h 0 n v rfl,RowA.of t (i+1) fun k n v e=>by
   have:=h (k+1) n v e
   rwa[show i+(k+1)=i+1+k by omega] at this⟩
theorem RowP.at {S:Nat→Prop} {w:World} {a:Option Addr}:∀ (l:Jl) (i k:Nat) (n:List Int) (v:Js),RowP S w a i l→l.at? k=some (n,v)→∃ g off y t,a=some ⟨g,off,none⟩∧S g∧g<w.heap.size∧w.cell? ⟨g,off+(i+k)*2,none⟩=some (.string t)∧bI t=n∧n.length≤5000∧w.cell? ⟨g,off+(i+k)*2+1,none⟩=some y∧AnyAt S w v y
 | .nil,_,_,_,_,_,h=>by cases h
 | .cons n' v' t,i,0,n,v,hr,h=>by
  rw[RowP] at hr
  obtain⟨rfl,rfl⟩:n'=n∧v'=v:=by simpa[Jl.at?] using h
  exact hr.1
 | .cons n' v' t,i,k+1,n,v,hr,h=>by
  rw[RowP] at hr
  have:=RowP.at t (i+1) k n v hr.2 h
  rwa[show i+1+k=i+(k+1) by omega] at this
theorem RowP.of {S:Nat→Prop} {w:World} {a:Option Addr}:∀ (l:Jl) (i:Nat),(∀ k n v,l.at? k=some (n,v)→∃ g off y t,a=some ⟨g,off,none⟩∧S g∧g<w.heap.size∧w.cell? ⟨g,off+(i+k)*2,none⟩=some (.string t)∧bI t=n∧n.length≤5000∧w.cell? ⟨g,off+(i+k)*2+1,none⟩=some y∧AnyAt S w v y)→RowP S w a i l
 | .nil,_,_=>by rw[RowP];trivial
 | .cons n v t,i,h=>by
  rw[RowP]
  exact⟨h 0 n v rfl,RowP.of t (i+1) fun k n v e=>by
   have:=h (k+1) n v e
   rwa[show i+(k+1)=i+1+k by omega] at this⟩
def aB:Nat→Prop:=fun _=>True
def PlR (x:List Int) (ns:List (List Int)) (r:Int):Prop:=(r=-1∧x ∉ ns)∨∃ k:Nat,r=k∧ns[k]?=some x∧∀ j,j<k→ns[j]?≠some x
theorem PlR.neg {x:List Int} {ns:List (List Int)} {r:Int} (h:PlR x ns r):(0≤r↔x ∈ ns):=by
 rcases h with ⟨rfl,h⟩|⟨k,rfl,h,_⟩
 ·exact⟨fun e=>by omega,fun e=>absurd e h⟩
 ·exact⟨fun _=>List.mem_of_getElem? h,fun _=>by omega⟩
theorem bI_byte (s:ByteArray):∀ b ∈ bI s,0≤b∧b<256:=by
 intro b hb
 unfold bI at hb
 obtain⟨c,_,rfl⟩:=List.mem_map.1 hb
 have:=c.toNat_lt
 omega
theorem bI_str (l:List Int) (h:∀ b ∈ l,0≤b∧b<256):bI (str l)=l:=by
 unfold bI
 rw[str_list,List.map_map]
 conv=>rhs;rw[← List.map_id l]
 refine List.map_congr_left (fun c hc=>?_)
 have:=h c hc
 simp
 omega
theorem bI_inj {s t:ByteArray} (h:bI s=bI t):s=t:=by rw[← str_bI s,h,str_bI]
theorem bI_extract (s:ByteArray) (a b:Nat) (h:a≤b):bI (s.extract a b)=((bI s).drop a).take (b - a):=by
 unfold bI
 rw[ByteArray.data_extract,Array.toList_extract,List.extract_eq_take_drop,List.map_take,List.map_drop]
theorem built_at (w:World) (cs:List Int) (T:TypeId) (hl:cs.length≤1000):BytesAt (w.alloc (.cells (cs.map (Value.int .u8)).toArray T)) (.slice (some ⟨w.heap.size,0,none⟩) cs.length cs.length) cs:=by
 refine⟨_,_,rfl,Nat.le_refl _,by unfold maxLen;omega,fun h0=>⟨_,rfl,by simp,fun i hi=>?_⟩⟩
 have e:(⟨w.heap.size,0,none⟩:Addr).add i=⟨w.heap.size,i,none⟩:=by simp[Addr.add];omega
 rw[e,World.cell?_alloc_mark]
 simp[hi]
theorem run_built (w:World) (cs:List Int) (T:TypeId) (hl:cs.length≤1000):(convert 158 9 (.slice (some ⟨w.heap.size,0,none⟩) cs.length cs.length)).run Tryz.prog (w.alloc (.cells (cs.map (Value.int .u8)).toArray T))=.ok (.string (str cs)) (w.alloc (.cells (cs.map (Value.int .u8)).toArray T)):=run_str _ _ _ (built_at w cs T hl)
theorem enc_1 {c:Int} (h0:0≤c) (h1:c<128):encC c=[c]:=by
 unfold encC;rw[if_neg (by omega),if_pos h1]
theorem enc_2 {c:Int} (h0:128≤c) (h1:c<2048):encC c=[192+c / 64,128+c % 64]:=by
 unfold encC;rw[if_neg (by omega),if_neg (by omega),if_pos h1]
theorem enc_3 {c:Int} (h0:2048≤c) (h1:c<65536) (h2:¬ (55296≤c∧c≤57343)):encC c=[224+c / 4096,128+c / 64 % 64,128+c % 64]:=by
 unfold encC;rw[if_neg (by omega),if_neg (by omega),if_neg (by omega),if_pos h1]
theorem enc_4 {c:Int} (h0:65536≤c) (h1:c≤1114111):encC c=[240+c / 262144,128+c / 4096 % 64,128+c / 64 % 64,128+c % 64]:=by
 unfold encC;rw[if_neg (by omega),if_neg (by omega),if_neg (by omega),if_neg (by omega)]
set_option maxHeartbeats 2000000 in
theorem rbytes_anyDd (c:Int) (w:World) (hc:-9223372036854775808≤c∧c≤9223372036854775807):Calls Tryz.prog 247 #[.int .i64 c] w fun e w'=>e=.returned (.string (str (encC c)))∧Below w.heap.size w w':=by
 by_cases h0:c<0
 ·rw[(encC_nil c).2 (.inl h0)]
  have d0:decide (c<0)=true:=decide_eq_true h0
  go_enter Tryz.func247,Tryz.ntmps247
  go_wp2_with fail
  go_ret
  exact⟨rfl,Below.refl _ _⟩
 have d0:decide (c<0)=false:=decide_eq_false h0
 by_cases h1:1114111<c
 ·rw[(encC_nil c).2 (.inr (.inl h1))]
  have d1:decide (1114111<c)=true:=decide_eq_true h1
  go_enter Tryz.func247,Tryz.ntmps247
  go_wp2_with fail
  go_ret
  exact⟨rfl,Below.refl _ _⟩
 have d1:decide (1114111<c)=false:=decide_eq_false h1
 by_cases h2:55296≤c∧c≤57343
 ·rw[(encC_nil c).2 (.inr (.inr h2))]
  have d2:decide (55296≤c)=true:=decide_eq_true h2.1
  have d3:decide (c≤57343)=true:=decide_eq_true h2.2
  go_enter Tryz.func247,Tryz.ntmps247
  go_wp2_with fail
  go_ret
  exact⟨rfl,Below.refl _ _⟩
 have hr:∀ cs:List Int,cs.length≤1000→_:=fun cs h=>run_built w cs 5 h
 by_cases h3:c<128
 ·rw[enc_1 (by omega) h3]
  have d2:decide (55296≤c)=false:=decide_eq_false (by omega)
  have w1:IntKind.u8.wrap c=c:=by rw[IntKind.wrap_u8];omega
  have hx:=hr [c] (by simp)
  simp only[List.map_cons,List.map_nil,List.length_cons,List.length_nil,Nat.zero_add] at hx
  clear hr
  go_enter Tryz.func247,Tryz.ntmps247
  go_wp2_with fail
  go_ret
  exact⟨rfl,by go_grown⟩
 by_cases h4:c<2048
 ·rw[enc_2 (by omega) h4]
  have d2:decide (55296≤c)=false:=decide_eq_false (by omega)
  have w1:IntKind.u8.wrap (192+c / 64)=192+c / 64:=by rw[IntKind.wrap_u8];omega
  have w2:IntKind.u8.wrap (128+c % 64)=128+c % 64:=by rw[IntKind.wrap_u8];omega
  have hx:=hr [192+c / 64,128+c % 64] (by simp)
  simp only[List.map_cons,List.map_nil,List.length_cons,List.length_nil,Nat.zero_add] at hx
  clear hr
  go_enter Tryz.func247,Tryz.ntmps247
  go_wp2_with fail
  go_ret
  exact⟨rfl,by go_grown⟩
 by_cases h5:c<65536
 ·rw[enc_3 (by omega) h5 h2]
  have w1:IntKind.u8.wrap (224+c / 4096)=224+c / 4096:=by rw[IntKind.wrap_u8];omega
  have w2:IntKind.u8.wrap (128+c / 64 % 64)=128+c / 64 % 64:=by rw[IntKind.wrap_u8];omega
  have w3:IntKind.u8.wrap (128+c % 64)=128+c % 64:=by rw[IntKind.wrap_u8];omega
  have hx:=hr [224+c / 4096,128+c / 64 % 64,128+c % 64] (by simp)
  simp only[List.map_cons,List.map_nil,List.length_cons,List.length_nil,Nat.zero_add] at hx
  clear hr
  by_cases h6:55296≤c
  ·have d2:decide (55296≤c)=true:=decide_eq_true h6
   have d3:decide (c≤57343)=false:=decide_eq_false (by omega)
   go_enter Tryz.func247,Tryz.ntmps247
   go_wp2_with fail
   go_ret
   exact⟨rfl,by go_grown⟩
  ·have d2:decide (55296≤c)=false:=decide_eq_false h6
   go_enter Tryz.func247,Tryz.ntmps247
   go_wp2_with fail
   go_ret
   exact⟨rfl,by go_grown⟩
 rw[enc_4 (by omega) (by omega)]
 have d2:decide (55296≤c)=true:=decide_eq_true (by omega)
 have d3:decide (c≤57343)=false:=decide_eq_false (by omega)
 have w1:IntKind.u8.wrap (240+c / 262144)=240+c / 262144:=by rw[IntKind.wrap_u8];omega
 have w2:IntKind.u8.wrap (128+c / 4096 % 64)=128+c / 4096 % 64:=by rw[IntKind.wrap_u8];omega
 have w3:IntKind.u8.wrap (128+c / 64 % 64)=128+c / 64 % 64:=by rw[IntKind.wrap_u8];omega
 have w4:IntKind.u8.wrap (128+c % 64)=128+c % 64:=by rw[IntKind.wrap_u8];omega
 have hx:=hr [240+c / 262144,128+c / 4096 % 64,128+c / 64 % 64,128+c % 64] (by simp)
 simp only[List.map_cons,List.map_nil,List.length_cons,List.length_nil,Nat.zero_add] at hx
 clear hr
 go_enter Tryz.func247,Tryz.ntmps247
 go_wp2_with fail
 go_ret
 exact⟨rfl,by go_grown⟩
end Go.Proofs.YtdnmgpcfgcidbaaGreatDoor
namespace Go.Proofs.YtdnmgpcfgcidbaaGreatDoor
set_option linter.unusedVariables false
set_option linter.unusedSimpArgs false
set_option maxRecDepth 20000
theorem step_34 (x:List Int):stepP (34 :: x)=.fin:=by rw[stepP,if_pos rfl]
theorem takeG_step (f:Nat) (l:List Int) (p:Nat) (out:List Int):takeG (f+1) l p out=match stepP l with
  | .short=>([],p+l.length,3)
  | .form=>([],p,4)
  | .fin=>(out,p+1,0)
  | .piece t n=>takeG f (l.drop n) (p+n) (out++t):=rfl
theorem takeG_fuel:∀ (f g:Nat) (l:List Int) (p:Nat) (out:List Int),l.length≤f→l.length≤g→takeG f l p out=takeG g l p out
 | 0,0,_,_,_,_,_=>rfl
 | 0,g+1,l,p,out,hf,_=>by
  obtain rfl:l=[]:=List.eq_nil_of_length_eq_zero (by omega)
  rfl
 | f+1,0,l,p,out,_,hg=>by
  obtain rfl:l=[]:=List.eq_nil_of_length_eq_zero (by omega)
  rfl
 | f+1,g+1,l,p,out,hf,hg=>by
  rw[takeG_step,takeG_step]
  cases hs:stepP l with
  | short=>rfl
  | form=>rfl
  | fin=>rfl
  | piece t n =>
   have hp:=step_piece l t n hs
   have h1:=hp.one
   have h2:=hp.len
   exact takeG_fuel f g _ _ _ (by rw[List.length_drop];omega) (by rw[List.length_drop];omega)
theorem takeG_bad:∀ (f:Nat) (l:List Int) (p:Nat) (out:List Int),l.length≤f→(takeG f l p out).2.2≠0→(takeG f l p out).1=[]∧(takeG f l p out).2.1≤p+l.length∧((takeG f l p out).2.2=3→(takeG f l p out).2.1=p+l.length)
 | 0,l,p,out,_,_=>⟨rfl,Nat.le_refl _,fun _=>rfl⟩
 | f+1,l,p,out,hf,h=>by
  rw[takeG_step] at h ⊢
  cases hs:stepP l with
  | short=>exact⟨rfl,Nat.le_refl _,fun _=>rfl⟩
  | form=>exact⟨rfl,Nat.le_add_right _ _,fun e=>by cases e⟩
  | fin=>rw[hs] at h;exact absurd rfl h
  | piece t n =>
   rw[hs] at h
   have hp:=step_piece l t n hs
   have h1:=hp.one
   have h2:=hp.len
   obtain⟨a,b,c⟩:=takeG_bad f (l.drop n) (p+n) (out++t) (by rw[List.length_drop];omega) h
   rw[List.length_drop] at b c
   refine⟨a,by simp only;omega,fun e=>?_⟩
   have:=c e
   simp only
   omega
theorem step_fin {l:List Int} (h:stepP l=.fin):∃ t,l=34 :: t:=by
 cases l with
 | nil=>cases h
 | cons b s =>
  rw[stepP] at h
  by_cases h1:b=34
  ·exact⟨s,by rw[h1]⟩
  rw[if_neg h1] at h
  by_cases h2:b=92
  ·rw[if_pos h2] at h
   subst h2
   cases s with
   | nil=>cases h
   | cons b1 s =>
    rw[esc_of] at h
    split at h
    ·cases h
    split at h
    ·rcases badE_short (fourP (92 :: b1 :: s)).2 with e|e <;> rw[e] at h <;> cases h
    split at h
    ·cases h
    split at h
    ·cases h
    split at h
    ·rcases badE_short (fourP ((92 :: b1 :: s).drop 6)).2 with e|e <;> rw[e] at h <;> cases h
    split at h <;> cases h
  rw[if_neg h2] at h
  split at h <;> cases h
theorem takeG_good:∀ (f:Nat) (l:List Int) (p:Nat) (out:List Int),l.length≤f→(takeG f l p out).2.2=0 →
  ∃ n t k,(takeG f l p out)=(out++t,p+n,0)∧1≤n∧n≤l.length∧Val t k∧(∀ x g,(l.take n++x).length≤g→takeG g (l.take n++x) p out=(out++t,p+n,0)) ∧
   (∀ j g,j<n→(l.take j).length≤g→(takeG g (l.take j) p out).1=[]∧((takeG g (l.take j) p out).2.2=3∧(takeG g (l.take j) p out).2.1=p+j∨(takeG g (l.take j) p out).2.2=4))
 | 0,l,p,out,_,h=>by cases h
 | f+1,l,p,out,hf,h=>by
  rw[takeG_step] at h ⊢
  cases hs:stepP l with
  | short=>rw[hs] at h;cases h
  | form=>rw[hs] at h;cases h
  | fin =>
   obtain⟨u,rfl⟩:=step_fin hs
   refine⟨1,[],0,by rw[List.append_nil],Nat.le_refl _,by simp,.nil,fun x g hg=>?_,fun j g hj hg=>?_⟩
   ·cases g with
    | zero=>simp at hg
    | succ g =>
     have e:List.take 1 (34 :: u)++x=34 :: x:=rfl
     rw[e,takeG_step,step_34,List.append_nil]
   ·obtain rfl:j=0:=by omega
    rw[List.take_zero]
    cases g with
    | zero=>exact⟨rfl,.inl ⟨rfl,rfl⟩⟩
    | succ g=>exact⟨rfl,.inl ⟨rfl,rfl⟩⟩
  | piece t n =>
   rw[hs] at h
   have hp:=step_piece l t n hs
   have h1:=hp.one
   have h2:=hp.len
   obtain⟨c,hc⟩:=hp.rune
   obtain⟨m,u,k,e1,e2,e3,e4,e5,e6⟩:=takeG_good f (l.drop n) (p+n) (out++t) (by rw[List.length_drop];omega) h
   rw[List.length_drop] at e3
   have hsplit:∀ y,l.take (n+m)++y=l.take n++((l.drop n).take m++y):=fun y=>by rw[List.take_add,List.append_assoc]
   refine⟨n+m,t++u,k+1,by simp only;rw[e1,List.append_assoc,Nat.add_assoc],by omega,by omega,by rw[← hc];exact .cons c u k (by rw[hc];exact hp.ne) e4,fun x g hg=>?_,fun j g hj hg=>?_⟩
   ·rw[hsplit] at hg ⊢
    cases g with
    | zero=>rw[List.length_append,List.length_take] at hg;omega
    | succ g =>
     rw[takeG_step,hp.more]
     simp only
     rw[List.drop_left' (take_lt_len h2),e5 x g (by rw[List.length_append,take_lt_len h2] at hg;omega),List.append_assoc,Nat.add_assoc]
   ·by_cases hjn:j<n
    ·cases g with
     | zero =>
      rw[List.length_take] at hg
      obtain rfl:j=0:=by omega
      exact⟨rfl,.inl ⟨rfl,by simp[takeG]⟩⟩
     | succ g =>
      rw[takeG_step]
      rcases hp.cut j hjn with e|e <;> rw[e]
      ·refine⟨rfl,.inl ⟨rfl,?_⟩⟩
       simp only
       rw[List.length_take]
       omega
      ·exact⟨rfl,.inr rfl⟩
    ·have ej:l.take j=l.take n++(l.drop n).take (j - n):=by
      conv=>lhs;rw[show j=n+(j - n) by omega,List.take_add]
     rw[ej] at hg ⊢
     cases g with
     | zero=>rw[List.length_append,take_lt_len h2] at hg;omega
     | succ g =>
      rw[takeG_step,hp.more]
      simp only
      rw[List.drop_left' (take_lt_len h2)]
      have:=e6 (j - n) g (by omega) (by rw[List.length_append,take_lt_len h2] at hg;omega)
      rw[show p+n+(j - n)=p+j by omega] at this
      exact this
end Go.Proofs.YtdnmgpcfgcidbaaGreatDoor
namespace Go.Proofs.YtdnmgpcfgcidbaaGreatDoor
set_option linter.unusedVariables false
set_option linter.unusedSimpArgs false
open Go.RowKit
set_option maxRecDepth 20000
theorem bI_get (s:ByteArray) (k:Nat) (h:k<s.size):(bI s)[k]?=some ((s[k]'h).toNat:Int):=by
 have h1:=bI_split s k h
 have hk:k<(bI s).length:=by rw[bI_len];exact h
 rw[List.drop_eq_getElem_cons hk] at h1
 injection h1 with h2 _
 rw[List.getElem?_eq_getElem hk,h2]
theorem get_bI (s:ByteArray) (k:Nat) (h:k<s.size):(bI s)[k]?=some ((s.get! k).toNat:Int):=by
 rw[bI_get s k h]
 have e:s.get! k=s[k]'h:=by
  have h':k<s.data.size:=h
  show s.data[k]! = s.data[k]'h'
  rw[getElem!_pos s.data k h']
 rw[e]
theorem drop_get (s:ByteArray) (i k:Nat) (b:Int) (h:((bI s).drop i)[k]?=some b):i+k<s.size∧((s.get! (i+k)).toNat:Int)=b:=by
 rw[List.getElem?_drop] at h
 have hl:=(List.getElem?_eq_some_iff.1 h).1
 rw[bI_len] at hl
 refine⟨hl,?_⟩
 rw[get_bI s (i+k) hl] at h
 injection h
def decX (x0 x1 x2 x3:Nat) (p1 p2 p3:Bool):Nat × Nat :=
 if x0<128 then (x0,1)
 else if x0 / 32 == 6 && (p1 && x1 / 64 == 2) then (if x0 % 32*64+x1 % 64 ≥ 128 then (x0 % 32*64+x1 % 64,2) else (65533,1))
 else if x0 / 16 == 14 && (p1 && x1 / 64 == 2) && (p2 && x2 / 64 == 2) then
  (if decide (x0 % 16*4096+x1 % 64*64+x2 % 64 ≥ 2048) && Utf8.valid ((x0 % 16*4096+x1 % 64*64+x2 % 64:Nat):Int) then (x0 % 16*4096+x1 % 64*64+x2 % 64,3) else (65533,1))
 else if x0 / 8 == 30 && (p1 && x1 / 64 == 2) && (p2 && x2 / 64 == 2) && (p3 && x3 / 64 == 2) then
  (if decide (x0 % 8*262144+x1 % 64*4096+x2 % 64*64+x3 % 64 ≥ 65536) && Utf8.valid ((x0 % 8*262144+x1 % 64*4096+x2 % 64*64+x3 % 64:Nat):Int) then (x0 % 8*262144+x1 % 64*4096+x2 % 64*64+x3 % 64,4) else (65533,1))
 else (65533,1)
theorem decode_eq (s:ByteArray) (i:Nat):Utf8.decode s i=decX (s.get! i).toNat (s.get! (i+1)).toNat (s.get! (i+2)).toNat (s.get! (i+3)).toNat (decide (i+1<s.size)) (decide (i+2<s.size)) (decide (i+3<s.size)):=by
 simp only[Utf8.decode,decX,Nat.add_zero,Utf8.runeError]
theorem bt {a:Nat} {b:Nat} (h:a=b):(a == b)=true:=by rw[h];simp
theorem bf {a:Nat} {b:Nat} (h:a≠b):(a == b)=false:=by simpa using h
theorem decX_1 {x0:Nat} (x1 x2 x3:Nat) (p1 p2 p3:Bool) (h:x0<128):decX x0 x1 x2 x3 p1 p2 p3=(x0,1):=by unfold decX;rw[if_pos h]
theorem decX_2 {x0 x1:Nat} (x2 x3:Nat) (p2 p3:Bool) (h0:¬ x0<128) (h:x0 / 32=6) (h1:x1 / 64=2) (hc:x0 % 32*64+x1 % 64 ≥ 128):decX x0 x1 x2 x3 true p2 p3=(x0 % 32*64+x1 % 64,2):=by
 unfold decX
 rw[if_neg h0,bt h,bt h1,if_pos (by simp),if_pos hc]
theorem decX_3 {x0 x1 x2:Nat} (x3:Nat) (p3:Bool) (h0:¬ x0<128) (h:x0 / 16=14) (h1:x1 / 64=2) (h2:x2 / 64=2) (hc:x0 % 16*4096+x1 % 64*64+x2 % 64 ≥ 2048) (hv:Utf8.valid ((x0 % 16*4096+x1 % 64*64+x2 % 64:Nat):Int)=true):decX x0 x1 x2 x3 true true p3=(x0 % 16*4096+x1 % 64*64+x2 % 64,3):=by
 unfold decX
 rw[if_neg h0,bf (show x0 / 32≠6 by omega),Bool.false_and,if_neg (by simp),bt h,bt h1,bt h2,if_pos (by simp),hv,decide_eq_true hc,if_pos (by simp)]
theorem decX_4 {x0 x1 x2 x3:Nat} (h0:¬ x0<128) (h:x0 / 8=30) (h1:x1 / 64=2) (h2:x2 / 64=2) (h3:x3 / 64=2) (hc:x0 % 8*262144+x1 % 64*4096+x2 % 64*64+x3 % 64 ≥ 65536) (hv:Utf8.valid ((x0 % 8*262144+x1 % 64*4096+x2 % 64*64+x3 % 64:Nat):Int)=true):decX x0 x1 x2 x3 true true true=(x0 % 8*262144+x1 % 64*4096+x2 % 64*64+x3 % 64,4):=by
 unfold decX
 rw[if_neg h0,bf (show x0 / 32≠6 by omega),Bool.false_and,if_neg (by simp),bf (show x0 / 16≠14 by omega),Bool.false_and,Bool.false_and,if_neg (by simp),bt h,bt h1,bt h2,bt h3,if_pos (by simp),hv,decide_eq_true hc,if_pos (by simp)]
theorem valid_of {c:Int} (h0:0≤c) (h1:c≤1114111) (h2:¬ (55296≤c∧c≤57343)):Utf8.valid c=true:=by
 unfold Utf8.valid
 by_cases h:c<55296
 ·rw[decide_eq_true h0,decide_eq_true (show c<0xD800 by omega)];rfl
 ·rw[decide_eq_true (show (0xE000:Int)≤c by omega),decide_eq_true (show c≤0x10FFFF by omega)];simp
theorem decode_of (s:ByteArray) (i:Nat) (c:Int) (t:List Int) (h:encC c≠[]) (hl:(bI s).drop i=encC c++t):Utf8.decode s i=(c.toNat,(encC c).length):=by
 rw[decode_eq]
 rcases encC_ways c with h'|⟨h1,h2,h'⟩|⟨h1,h2,h'⟩|⟨h1,h2,h3,h'⟩|⟨h1,h2,h'⟩
 ·exact absurd h' h
 ·rw[h'] at hl ⊢
  obtain⟨a1,a2⟩:=drop_get s i 0 c (by rw[hl];rfl)
  rw[Nat.add_zero] at a2
  rw[decX_1 _ _ _ _ _ _ (by omega)]
  exact Prod.ext (by simp only;omega) rfl
 ·rw[h'] at hl ⊢
  obtain⟨a1,a2⟩:=drop_get s i 0 _ (by rw[hl];rfl)
  obtain⟨b1,b2⟩:=drop_get s i 1 _ (by rw[hl];rfl)
  rw[Nat.add_zero] at a2
  rw[decide_eq_true b1,decX_2 _ _ _ _ (by omega) (by omega) (by omega) (by omega)]
  exact Prod.ext (by simp only;omega) rfl
 ·rw[h'] at hl ⊢
  obtain⟨a1,a2⟩:=drop_get s i 0 _ (by rw[hl];rfl)
  obtain⟨b1,b2⟩:=drop_get s i 1 _ (by rw[hl];rfl)
  obtain⟨c1,c2⟩:=drop_get s i 2 _ (by rw[hl];rfl)
  rw[Nat.add_zero] at a2
  rw[decide_eq_true b1,decide_eq_true c1,decX_3 _ _ (by omega) (by omega) (by omega) (by omega) (by omega) (valid_of (by omega) (by omega) (by omega))]
  exact Prod.ext (by simp only;omega) rfl
 ·rw[h'] at hl ⊢
  obtain⟨a1,a2⟩:=drop_get s i 0 _ (by rw[hl];rfl)
  obtain⟨b1,b2⟩:=drop_get s i 1 _ (by rw[hl];rfl)
  obtain⟨c1,c2⟩:=drop_get s i 2 _ (by rw[hl];rfl)
  obtain⟨d1,d2⟩:=drop_get s i 3 _ (by rw[hl];rfl)
  rw[Nat.add_zero] at a2
  rw[decide_eq_true b1,decide_eq_true c1,decide_eq_true d1,decX_4 (by omega) (by omega) (by omega) (by omega) (by omega) (by omega) (valid_of (by omega) (by omega) (by omega))]
  exact Prod.ext (by simp only;omega) rfl
theorem valid_is {c:Int} (h:Utf8.valid c=true):(0≤c∧c<55296)∨(57344≤c∧c≤1114111):=by
 unfold Utf8.valid at h
 simp at h
 omega
theorem decX_ways (x0 x1 x2 x3:Nat) (p1 p2 p3:Bool) (h0:x0<256) (h1:x1<256) (h2:x2<256) (h3:x3<256) :
  decX x0 x1 x2 x3 p1 p2 p3=(65533,1)∨(∃ c,encC c=[(x0:Int)])∨(p1=true∧∃ c,encC c=[(x0:Int),(x1:Int)])∨(p1=true∧p2=true∧∃ c,encC c=[(x0:Int),(x1:Int),(x2:Int)])∨(p1=true∧p2=true∧p3=true∧∃ c,encC c=[(x0:Int),(x1:Int),(x2:Int),(x3:Int)]):=by
 unfold decX
 by_cases c0:x0<128
 ·right;left
  exact⟨x0,enc_1 (by omega) (by omega)⟩
 rw[if_neg c0]
 split
 ·rename_i c1
  rw[Bool.and_eq_true,Bool.and_eq_true] at c1
  obtain⟨g0,g1,g2⟩:=c1
  replace g0:=eq_of_beq g0
  replace g2:=eq_of_beq g2
  by_cases c2:x0 % 32*64+x1 % 64 ≥ 128
  ·right;right;left
   refine⟨g1,((x0 % 32*64+x1 % 64:Nat):Int),?_⟩
   rw[enc_2 (by omega) (by omega)]
   simp only[List.cons.injEq,and_true]
   omega
  ·left;rw[if_neg c2]
 split
 ·rename_i c1
  rw[Bool.and_eq_true,Bool.and_eq_true,Bool.and_eq_true,Bool.and_eq_true] at c1
  obtain⟨⟨g0,g1,g2⟩,g3,g4⟩:=c1
  replace g0:=eq_of_beq g0
  replace g2:=eq_of_beq g2
  replace g4:=eq_of_beq g4
  split
  ·rename_i c2
   rw[Bool.and_eq_true] at c2
   have k1:=of_decide_eq_true c2.1
   have k2:=valid_is c2.2
   right;right;right;left
   refine⟨g1,g3,((x0 % 16*4096+x1 % 64*64+x2 % 64:Nat):Int),?_⟩
   rw[enc_3 (by omega) (by omega) (by omega)]
   simp only[List.cons.injEq,and_true]
   omega
  ·exact .inl rfl
 split
 ·rename_i c1
  rw[Bool.and_eq_true,Bool.and_eq_true,Bool.and_eq_true,Bool.and_eq_true,Bool.and_eq_true,Bool.and_eq_true] at c1
  obtain⟨⟨⟨g0,g1,g2⟩,g3,g4⟩,g5,g6⟩:=c1
  replace g0:=eq_of_beq g0
  replace g2:=eq_of_beq g2
  replace g4:=eq_of_beq g4
  replace g6:=eq_of_beq g6
  split
  ·rename_i c2
   rw[Bool.and_eq_true] at c2
   have k1:=of_decide_eq_true c2.1
   have k2:=valid_is c2.2
   right;right;right;right
   refine⟨g1,g3,g5,((x0 % 8*262144+x1 % 64*4096+x2 % 64*64+x3 % 64:Nat):Int),?_⟩
   rw[enc_4 (by omega) (by omega)]
   simp only[List.cons.injEq,and_true]
   omega
  ·exact .inl rfl
 exact .inl rfl
theorem decode_ways (s:ByteArray) (i:Nat) (hi:i<s.size):Utf8.decode s i=(65533,1)∨∃ c t,encC c≠[]∧(bI s).drop i=encC c++t:=by
 have hsp:∀ k (h:k<s.size),(bI s).drop k=((s.get! k).toNat:Int) :: (bI s).drop (k+1):=fun k h=>by
  have h1:=get_bI s k h
  have hk:k<(bI s).length:=by rw[bI_len];exact h
  rw[List.drop_eq_getElem_cons hk]
  rw[List.getElem?_eq_getElem hk] at h1
  injection h1 with h1
  rw[h1]
 have l0:=hsp i hi
 rw[decode_eq]
 rcases decX_ways (s.get! i).toNat (s.get! (i+1)).toNat (s.get! (i+2)).toNat (s.get! (i+3)).toNat (decide (i+1<s.size)) (decide (i+2<s.size)) (decide (i+3<s.size)) (s.get! i).toNat_lt (s.get! (i+1)).toNat_lt (s.get! (i+2)).toNat_lt (s.get! (i+3)).toNat_lt with h|⟨c,h⟩|⟨p1,c,h⟩|⟨p1,p2,c,h⟩|⟨p1,p2,p3,c,h⟩
 ·exact .inl h
 ·exact .inr ⟨c,_,by rw[h];simp,by rw[h,l0];rfl⟩
 ·exact .inr ⟨c,_,by rw[h];simp,by rw[h,l0,hsp (i+1) (of_decide_eq_true p1)];rfl⟩
 ·exact .inr ⟨c,_,by rw[h];simp,by rw[h,l0,hsp (i+1) (of_decide_eq_true p1),hsp (i+2) (of_decide_eq_true p2)];rfl⟩
 ·exact .inr ⟨c,_,by rw[h];simp,by rw[h,l0,hsp (i+1) (of_decide_eq_true p1),hsp (i+2) (of_decide_eq_true p2),hsp (i+3) (of_decide_eq_true p3)];rfl⟩
theorem decode_rune (s:ByteArray) (i:Nat) (hi:i<s.size):(runeP ((bI s).drop i)=[]∧Utf8.decode s i=(65533,1))∨∃ c,encC c=runeP ((bI s).drop i)∧runeP ((bI s).drop i)≠[]∧Utf8.decode s i=(c.toNat,(runeP ((bI s).drop i)).length):=by
 by_cases h:runeP ((bI s).drop i)=[]
 ·left
  refine⟨h,?_⟩
  rcases decode_ways s i hi with h1|⟨c,t,h1,h2⟩
  ·exact h1
  ·rw[h2,rune_of c t h1] at h
   exact absurd h h1
 ·right
  obtain⟨c,t,h1,h2⟩:=rune_is _ h
  refine⟨c,h1,h,?_⟩
  rw[← h1]
  exact decode_of s i c t (by rw[h1];exact h) (by rw[h1];exact h2)
end Go.Proofs.YtdnmgpcfgcidbaaGreatDoor
