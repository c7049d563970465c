/- dJa dJb dLa dNm dPa dNq dJc dJd dLb dLc dLf dJe dJg dJj dJf. -/
import Derived.Deep.Slices
import Derived.Test.YtjkgkmmkehnggaaGreatDoorVb5
namespace Go.Proofs.YtjkgkmmkehnggaaGreatDoor
set_option linter.unusedVariables false
set_option linter.unusedSimpArgs false
set_option maxRecDepth 20000
def encC (c:Int):List Int :=
 if c<0∨1114111<c∨(55296≤c∧c≤57343) then [] else if c<128 then [c] else if c<2048 then [192+c / 64,128+c % 64]
 else if c<65536 then [224+c / 4096,128+c / 64 % 64,128+c % 64] else [240+c / 262144,128+c / 4096 % 64,128+c / 64 % 64,128+c % 64]
def runeP4 (b0 b1 b2:Int):List Int→List Int
 | []=>[]
 | b3 :: _=>if encC (64*(64*(64*(b0 % 8)+b1 % 64)+b2 % 64)+b3 % 64)=[b0,b1,b2,b3] then [b0,b1,b2,b3] else []
def runeP3 (b0 b1:Int):List Int→List Int
 | []=>[]
 | b2 :: t=>if encC (64*(64*(b0 % 16)+b1 % 64)+b2 % 64)=[b0,b1,b2] then [b0,b1,b2] else runeP4 b0 b1 b2 t
def runeP2 (b0:Int):List Int→List Int
 | []=>[]
 | b1 :: t=>if encC (64*(b0 % 32)+b1 % 64)=[b0,b1] then [b0,b1] else runeP3 b0 b1 t
def runeP:List Int→List Int
 | []=>[]
 | b0 :: t=>if encC b0=[b0] then [b0] else runeP2 b0 t
theorem encC_ways (c:Int):encC c=[]∨(0≤c∧c<128∧encC c=[c])∨(128≤c∧c<2048∧encC c=[192+c / 64,128+c % 64])∨(2048≤c∧c<65536∧¬ (55296≤c∧c≤57343)∧encC c=[224+c / 4096,128+c / 64 % 64,128+c % 64]) ∨
  (65536≤c∧c≤1114111∧encC c=[240+c / 262144,128+c / 4096 % 64,128+c / 64 % 64,128+c % 64]):=by
 unfold encC
 by_cases h0:c<0∨1114111<c∨(55296≤c∧c≤57343)
 ·left;rw[if_pos h0]
 rw[if_neg h0]
 by_cases h1:c<128
 ·right;left;rw[if_pos h1];exact⟨by omega,h1,rfl⟩
 rw[if_neg h1]
 by_cases h2:c<2048
 ·right;right;left;rw[if_pos h2];exact⟨by omega,h2,rfl⟩
 rw[if_neg h2]
 by_cases h3:c<65536
 ·right;right;right;left;rw[if_pos h3];exact⟨by omega,h3,by omega,rfl⟩
 rw[if_neg h3]
 right;right;right;right
 exact⟨by omega,by omega,rfl⟩
theorem encC_nil (c:Int):encC c=[]↔(c<0∨1114111<c∨(55296≤c∧c≤57343)):=by
 constructor
 ·intro h
  unfold encC at h
  by_cases h0:c<0∨1114111<c∨(55296≤c∧c≤57343)
  ·exact h0
  rw[if_neg h0] at h
  split at h
  ·cases h
  split at h
  ·cases h
  split at h <;> cases h
 ·intro h;unfold encC;rw[if_pos h]
theorem encC_len (c:Int):(encC c).length≤4:=by
 rcases encC_ways c with h|⟨_,_,h⟩|⟨_,_,h⟩|⟨_,_,_,h⟩|⟨_,_,h⟩ <;> rw[h] <;> simp
theorem encC_byte (c:Int):∀ b ∈ encC c,0≤b∧b<256:=by
 intro b hb
 rcases encC_ways c with h|⟨h1,h2,h⟩|⟨h1,h2,h⟩|⟨h1,h2,_,h⟩|⟨h1,h2,h⟩ <;> rw[h] at hb <;> simp at hb <;> omega
theorem encC_high (c:Int) (hc:128≤c):∀ b ∈ encC c,128≤b:=by
 intro b hb
 rcases encC_ways c with h|⟨h1,h2,h⟩|⟨h1,h2,h⟩|⟨h1,h2,_,h⟩|⟨h1,h2,h⟩ <;> rw[h] at hb <;> simp at hb <;> omega
theorem encC_ne1 (c b0:Int) (h0:128≤b0):encC c≠[b0]:=by
 rcases encC_ways c with h|⟨h1,h2,h⟩|⟨h1,h2,h⟩|⟨h1,h2,_,h⟩|⟨h1,h2,h⟩ <;> rw[h] <;> simp
 omega
theorem encC_is2 (c b0 b1:Int) (h:encC c=[b0,b1]):194≤b0∧b0≤223∧128≤b1∧b1<192∧c=64*(b0 % 32)+b1 % 64:=by
 rcases encC_ways c with h'|⟨h1,h2,h'⟩|⟨h1,h2,h'⟩|⟨h1,h2,_,h'⟩|⟨h1,h2,h'⟩ <;> rw[h'] at h <;> simp at h
 omega
theorem encC_is3 (c b0 b1 b2:Int) (h:encC c=[b0,b1,b2]):224≤b0∧b0≤239∧128≤b1∧b1<192∧128≤b2∧b2<192∧c=64*(64*(b0 % 16)+b1 % 64)+b2 % 64:=by
 rcases encC_ways c with h'|⟨h1,h2,h'⟩|⟨h1,h2,h'⟩|⟨h1,h2,_,h'⟩|⟨h1,h2,h'⟩ <;> rw[h'] at h <;> simp at h
 omega
theorem rune_of (c:Int) (t:List Int) (h:encC c≠[]):runeP (encC c++t)=encC c:=by
 rcases encC_ways c with h'|⟨h1,h2,h'⟩|⟨h1,h2,h'⟩|⟨h1,h2,h3,h'⟩|⟨h1,h2,h'⟩
 ·exact absurd h' h
 ·rw[h',List.singleton_append,runeP,if_pos h']
 ·rw[h']
  have e:64*((192+c / 64) % 32)+(128+c % 64) % 64=c:=by omega
  rw[List.cons_append,List.cons_append,List.nil_append,runeP,if_neg (encC_ne1 _ _ (by omega)),runeP2,e,if_pos h']
 ·rw[h']
  have e:64*(64*((224+c / 4096) % 16)+(128+c / 64 % 64) % 64)+(128+c % 64) % 64=c:=by omega
  rw[List.cons_append,List.cons_append,List.cons_append,List.nil_append,runeP,if_neg (encC_ne1 _ _ (by omega)),runeP2,if_neg (fun hq=>by have:=encC_is2 _ _ _ hq;omega),runeP3,e,if_pos h']
 ·rw[h']
  have e:64*(64*(64*((240+c / 262144) % 8)+(128+c / 4096 % 64) % 64)+(128+c / 64 % 64) % 64)+(128+c % 64) % 64=c:=by omega
  rw[List.cons_append,List.cons_append,List.cons_append,List.cons_append,List.nil_append,runeP,if_neg (encC_ne1 _ _ (by omega)),runeP2,if_neg (fun hq=>by have:=encC_is2 _ _ _ hq;omega),runeP3,if_neg (fun hq=>by have:=encC_is3 _ _ _ _ hq;omega),runeP4,e,if_pos h']
theorem rune_is (l:List Int) (h:runeP l≠[]):∃ c t,encC c=runeP l∧l=runeP l++t:=by
 cases l with
 | nil=>exact absurd rfl h
 | cons b0 t =>
  rw[runeP] at h ⊢
  split
  ·exact⟨b0,t,by assumption,rfl⟩
  rename_i n0
  rw[if_neg n0] at h
  cases t with
  | nil=>exact absurd rfl h
  | cons b1 t =>
   rw[runeP2] at h ⊢
   split
   ·exact⟨_,t,by assumption,rfl⟩
   rename_i n1
   rw[if_neg n1] at h
   cases t with
   | nil=>exact absurd rfl h
   | cons b2 t =>
    rw[runeP3] at h ⊢
    split
    ·exact⟨_,t,by assumption,rfl⟩
    rename_i n2
    rw[if_neg n2] at h
    cases t with
    | nil=>exact absurd rfl h
    | cons b3 t =>
     rw[runeP4] at h ⊢
     split
     ·exact⟨_,t,by assumption,rfl⟩
     rename_i n3
     rw[if_neg n3] at h
     exact absurd rfl h
theorem rune_len (l:List Int):(runeP l).length≤l.length∧(runeP l).length≤4:=by
 by_cases h:runeP l=[]
 ·rw[h];simp
 ·obtain⟨c,t,h1,h2⟩:=rune_is l h
  refine⟨?_,by rw[← h1];exact encC_len c⟩
  have:=congrArg List.length h2
  rw[List.length_append] at this
  omega
theorem rune_take (l:List Int) (h:runeP l≠[]):l.take (runeP l).length=runeP l:=by
 obtain⟨c,t,h1,h2⟩:=rune_is l h
 have e:=congrArg (List.take (runeP l).length) h2
 rw[List.take_left' rfl] at e
 exact e
inductive Val:List Int→Nat→Prop
 | nil:Val [] 0
 | cons (c:Int) (l:List Int) (n:Nat):encC c≠[]→Val l n→Val (encC c++l) (n+1)
def countF:Nat→List Int→Int
 | 0,l=>if l=[] then 0 else -1
 | f+1,l=>if l=[] then 0 else if runeP l=[] then -1 else if countF f (l.drop (runeP l).length)<0 then -1 else countF f (l.drop (runeP l).length)+1
def countP (l:List Int):Int:=countF l.length l
theorem val_head {l:List Int} {n:Nat} (h:Val l n) (hl:l≠[]):∃ c m k,encC c≠[]∧l=encC c++m∧n=k+1∧Val m k:=by
 cases h with
 | nil=>exact absurd rfl hl
 | cons c m k h1 h2=>exact⟨c,m,k,h1,rfl,rfl,h2⟩
theorem val_count:∀ (f:Nat) (l:List Int) (n:Nat),l.length≤f→Val l n→countF f l=n
 | 0,l,n,hf,h=>by
  have:l=[]:=List.eq_nil_of_length_eq_zero (by omega)
  subst this
  cases hn:n with
  | zero=>rfl
  | succ k =>
   subst hn
   generalize hl:([]:List Int)=l at h
   cases h with
   | cons c m k h1 h2=>rcases List.append_eq_nil_iff.1 hl.symm with ⟨h3,_⟩;exact absurd h3 h1
 | f+1,l,n,hf,h=>by
  by_cases hl:l=[]
  ·subst hl
   rw[countF,if_pos rfl]
   generalize hl:([]:List Int)=l at h
   cases h with
   | nil=>rfl
   | cons c m k h1 h2=>rcases List.append_eq_nil_iff.1 hl.symm with ⟨h3,_⟩;exact absurd h3 h1
  ·obtain⟨c,m,k,h1,rfl,rfl,h2⟩:=val_head h hl
   rw[countF,if_neg hl,rune_of c m h1,if_neg h1,List.drop_left]
   have hp:0<(encC c).length:=List.length_pos_iff.2 h1
   rw[List.length_append] at hf
   rw[val_count f m k (by omega) h2,if_neg (by omega)]
   push_cast
   rfl
theorem count_is {l:List Int} {n:Nat} (h:Val l n):countP l=n:=val_count _ l n (Nat.le_refl _) h
def digP (c:Int):Int:=if 48≤c∧c≤57 then c - 48 else if 97≤c∧c≤102 then c - 87 else if 65≤c∧c≤70 then c - 55 else -1
def badF (i:Nat) (b:Int):Prop:=(i=0∧b≠92)∨(i=1∧b≠117)∨(1<i∧digP b<0)
instance (i:Nat) (b:Int):Decidable (badF i b):=by unfold badF;infer_instance
def fourG:Nat→Nat→Int→List Int→Int × Int
 | 0,_,c,_=>(c,0)
 | _+1,_,_,[]=>(0,3)
 | f+1,i,c,b :: t=>if badF i b then (0,4) else fourG f (i+1) (if 1<i then 16*c+digP b else c) t
def fourP (l:List Int):Int × Int:=fourG 6 0 0 l
def twoP (b:Int):Option Int :=
 if b=34 then some 34 else if b=92 then some 92 else if b=47 then some 47 else if b=98 then some 8 else if b=102 then some 12 else if b=110 then some 10 else if b=114 then some 13 else if b=116 then some 9 else none
inductive St
 | short
 | form
 | fin
 | piece (t:List Int) (n:Nat)
deriving DecidableEq
def badE (e:Int):St:=if e=3 then .short else .form
def escP (l:List Int):St :=
 match l with
 | _ :: b :: _=>match twoP b with
  | some x=>.piece [x] 2
  | none=>if (fourP l).2≠0 then badE (fourP l).2 else if (fourP l).1<55296∨57343<(fourP l).1 then .piece (encC (fourP l).1) 6 else if 56319<(fourP l).1 then .form else
   if (fourP (l.drop 6)).2≠0 then badE (fourP (l.drop 6)).2 else if (fourP (l.drop 6)).1<56320∨57343<(fourP (l.drop 6)).1 then .form
   else .piece (encC (65536+1024*((fourP l).1 - 55296)+(fourP (l.drop 6)).1 - 56320)) 12
 | _=>.short
def stepP:List Int→St
 | []=>.short
 | b :: t=>if b=34 then .fin else if b=92 then escP (b :: t) else if runeP (b :: t)=[]∨b<32 then .form else .piece (runeP (b :: t)) (runeP (b :: t)).length
def takeG:Nat→List Int→Nat→List Int→List Int × Nat × Int
 | 0,l,p,_=>([],p+l.length,3)
 | f+1,l,p,out=>match stepP l with
  | .short=>([],p+l.length,3)
  | .form=>([],p,4)
  | .fin=>(out,p+1,0)
  | .piece t n=>takeG f (l.drop n) (p+n) (out++t)
def takeP (l:List Int) (at_:Int):List Int × Nat × Int :=
 if at_<0∨(l.length:Int)<at_ then ([],0,2) else if at_=l.length then ([],at_.toNat,3) else if l.getD at_.toNat 0≠34 then ([],at_.toNat,4)
 else takeG l.length (l.drop (at_.toNat+1)) (at_.toNat+1) []
theorem four_ok:∀ (f i:Nat) (c:Int) (l:List Int),(fourG f i c l).2=0→f≤l.length
 | 0,_,_,_,_=>Nat.zero_le _
 | f+1,i,c,[],h=>by rw[fourG] at h;cases h
 | f+1,i,c,b :: t,h=>by
  rw[fourG] at h
  split at h
  ·cases h
  ·have:=four_ok f _ _ t h
   rw[List.length_cons]
   omega
theorem four_err:∀ (f i:Nat) (c:Int) (l:List Int),(fourG f i c l).2=0∨(fourG f i c l).2=3∨(fourG f i c l).2=4
 | 0,_,_,_=>.inl rfl
 | f+1,i,c,[]=>.inr (.inl rfl)
 | f+1,i,c,b :: t=>by
  rw[fourG]
  split
  ·exact .inr (.inr rfl)
  ·exact four_err f _ _ t
theorem four_more:∀ (f i:Nat) (c:Int) (l x:List Int),f≤l.length→fourG f i c (l.take f++x)=fourG f i c l
 | 0,_,_,_,_,_=>by rw[fourG,fourG]
 | f+1,i,c,[],x,h=>by simp at h
 | f+1,i,c,b :: t,x,h=>by
  rw[List.take_succ_cons,List.cons_append,fourG,fourG]
  rw[List.length_cons] at h
  split
  ·rfl
  ·exact four_more f _ _ t x (by omega)
theorem four_cut:∀ (f i:Nat) (c:Int) (l:List Int),l.length<f→(fourG f i c l).2=3∨(fourG f i c l).2=4
 | 0,_,_,_,h=>by omega
 | f+1,i,c,[],h=>.inl rfl
 | f+1,i,c,b :: t,h=>by
  rw[fourG]
  rw[List.length_cons] at h
  split
  ·exact .inr rfl
  ·exact four_cut f _ _ t (by omega)
theorem dig_lt (c:Int):digP c<16∧-1≤digP c:=by
 unfold digP
 split
 ·omega
 split
 ·omega
 split <;> omega
theorem four_val:∀ (f i:Nat) (c:Int) (l:List Int),0≤c→(fourG f i c l).2=0→0≤(fourG f i c l).1
 | 0,_,c,_,h0,_=>h0
 | f+1,i,c,[],h0,h=>by rw[fourG] at h;cases h
 | f+1,i,c,b :: t,h0,h=>by
  rw[fourG] at h ⊢
  split at h
  ·cases h
  ·rename_i hb
   rw[if_neg hb]
   refine four_val f _ _ t ?_ h
   split
   ·rename_i hi
    have:¬ digP b<0:=fun hd=>hb (.inr (.inr ⟨hi,hd⟩))
    omega
   ·exact h0
theorem four_bd:∀ (f i:Nat) (c:Int) (l:List Int) (m:Int),0≤c→c<m→(fourG f i c l).2=0→(fourG f i c l).1<m*16 ^ f
 | 0,_,c,_,m,h0,h1,_=>by rw[fourG];omega
 | f+1,i,c,[],m,h0,h1,h=>by rw[fourG] at h;cases h
 | f+1,i,c,b :: t,m,h0,h1,h=>by
  rw[fourG] at h ⊢
  split at h
  ·cases h
  ·rename_i hb
   rw[if_neg hb]
   have hd:=dig_lt b
   have e:m*16 ^ (f+1)=(16*m)*16 ^ f:=by rw[Int.pow_succ];rw[Int.mul_comm (16 ^ f) 16,← Int.mul_assoc,Int.mul_comm m 16]
   rw[e]
   refine four_bd f _ _ t (16*m) ?_ ?_ h
   ·split
    ·rename_i hi
     have:¬ digP b<0:=fun hd=>hb (.inr (.inr ⟨hi,hd⟩))
     omega
    ·exact h0
   ·split <;> omega
theorem four_lt (l:List Int) (h:(fourP l).2=0):0≤(fourP l).1∧(fourP l).1<65536:=by
 refine⟨four_val 6 0 0 l (by omega) h,?_⟩
 unfold fourP at h ⊢
 match l,h with
 | [],h=>rw[fourG] at h;cases h
 | [b],h =>
  rw[fourG] at h
  split at h
  ·cases h
  ·rw[fourG] at h;cases h
 | b :: b1 :: t,h =>
  rw[fourG] at h ⊢
  split at h
  ·cases h
  rename_i h0
  rw[if_neg h0]
  rw[fourG] at h ⊢
  split at h
  ·cases h
  rename_i h1
  rw[if_neg h1]
  have e0:(if 1<0+1 then 16*(if 1<0 then 16*0+digP b else 0)+digP b1 else if 1<0 then 16*0+digP b else 0)=0:=by simp
  rw[e0] at h ⊢
  have:=four_bd 4 (0+1+1) 0 t 1 (by omega) (by omega) h
  omega
theorem four_len {l:List Int} (h:(fourP l).2=0):6≤l.length:=four_ok 6 0 0 l h
theorem badE_short (e:Int):badE e=.short∨badE e=.form:=by
 unfold badE
 split
 ·exact .inl rfl
 ·exact .inr rfl
theorem two_val {b x:Int} (h:twoP b=some x):encC x=[x]∧0≤x∧x<128:=by
 unfold twoP at h
 repeat' (split at h)
 all_goals first|(cases h;done)|(injection h with h;subst h;exact⟨by decide,by omega,by omega⟩)
theorem esc_of (a b:Int) (t:List Int):escP (a :: b :: t)=match twoP b with
  | some x=>.piece [x] 2
  | none=>if (fourP (a :: b :: t)).2≠0 then badE (fourP (a :: b :: t)).2 else if (fourP (a :: b :: t)).1<55296∨57343<(fourP (a :: b :: t)).1 then .piece (encC (fourP (a :: b :: t)).1) 6 else if 56319<(fourP (a :: b :: t)).1 then .form else
   if (fourP ((a :: b :: t).drop 6)).2≠0 then badE (fourP ((a :: b :: t).drop 6)).2 else if (fourP ((a :: b :: t).drop 6)).1<56320∨57343<(fourP ((a :: b :: t).drop 6)).1 then .form
   else .piece (encC (65536+1024*((fourP (a :: b :: t)).1 - 55296)+(fourP ((a :: b :: t).drop 6)).1 - 56320)) 12:=rfl
structure PieceOk (l:List Int) (t:List Int) (n:Nat):Prop where
 one:1≤n
 len:n≤l.length
 rune:∃ c,encC c=t
 ne:t≠[]
 more:∀ x,stepP (l.take n++x)=.piece t n
 cut:∀ k,k<n→stepP (l.take k)=.short∨stepP (l.take k)=.form
theorem step_esc (t:List Int):stepP (92 :: t)=escP (92 :: t):=rfl
theorem esc_cut (b:Int) (t:List Int) (h:twoP b=none) (hf:(fourP (92 :: b :: t)).2=3∨(fourP (92 :: b :: t)).2=4):escP (92 :: b :: t)=.short∨escP (92 :: b :: t)=.form:=by
 rw[esc_of,h]
 simp only
 rw[if_pos (by omega)]
 exact badE_short _
theorem take_lt_len {l:List Int} {k:Nat} (h:k≤l.length):(l.take k).length=k:=by rw[List.length_take];omega
theorem piece_esc (b:Int) (s:List Int) (t:List Int) (n:Nat) (h:escP (92 :: b :: s)=.piece t n):PieceOk (92 :: b :: s) t n:=by
 rw[esc_of] at h
 cases h2:twoP b with
 | some x =>
  rw[h2] at h
  simp only at h
  injection h with h3 h4
  subst h3 h4
  obtain⟨e1,e2,e3⟩:=two_val h2
  refine⟨by omega,by simp,⟨x,e1⟩,by simp,fun y=>?_,fun k hk=>?_⟩
  ·show escP (92 :: b :: ([]++y))=_
   rw[esc_of,h2]
  ·match k,hk with
   | 0,_=>exact .inl rfl
   | 1,_=>exact .inl rfl
 | none =>
  rw[h2] at h
  simp only at h
  by_cases h3:(fourP (92 :: b :: s)).2=0
  ·rw[if_neg (by simpa using h3)] at h
   have l6:=four_len h3
   have hv:=four_lt _ h3
   have cut6:∀ k,k<6→stepP ((92 :: b :: s).take k)=.short∨stepP ((92 :: b :: s).take k)=.form:=by
    intro k hk
    match k,hk with
    | 0,_=>exact .inl rfl
    | 1,_=>exact .inl rfl
    | k+2,hk =>
     rw[List.take_succ_cons,List.take_succ_cons,step_esc]
     refine esc_cut b _ h2 ?_
     refine four_cut 6 0 0 _ ?_
     simp only[List.length_cons,List.length_take]
     omega
   have more6:∀ y,fourP ((92 :: b :: s).take 6++y)=fourP (92 :: b :: s):=fun y=>four_more 6 0 0 _ y l6
   by_cases h4:(fourP (92 :: b :: s)).1<55296∨57343<(fourP (92 :: b :: s)).1
   ·rw[if_pos h4] at h
    injection h with h5 h6
    subst h5 h6
    refine⟨by omega,l6,⟨_,rfl⟩,fun e=>?_,fun y=>?_,cut6⟩
    ·have:=(encC_nil _).1 e
     omega
    ·have hm:=more6 y
     rw[List.take_succ_cons,List.take_succ_cons,List.cons_append,List.cons_append] at hm ⊢
     rw[step_esc,esc_of,h2]
     simp only
     rw[hm,if_neg (by simpa using h3),if_pos h4]
   ·rw[if_neg h4] at h
    by_cases h5:56319<(fourP (92 :: b :: s)).1
    ·rw[if_pos h5] at h;cases h
    rw[if_neg h5] at h
    by_cases h6:(fourP ((92 :: b :: s).drop 6)).2=0
    ·rw[if_neg (by simpa using h6)] at h
     by_cases h7:(fourP ((92 :: b :: s).drop 6)).1<56320∨57343<(fourP ((92 :: b :: s).drop 6)).1
     ·rw[if_pos h7] at h;cases h
     rw[if_neg h7] at h
     injection h with h8 h9
     subst h8 h9
     have l12:=four_len h6
     rw[List.length_drop] at l12
     refine⟨by omega,by omega,⟨_,rfl⟩,fun e=>?_,fun y=>?_,fun k hk=>?_⟩
     ·have:=(encC_nil _).1 e
      omega
     ·have e12:(92 :: b :: s).take 12++y=(92 :: b :: s).take 6++(((92 :: b :: s).drop 6).take 6++y):=by
       rw[← List.append_assoc]
       congr 1
       rw[show (12:Nat)=6+6 from rfl,List.take_add]
      have hm:=more6 (((92 :: b :: s).drop 6).take 6++y)
      rw[← e12] at hm
      have hd:((92 :: b :: s).take 12++y).drop 6=((92 :: b :: s).drop 6).take 6++y:=by
       rw[e12]
       exact List.drop_left' (take_lt_len l6)
      have hm2:fourP (((92 :: b :: s).take 12++y).drop 6)=fourP ((92 :: b :: s).drop 6):=by
       rw[hd]
       exact four_more 6 0 0 _ y (by rw[List.length_drop];omega)
      rw[List.take_succ_cons,List.take_succ_cons,List.cons_append,List.cons_append] at hm hm2 ⊢
      rw[step_esc,esc_of,h2]
      simp only
      rw[hm,hm2,if_neg (by simpa using h3),if_neg h4,if_neg h5,if_neg (by simpa using h6),if_neg h7]
     ·by_cases hk6:k<6
      ·exact cut6 k hk6
      ·have e12:(92 :: b :: s).take k=(92 :: b :: s).take 6++((92 :: b :: s).drop 6).take (k - 6):=by
        conv=>lhs;rw[show k=6+(k - 6) by omega,List.take_add]
       have hm:=more6 (((92 :: b :: s).drop 6).take (k - 6))
       rw[← e12] at hm
       have hd:((92 :: b :: s).take k).drop 6=((92 :: b :: s).drop 6).take (k - 6):=by
        rw[e12]
        exact List.drop_left' (take_lt_len l6)
       have hc:(fourP (((92 :: b :: s).take k).drop 6)).2=3∨(fourP (((92 :: b :: s).take k).drop 6)).2=4:=by
        rw[hd]
        refine four_cut 6 0 0 _ ?_
        rw[List.length_take]
        omega
       obtain⟨j,rfl⟩:∃ j,k=j+2:=⟨k - 2,by omega⟩
       rw[List.take_succ_cons,List.take_succ_cons] at hm hc ⊢
       rw[step_esc,esc_of,h2]
       simp only
       rw[hm,if_neg (by simpa using h3),if_neg h4,if_neg h5,if_pos (by omega)]
       exact badE_short _
    ·rw[if_pos h6] at h
     rcases badE_short (fourP ((92 :: b :: s).drop 6)).2 with e|e <;> rw[e] at h <;> cases h
  ·rw[if_pos h3] at h
   rcases badE_short (fourP (92 :: b :: s)).2 with e|e <;> rw[e] at h <;> cases h
theorem rune_cut (c:Int) (k:Nat) (hk:k<(encC c).length):runeP ((encC c).take k)=[]:=by
 by_cases h:runeP ((encC c).take k)=[]
 ·exact h
 exfalso
 obtain⟨d,t,h1,h2⟩:=rune_is _ h
 have e:encC c=encC d++(t++(encC c).drop k):=by
  conv=>lhs;rw[← List.take_append_drop k (encC c),h2,← h1,List.append_assoc]
 have hd:encC d≠[]:=by rw[h1];exact h
 have hr:=rune_of d (t++(encC c).drop k) hd
 rw[← e] at hr
 have hc:encC c≠[]:=by intro e;rw[e] at hk;simp at hk
 have hr2:=rune_of c [] hc
 rw[List.append_nil] at hr2
 rw[hr2] at hr
 have h3:=congrArg List.length e
 have h4:=congrArg List.length hr
 have h5:((encC c).drop k).length=(encC c).length - k:=List.length_drop
 rw[List.length_append,List.length_append] at h3
 omega
theorem step_piece (l:List Int) (t:List Int) (n:Nat) (h:stepP l=.piece t n):PieceOk l t n:=by
 cases l with
 | nil=>cases h
 | cons b s =>
  rw[stepP] at h
  by_cases h1:b=34
  ·rw[if_pos h1] at h;cases h
  rw[if_neg h1] at h
  by_cases h2:b=92
  ·rw[if_pos h2] at h
   subst h2
   cases s with
   | nil=>cases h
   | cons b1 s=>exact piece_esc b1 s t n h
  rw[if_neg h2] at h
  by_cases h3:runeP (b :: s)=[]∨b<32
  ·rw[if_pos h3] at h;cases h
  rw[if_neg h3] at h
  injection h with h4 h5
  subst h4 h5
  have hne:runeP (b :: s)≠[]:=fun e=>h3 (.inl e)
  obtain⟨c,u,e1,e2⟩:=rune_is _ hne
  obtain⟨r,hr⟩:∃ r,encC c=b :: r:=by
   cases hc:encC c with
   | nil=>rw[← e1] at hne;exact absurd hc hne
   | cons x r =>
    rw[← e1,hc,List.cons_append] at e2
    injection e2 with e3 _
    exact⟨r,by rw[e3]⟩
  have htk:=rune_take _ hne
  refine⟨?_,(rune_len _).1,⟨c,e1⟩,hne,fun x=>?_,fun k hk=>?_⟩
  ·have:=List.length_pos_iff.2 hne;omega
  ·rw[htk,← e1,hr,List.cons_append,stepP,if_neg h1,if_neg h2,← List.cons_append,← hr,rune_of c x (by rw[e1];exact hne),if_neg (by rw[hr];intro hq;rcases hq with hq|hq;cases hq;exact h3 (.inr hq))]
  ·have hkl:(b :: s).take k=(encC c).take k:=by
    rw[e1,← htk,List.take_take,Nat.min_eq_left (by omega)]
   rw[hkl]
   have hrc:=rune_cut c k (by rw[e1];exact hk)
   cases k with
   | zero=>exact .inl rfl
   | succ k =>
    rw[hr,List.take_succ_cons] at hrc ⊢
    right
    rw[stepP,if_neg h1,if_neg h2,if_pos (.inl hrc)]
mutual
inductive Js
 | nul
 | bool (b:Bool)
 | num (n:Int)
 | str (s:List Int)
 | arr (l:Jl)
 | obj (l:Jl)
 | bad
inductive Jl
 | nil
 | cons (name:List Int) (v:Js) (l:Jl)
end
def Jl.length:Jl→Nat
 | .nil=>0
 | .cons _ _ l=>l.length+1
def maxI:Int:=9007199254740991
mutual
def chkV (d:Nat):Js→Int
 | .nul=>0
 | .bool _=>0
 | .num n=>if maxI<n∨n < -maxI then 11 else 0
 | .str s=>if countP s<0 then 4 else 0
 | .arr l=>if 4<d then 20 else if 64<l.length then 21 else chkL false d [] l
 | .obj l=>if 4<d then 20 else if 64<l.length then 21 else chkL true d [] l
 | .bad=>14
def chkL (ob:Bool) (d:Nat) (names:List (List Int)):Jl→Int
 | .nil=>0
 | .cons n v l=>if ob=true∧countP n<0 then 4 else if ob=true∧n ∈ names then 22 else if chkV (d+1) v≠0 then chkV (d+1) v else chkL ob d (names++[n]) l
end
def isB (b:Int):Bool:=b == 32 || b == 9 || b == 10 || b == 13
def blankN:List Int→Nat
 | []=>0
 | b :: t=>if isB b then blankN t+1 else 0
def isN (b:Int):Bool:=(48≤b && b≤57) || b == 43 || b == 45 || b == 46 || b == 101 || b == 69
def spanN:List Int→Nat
 | []=>0
 | b :: t=>if isN b then spanN t+1 else 0
def isD (b:Int):Bool:=48≤b && b≤57
def valD (l:List Int):Int:=l.foldl (fun n c=>10*n+(c - 48)) 0
def unsgn:List Int→List Int
 | []=>[]
 | b :: t=>if b=45 then t else b :: t
def isNeg:List Int→Bool
 | []=>false
 | b :: _=>b == 45
def badD (t:List Int):Prop:=unsgn t=[]∨(unsgn t).head?=some 48∧(1<(unsgn t).length∨isNeg t=true)∨¬ (unsgn t).all isD=true
instance (t:List Int):Decidable (badD t):=by unfold badD;infer_instance
def numP (l:List Int):Js × Nat × Int :=
 if badD (l.take (spanN l)) then (.nul,0,4) else if maxI<valD (unsgn (l.take (spanN l))) then (.nul,0,11)
 else (.num (if isNeg (l.take (spanN l)) then - valD (unsgn (l.take (spanN l))) else valD (unsgn (l.take (spanN l)))),spanN l,0)
def wordG:List Int→List Int→Nat→Nat × Int
 | [],_,i=>(i,0)
 | _ :: _,[],i=>(i,3)
 | c :: w,b :: t,i=>if b=c then wordG w t (i+1) else (0,4)
def wordP (w:List Int) (v:Js) (l:List Int):Js × Nat × Int:=if (wordG w l 0).2=0 then (v,(wordG w l 0).1,0) else (.nul,(wordG w l 0).1,(wordG w l 0).2)
def textP:List Int→List Int × Nat × Int
 | []=>([],0,3)
 | b :: t=>if b=34 then takeG (t.length+1) t 1 [] else ([],0,4)
def head0 (l:List Int):Int:=l.headD (-1)
mutual
def valueP:Nat→Nat→List Int→Js × Nat × Int
 | 0,_,l=>(.nul,l.length,3)
 | _+1,_,[]=>(.nul,0,3)
 | f+1,d,b :: t =>
  if b=110 then wordP [110,117,108,108] .nul (b :: t)
  else if b=102 then wordP [102,97,108,115,101] (.bool false) (b :: t)
  else if b=116 then wordP [116,114,117,101] (.bool true) (b :: t)
  else if b=34 then (if (textP (b :: t)).2.2=0 then (.str (textP (b :: t)).1,(textP (b :: t)).2.1,0) else (.nul,(textP (b :: t)).2.1,(textP (b :: t)).2.2))
  else if b=91∨b=123 then
   (if 4<d then (.nul,0,20) else if head0 (t.drop (blankN t))=b+2 then (if b=91 then .arr .nil else .obj .nil,blankN t+2,0)
   else if (itemsP f d (decide (b=123)) (b+2) [] 0 (t.drop (blankN t))).2.2≠0 then (.nul,blankN t+1+(itemsP f d (decide (b=123)) (b+2) [] 0 (t.drop (blankN t))).2.1,(itemsP f d (decide (b=123)) (b+2) [] 0 (t.drop (blankN t))).2.2)
   else (if b=91 then .arr (itemsP f d (decide (b=123)) (b+2) [] 0 (t.drop (blankN t))).1 else .obj (itemsP f d (decide (b=123)) (b+2) [] 0 (t.drop (blankN t))).1,blankN t+1+(itemsP f d (decide (b=123)) (b+2) [] 0 (t.drop (blankN t))).2.1,0))
  else if b=45∨isD b=true then numP (b :: t)
  else (.nul,0,4)
def itemsP:Nat→Nat→Bool→Int→List (List Int)→Nat→List Int→Jl × Nat × Int
 | 0,_,_,_,_,_,l=>(.nil,l.length,3)
 | f+1,d,ob,fin,names,k,l =>
  if l≠[]∧64≤k then (.nil,0,21)
  else match pairP ob names l with
  | (name,at_,e)=>if e≠0 then (.nil,at_,e) else
   match valueP f (d+1) (l.drop at_) with
   | (v,n,e2)=>if e2≠0 then (.nil,at_+n,e2) else
    (let m:=at_+n+blankN (l.drop (at_+n))
    if l.drop m=[] then (.nil,m,3) else if head0 (l.drop m)=fin then (.cons name v .nil,m+1,0) else if head0 (l.drop m)≠44 then (.nil,m,4) else
    (let q:=m+1+blankN (l.drop (m+1))
    match itemsP f d ob fin (names++[name]) (k+1) (l.drop q) with
    | (r,j,e3)=>if e3≠0 then (.nil,q+j,e3) else (.cons name v r,q+j,0)))
def pairP (ob:Bool) (names:List (List Int)) (l:List Int):List Int × Nat × Int :=
 if ob=false then ([],0,0) else
 match textP l with
 | (name,n,e)=>if e≠0 then ([],n,e) else if name ∈ names then ([],0,22) else
  (let m:=n+blankN (l.drop n)
  if l.drop m=[] then ([],m,3) else if head0 (l.drop m)≠58 then ([],m,4) else (name,m+1+blankN (l.drop (m+1)),0))
end
def fuelV (l:List Int):Nat:=2*l.length+1
def takeV (s:List Int):Js × Nat × Int :=
 if 4096<s.length then (.nul,0,5) else
 match valueP (fuelV s) 1 (s.drop (blankN s)) with
 | (v,n,e)=>if e≠0 then (.nul,blankN s+n,e) else
  (let m:=blankN s+n+blankN (s.drop (blankN s+n))
  if m<s.length then (.nul,m,4) else (v,m,0))
end Go.Proofs.YtjkgkmmkehnggaaGreatDoor
namespace Go.Proofs.YtjkgkmmkehnggaaGreatDoor
set_option linter.unusedVariables false
set_option linter.unusedSimpArgs false
open Go.RowKit
set_option maxRecDepth 20000
mutual
def AnyAt (S:Nat→Prop) (w:World):Js→Value→Prop
 | .nul,x=>x=.nilIface
 | .bool b,x=>x=.iface 4 (.bool b)
 | .num n,x=>x=.iface 3 (.int .i64 n)
 | .str s,x=>∃ t:ByteArray,x=.iface 9 (.string t)∧bI t=s∧s.length≤5000
 | .arr l,x=>∃ a cap,x=.iface 343 (.slice a l.length cap)∧l.length≤cap∧cap≤maxLen∧RowA S w a 0 l
 | .obj l,x=>∃ a cap,x=.iface 136 (.slice a l.length cap)∧l.length≤cap∧cap≤maxLen∧RowP S w a 0 l
 | .bad,x=>x=.iface 100000 (.float .f64 4609434218613702656)
def RowA (S:Nat→Prop) (w:World) (a:Option Addr) (i:Nat):Jl→Prop
 | .nil=>True
 | .cons n v l=>(∃ g off y,a=some ⟨g,off,none⟩∧S g∧g<w.heap.size∧w.cell? ⟨g,off+i,none⟩=some y∧AnyAt S w v y)∧RowA S w a (i+1) l
def RowP (S:Nat→Prop) (w:World) (a:Option Addr) (i:Nat):Jl→Prop
 | .nil=>True
 | .cons n v l=>(∃ g off y t,a=some ⟨g,off,none⟩∧S g∧g<w.heap.size∧w.cell? ⟨g,off+i*2,none⟩=some (.string t)∧bI t=n∧n.length≤5000∧w.cell? ⟨g,off+i*2+1,none⟩=some y∧AnyAt S w v y)∧RowP S w a (i+1) l
end
mutual
theorem AnyAt.keep {S S':Nat→Prop} {w w':World} (hS:∀ b,S b→b<w.heap.size→S' b) (hs:w.heap.size≤w'.heap.size) (hk:∀ b,S b→b<w.heap.size→w'.heap[b]?=w.heap[b]?):∀ (v:Js) (x:Value),AnyAt S w v x→AnyAt S' w' v x
 | .nul,x,h=>by rw[AnyAt] at h ⊢;exact h
 | .bool b,x,h=>by rw[AnyAt] at h ⊢;exact h
 | .num n,x,h=>by rw[AnyAt] at h ⊢;exact h
 | .str s,x,h=>by rw[AnyAt] at h ⊢;exact h
 | .arr l,x,h=>by
  rw[AnyAt] at h ⊢
  obtain⟨a,cap,h1,h2,h3,h4⟩:=h
  exact⟨a,cap,h1,h2,h3,RowA.keep hS hs hk l a 0 h4⟩
 | .obj l,x,h=>by
  rw[AnyAt] at h ⊢
  obtain⟨a,cap,h1,h2,h3,h4⟩:=h
  exact⟨a,cap,h1,h2,h3,RowP.keep hS hs hk l a 0 h4⟩
 | .bad,x,h=>by rw[AnyAt] at h ⊢;exact h
theorem RowA.keep {S S':Nat→Prop} {w w':World} (hS:∀ b,S b→b<w.heap.size→S' b) (hs:w.heap.size≤w'.heap.size) (hk:∀ b,S b→b<w.heap.size→w'.heap[b]?=w.heap[b]?):∀ (l:Jl) (a:Option Addr) (i:Nat),RowA S w a i l→RowA S' w' a i l
 | .nil,a,i,h=>by rw[RowA];trivial
 | .cons n v l,a,i,h=>by
  rw[RowA] at h ⊢
  obtain⟨⟨g,off,y,h1,h2,h3,h4,h5⟩,h6⟩:=h
  exact⟨⟨g,off,y,h1,hS g h2 h3,Nat.lt_of_lt_of_le h3 hs,(World.cell?_of_block (a:=⟨g,off+i,none⟩) (hk g h2 h3)).trans h4,AnyAt.keep hS hs hk v y h5⟩,RowA.keep hS hs hk l a (i+1) h6⟩
theorem RowP.keep {S S':Nat→Prop} {w w':World} (hS:∀ b,S b→b<w.heap.size→S' b) (hs:w.heap.size≤w'.heap.size) (hk:∀ b,S b→b<w.heap.size→w'.heap[b]?=w.heap[b]?):∀ (l:Jl) (a:Option Addr) (i:Nat),RowP S w a i l→RowP S' w' a i l
 | .nil,a,i,h=>by rw[RowP];trivial
 | .cons n v l,a,i,h=>by
  rw[RowP] at h ⊢
  obtain⟨⟨g,off,y,t,h1,h2,h3,h4,h7,h8,h5,h9⟩,h6⟩:=h
  exact⟨⟨g,off,y,t,h1,hS g h2 h3,Nat.lt_of_lt_of_le h3 hs,(World.cell?_of_block (a:=⟨g,off+i*2,none⟩) (hk g h2 h3)).trans h4,h7,h8,(World.cell?_of_block (a:=⟨g,off+i*2+1,none⟩) (hk g h2 h3)).trans h5,AnyAt.keep hS hs hk v y h9⟩,RowP.keep hS hs hk l a (i+1) h6⟩
end
theorem AnyAt.below {S:Nat→Prop} {w w':World} {v:Js} {x:Value} (h:AnyAt S w v x) (hb:Below w.heap.size w w'):AnyAt S w' v x:=AnyAt.keep (fun _ e _=>e) hb.size (fun b _ hlt=>hb.block b hlt) v x h
theorem AnyAt.mono {S S':Nat→Prop} {w:World} {v:Js} {x:Value} (h:AnyAt S w v x) (hS:∀ b,S b→S' b):AnyAt S' w v x:=AnyAt.keep (fun b e _=>hS b e) (Nat.le_refl _) (fun _ _ _=>rfl) v x h
def Jl.at?:Jl→Nat→Option (List Int × Js)
 | .nil,_=>none
 | .cons n v _,0=>some (n,v)
 | .cons _ _ l,i+1=>l.at? i
def Jl.drop:Jl→Nat→Jl
 | l,0=>l
 | .nil,_+1=>.nil
 | .cons _ _ l,i+1=>l.drop i
def Jl.names:Jl→List (List Int)
 | .nil=>[]
 | .cons n _ l=>n :: l.names
theorem Jl.drop_zero (l:Jl):l.drop 0=l:=by cases l <;> rfl
theorem Jl.lt_at:∀ (l:Jl) (k:Nat),k<l.length→∃ n v,l.at? k=some (n,v)
 | .nil,_,h=>absurd h (Nat.not_lt_zero _)
 | .cons n v t,0,_=>⟨n,v,rfl⟩
 | .cons _ _ t,k+1,e=>Jl.lt_at t k (Nat.lt_of_succ_lt_succ e)
theorem Jl.names_at:∀ (l:Jl) (i:Nat) (n:List Int) (v:Js),l.at? i=some (n,v)→l.names[i]?=some n
 | .nil,_,_,_,h=>by cases h
 | .cons n' v' t,0,n,v,h=>by
  obtain⟨rfl,rfl⟩:n'=n∧v'=v:=by simpa[Jl.at?] using h
  rfl
 | .cons n' v' t,i+1,n,v,h=>by simpa[Jl.names] using Jl.names_at t i n v h
theorem RowA.at {S:Nat→Prop} {w:World} {a:Option Addr}:∀ (l:Jl) (i k:Nat) (n:List Int) (v:Js),RowA S w a i l→l.at? k=some (n,v)→∃ g off y,a=some ⟨g,off,none⟩∧S g∧g<w.heap.size∧w.cell? ⟨g,off+(i+k),none⟩=some y∧AnyAt S w v y
 | .nil,_,_,_,_,_,h=>by cases h
 | .cons n' v' t,i,0,n,v,hr,h=>by
  rw[RowA] at hr
  obtain⟨rfl,rfl⟩:n'=n∧v'=v:=by simpa[Jl.at?] using h
  exact hr.1
 | .cons n' v' t,i,k+1,n,v,hr,h=>by
  rw[RowA] at hr
  have:=RowA.at t (i+1) k n v hr.2 h
  rwa[show i+1+k=i+(k+1) by omega] at this
theorem RowA.of {S:Nat→Prop} {w:World} {a:Option Addr}:∀ (l:Jl) (i:Nat),(∀ k n v,l.at? k=some (n,v)→∃ g off y,a=some ⟨g,off,none⟩∧S g∧g<w.heap.size∧w.cell? ⟨g,off+(i+k),none⟩=some y∧AnyAt S w v y)→RowA S w a i l
 | .nil,_,_=>by rw[RowA];trivial
 | .cons n v t,i,h=>by
  rw[RowA]
  exact⟨h 0 n v rfl,RowA.of t (i+1) fun k n v e=>by
   have:=h (k+1) n v e
   rwa[show i+(k+1)=i+1+k by omega] at this⟩
theorem RowP.at {S:Nat→Prop} {w:World} {a:Option Addr}:∀ (l:Jl) (i k:Nat) (n:List Int) (v:Js),RowP S w a i l→l.at? k=some (n,v)→∃ g off y t,a=some ⟨g,off,none⟩∧S g∧g<w.heap.size∧w.cell? ⟨g,off+(i+k)*2,none⟩=some (.string t)∧bI t=n∧n.length≤5000∧w.cell? ⟨g,off+(i+k)*2+1,none⟩=some y∧AnyAt S w v y
 | .nil,_,_,_,_,_,h=>by cases h
 | .cons n' v' t,i,0,n,v,hr,h=>by
  rw[RowP] at hr
  obtain⟨rfl,rfl⟩:n'=n∧v'=v:=by simpa[Jl.at?] using h
  exact hr.1
 | .cons n' v' t,i,k+1,n,v,hr,h=>by
  rw[RowP] at hr
  have:=RowP.at t (i+1) k n v hr.2 h
  rwa[show i+1+k=i+(k+1) by omega] at this
theorem RowP.of {S:Nat→Prop} {w:World} {a:Option Addr}:∀ (l:Jl) (i:Nat),(∀ k n v,l.at? k=some (n,v)→∃ g off y t,a=some ⟨g,off,none⟩∧S g∧g<w.heap.size∧w.cell? ⟨g,off+(i+k)*2,none⟩=some (.string t)∧bI t=n∧n.length≤5000∧w.cell? ⟨g,off+(i+k)*2+1,none⟩=some y∧AnyAt S w v y)→RowP S w a i l
 | .nil,_,_=>by rw[RowP];trivial
 | .cons n v t,i,h=>by
  rw[RowP]
  exact⟨h 0 n v rfl,RowP.of t (i+1) fun k n v e=>by
   have:=h (k+1) n v e
   rwa[show i+(k+1)=i+1+k by omega] at this⟩
def aB:Nat→Prop:=fun _=>True
def PlR (x:List Int) (ns:List (List Int)) (r:Int):Prop:=(r=-1∧x ∉ ns)∨∃ k:Nat,r=k∧ns[k]?=some x∧∀ j,j<k→ns[j]?≠some x
theorem PlR.neg {x:List Int} {ns:List (List Int)} {r:Int} (h:PlR x ns r):(0≤r↔x ∈ ns):=by
 rcases h with ⟨rfl,h⟩|⟨k,rfl,h,_⟩
 ·exact⟨fun e=>by omega,fun e=>absurd e h⟩
 ·exact⟨fun _=>List.mem_of_getElem? h,fun _=>by omega⟩
def plainT:TypeDesc→Bool
 | .interface _=>false
 | _=>true
theorem assert_nil (X T:TypeId) (d:TypeDesc) (z:Value) (hu:Tryz.prog.underlying T=some d) (hd:plainT d=true) (hz:(Tryz.prog.info? T).map (·.zero)=some (some z)) (w:World) :
  (Instr.typeAssert .nilIface X T true).run Tryz.prog w=.ok (.tuple #[z,.bool false]) w:=by
 obtain⟨i,hi,hiz⟩:∃ i,Tryz.prog.info? T=some i∧i.zero=some z:=by
  cases h:Tryz.prog.info? T with
  | none=>simp[h] at hz
  | some i=>exact⟨i,rfl,by simpa[h] using hz⟩
 unfold Instr.typeAssert
 rw[Sem.run_bind,run_underlying hu w]
 cases d <;> simp_all [plainT,zeroValue,typeInfo]
theorem assert_no (X T t:TypeId) (v:Value) (d:TypeDesc) (z:Value) (hu:Tryz.prog.underlying T=some d) (hd:plainT d=true) (hz:(Tryz.prog.info? T).map (·.zero)=some (some z)) (ht:t≠T) (w:World) :
  (Instr.typeAssert (.iface t v) X T true).run Tryz.prog w=.ok (.tuple #[z,.bool false]) w:=by
 obtain⟨i,hi,hiz⟩:∃ i,Tryz.prog.info? T=some i∧i.zero=some z:=by
  cases h:Tryz.prog.info? T with
  | none=>simp[h] at hz
  | some i=>exact⟨i,rfl,by simpa[h] using hz⟩
 unfold Instr.typeAssert
 rw[Sem.run_bind,run_underlying hu w]
 cases d <;> simp_all [plainT,zeroValue,typeInfo]
theorem assert_yes (X T:TypeId) (v:Value) (d:TypeDesc) (hu:Tryz.prog.underlying T=some d) (hd:plainT d=true) (w:World) :
  (Instr.typeAssert (.iface T v) X T true).run Tryz.prog w=.ok (.tuple #[v,.bool true]) w:=by
 unfold Instr.typeAssert
 rw[Sem.run_bind,run_underlying hu w]
 cases d <;> simp_all [plainT]
theorem zBool:(Tryz.prog.info? 4).map (·.zero)=some (some (.bool false)):=by kernel_rfl
theorem zPrs:(Tryz.prog.info? 136).map (·.zero)=some (some (.slice none 0 0)):=by kernel_rfl
end Go.Proofs.YtjkgkmmkehnggaaGreatDoor
namespace Go.Proofs.YtjkgkmmkehnggaaGreatDoor
set_option linter.unusedVariables false
set_option linter.unusedSimpArgs false
set_option maxRecDepth 20000
theorem step_34 (x:List Int):stepP (34 :: x)=.fin:=by rw[stepP,if_pos rfl]
theorem takeG_step (f:Nat) (l:List Int) (p:Nat) (out:List Int):takeG (f+1) l p out=match stepP l with
  | .short=>([],p+l.length,3)
  | .form=>([],p,4)
  | .fin=>(out,p+1,0)
  | .piece t n=>takeG f (l.drop n) (p+n) (out++t):=rfl
theorem takeG_fuel:∀ (f g:Nat) (l:List Int) (p:Nat) (out:List Int),l.length≤f→l.length≤g→takeG f l p out=takeG g l p out
 | 0,0,_,_,_,_,_=>rfl
 | 0,g+1,l,p,out,hf,_=>by
  obtain rfl:l=[]:=List.eq_nil_of_length_eq_zero (by omega)
  rfl
 | f+1,0,l,p,out,_,hg=>by
  obtain rfl:l=[]:=List.eq_nil_of_length_eq_zero (by omega)
  rfl
 | f+1,g+1,l,p,out,hf,hg=>by
  rw[takeG_step,takeG_step]
  cases hs:stepP l with
  | short=>rfl
  | form=>rfl
  | fin=>rfl
  | piece t n =>
   have hp:=step_piece l t n hs
   have h1:=hp.one
   have h2:=hp.len
   exact takeG_fuel f g _ _ _ (by rw[List.length_drop];omega) (by rw[List.length_drop];omega)
theorem takeG_bad:∀ (f:Nat) (l:List Int) (p:Nat) (out:List Int),l.length≤f→(takeG f l p out).2.2≠0→(takeG f l p out).1=[]∧(takeG f l p out).2.1≤p+l.length∧((takeG f l p out).2.2=3→(takeG f l p out).2.1=p+l.length)
 | 0,l,p,out,_,_=>⟨rfl,Nat.le_refl _,fun _=>rfl⟩
 | f+1,l,p,out,hf,h=>by
  rw[takeG_step] at h ⊢
  cases hs:stepP l with
  | short=>exact⟨rfl,Nat.le_refl _,fun _=>rfl⟩
  | form=>exact⟨rfl,Nat.le_add_right _ _,fun e=>by cases e⟩
  | fin=>rw[hs] at h;exact absurd rfl h
  | piece t n =>
   rw[hs] at h
   have hp:=step_piece l t n hs
   have h1:=hp.one
   have h2:=hp.len
   obtain⟨a,b,c⟩:=takeG_bad f (l.drop n) (p+n) (out++t) (by rw[List.length_drop];omega) h
   rw[List.length_drop] at b c
   refine⟨a,by simp only;omega,fun e=>?_⟩
   have:=c e
   simp only
   omega
theorem step_fin {l:List Int} (h:stepP l=.fin):∃ t,l=34 :: t:=by
 cases l with
 | nil=>cases h
 | cons b s =>
  rw[stepP] at h
  by_cases h1:b=34
  ·exact⟨s,by rw[h1]⟩
  rw[if_neg h1] at h
  by_cases h2:b=92
  ·rw[if_pos h2] at h
   subst h2
   cases s with
   | nil=>cases h
   | cons b1 s =>
    rw[esc_of] at h
    split at h
    ·cases h
    split at h
    ·rcases badE_short (fourP (92 :: b1 :: s)).2 with e|e <;> rw[e] at h <;> cases h
    split at h
    ·cases h
    split at h
    ·cases h
    split at h
    ·rcases badE_short (fourP ((92 :: b1 :: s).drop 6)).2 with e|e <;> rw[e] at h <;> cases h
    split at h <;> cases h
  rw[if_neg h2] at h
  split at h <;> cases h
theorem takeG_good:∀ (f:Nat) (l:List Int) (p:Nat) (out:List Int),l.length≤f→(takeG f l p out).2.2=0 →
  ∃ n t k,(takeG f l p out)=(out++t,p+n,0)∧1≤n∧n≤l.length∧Val t k∧(∀ x g,(l.take n++x).length≤g→takeG g (l.take n++x) p out=(out++t,p+n,0)) ∧
   (∀ j g,j<n→(l.take j).length≤g→(takeG g (l.take j) p out).1=[]∧((takeG g (l.take j) p out).2.2=3∧(takeG g (l.take j) p out).2.1=p+j∨(takeG g (l.take j) p out).2.2=4))
 | 0,l,p,out,_,h=>by cases h
 | f+1,l,p,out,hf,h=>by
  rw[takeG_step] at h ⊢
  cases hs:stepP l with
  | short=>rw[hs] at h;cases h
  | form=>rw[hs] at h;cases h
  | fin =>
   obtain⟨u,rfl⟩:=step_fin hs
   refine⟨1,[],0,by rw[List.append_nil],Nat.le_refl _,by simp,.nil,fun x g hg=>?_,fun j g hj hg=>?_⟩
   ·cases g with
    | zero=>simp at hg
    | succ g =>
     have e:List.take 1 (34 :: u)++x=34 :: x:=rfl
     rw[e,takeG_step,step_34,List.append_nil]
   ·obtain rfl:j=0:=by omega
    rw[List.take_zero]
    cases g with
    | zero=>exact⟨rfl,.inl ⟨rfl,rfl⟩⟩
    | succ g=>exact⟨rfl,.inl ⟨rfl,rfl⟩⟩
  | piece t n =>
   rw[hs] at h
   have hp:=step_piece l t n hs
   have h1:=hp.one
   have h2:=hp.len
   obtain⟨c,hc⟩:=hp.rune
   obtain⟨m,u,k,e1,e2,e3,e4,e5,e6⟩:=takeG_good f (l.drop n) (p+n) (out++t) (by rw[List.length_drop];omega) h
   rw[List.length_drop] at e3
   have hsplit:∀ y,l.take (n+m)++y=l.take n++((l.drop n).take m++y):=fun y=>by rw[List.take_add,List.append_assoc]
   refine⟨n+m,t++u,k+1,by simp only;rw[e1,List.append_assoc,Nat.add_assoc],by omega,by omega,by rw[← hc];exact .cons c u k (by rw[hc];exact hp.ne) e4,fun x g hg=>?_,fun j g hj hg=>?_⟩
   ·rw[hsplit] at hg ⊢
    cases g with
    | zero=>rw[List.length_append,List.length_take] at hg;omega
    | succ g =>
     rw[takeG_step,hp.more]
     simp only
     rw[List.drop_left' (take_lt_len h2),e5 x g (by rw[List.length_append,take_lt_len h2] at hg;omega),List.append_assoc,Nat.add_assoc]
   ·by_cases hjn:j<n
    ·cases g with
     | zero =>
      rw[List.length_take] at hg
      obtain rfl:j=0:=by omega
      exact⟨rfl,.inl ⟨rfl,by simp[takeG]⟩⟩
     | succ g =>
      rw[takeG_step]
      rcases hp.cut j hjn with e|e <;> rw[e]
      ·refine⟨rfl,.inl ⟨rfl,?_⟩⟩
       simp only
       rw[List.length_take]
       omega
      ·exact⟨rfl,.inr rfl⟩
    ·have ej:l.take j=l.take n++(l.drop n).take (j - n):=by
      conv=>lhs;rw[show j=n+(j - n) by omega,List.take_add]
     rw[ej] at hg ⊢
     cases g with
     | zero=>rw[List.length_append,take_lt_len h2] at hg;omega
     | succ g =>
      rw[takeG_step,hp.more]
      simp only
      rw[List.drop_left' (take_lt_len h2)]
      have:=e6 (j - n) g (by omega) (by rw[List.length_append,take_lt_len h2] at hg;omega)
      rw[show p+n+(j - n)=p+j by omega] at this
      exact this
theorem takeP_in (l:List Int) (p:Nat) (t:List Int) (h:l.drop p=34 :: t) (hp:p<l.length):takeP l p=takeG l.length t (p+1) []:=by
 unfold takeP
 have h1:l.getD p 0=34:=by
  rw[List.getD_eq_getElem?_getD,List.getElem?_eq_getElem hp]
  rw[List.drop_eq_getElem_cons hp] at h
  injection h
 have h2:l.drop (p+1)=t:=by
  rw[List.drop_eq_getElem_cons hp] at h
  injection h
 rw[if_neg (by omega),if_neg (by omega),Int.toNat_natCast,if_neg (by rw[h1];simp),h2]
theorem takeP_zero (l:List Int):takeP l 0=match l with
  | []=>([],0,3)
  | b :: t=>if b=34 then takeG (t.length+1) t 1 [] else ([],0,4):=by
 cases l with
 | nil=>rfl
 | cons b t =>
  by_cases h:b=34
  ·subst h
   have:=takeP_in (34 :: t) 0 t rfl (by simp)
   rw[show ((0:Nat):Int)=0 from rfl] at this
   rw[this]
   simp
  ·unfold takeP
   rw[if_neg (by simp;omega),if_neg (by simp;omega)]
   simp[h]
theorem take_badDd (l:List Int) (h:(takeP l 0).2.2≠0):(takeP l 0).1=[]∧(takeP l 0).2.1≤l.length∧((takeP l 0).2.2=3→(takeP l 0).2.1=l.length):=by
 rw[takeP_zero] at h ⊢
 cases l with
 | nil=>exact⟨rfl,Nat.le_refl _,fun _=>rfl⟩
 | cons b t =>
  simp only at h ⊢
  by_cases hb:b=34
  ·rw[if_pos hb] at h ⊢
   obtain⟨a,c,d⟩:=takeG_bad _ t 1 [] (by omega) h
   refine⟨a,by rw[List.length_cons];omega,fun e=>?_⟩
   have:=d e
   rw[List.length_cons]
   omega
  ·rw[if_neg hb]
   exact⟨rfl,Nat.zero_le _,fun e=>by cases e⟩
theorem take_good (l:List Int) (h:(takeP l 0).2.2=0):(∃ k,Val (takeP l 0).1 k)∧2≤(takeP l 0).2.1∧(takeP l 0).2.1≤l.length∧(∀ x,takeP (l.take (takeP l 0).2.1++x) 0=takeP l 0) ∧
  ∀ j,j<(takeP l 0).2.1→(takeP (l.take j) 0).1=[]∧((takeP (l.take j) 0).2.2=3∧(takeP (l.take j) 0).2.1=j∨(takeP (l.take j) 0).2.2=4):=by
 have hz:=takeP_zero l
 cases l with
 | nil=>rw[hz] at h;cases h
 | cons b t =>
  simp only at hz
  by_cases hb:b=34
  ·rw[if_pos hb] at hz
   subst hb
   rw[hz] at h ⊢
   obtain⟨n,u,k,e1,e2,e3,e4,e5,e6⟩:=takeG_good _ t 1 [] (by omega) h
   rw[e1]
   simp only[List.nil_append] at e5 ⊢
   refine⟨⟨k,e4⟩,by omega,by rw[List.length_cons];omega,fun x=>?_,fun j hj=>?_⟩
   ·rw[show 1+n=n+1 by omega,List.take_succ_cons,List.cons_append,takeP_zero]
    simp only
    rw[if_pos trivial,e5 x _ (by omega)]
    congr 2
    omega
   ·cases j with
    | zero=>rw[List.take_zero,takeP_zero];exact⟨rfl,.inl ⟨rfl,rfl⟩⟩
    | succ j =>
     rw[List.take_succ_cons,takeP_zero]
     simp only
     rw[if_pos trivial]
     have:=e6 j ((t.take j).length+1) (by omega) (by omega)
     rw[show 1+j=j+1 by omega] at this
     exact this
  ·rw[if_neg hb] at hz
   rw[hz] at h
   cases h
theorem isD_iff (b:Int):isD b=true↔48≤b∧b≤57:=by simp[isD]
theorem valD_nn (a:List Int) (h:∀ b ∈ a,isD b=true):0≤valD a:=by
 suffices H:∀ (a:List Int) (n:Int),0≤n→(∀ b ∈ a,isD b=true)→0≤a.foldl (fun n c=>10*n+(c - 48)) n from H a 0 (Int.le_refl 0) h
 intro a
 induction a with
 | nil=>intro n hn _;exact hn
 | cons c a ih =>
  intro n hn h
  rw[List.foldl_cons]
  have:=(isD_iff c).1 (h c (.head _))
  exact ih _ (by omega) (fun b hb=>h b (.tail _ hb))
theorem spanN_le:∀ l:List Int,spanN l≤l.length
 | []=>Nat.le_refl _
 | b :: t=>by
  rw[spanN,List.length_cons]
  have:=spanN_le t
  split <;> omega
theorem blankN_le:∀ l:List Int,blankN l≤l.length
 | []=>Nat.le_refl _
 | b :: t=>by
  rw[blankN,List.length_cons]
  have:=blankN_le t
  split <;> omega
theorem numP_good (l:List Int) (h:(numP l).2.2=0):∃ n,(numP l).1=.num n∧n≤maxI∧-maxI≤n∧(numP l).2.1=spanN l∧1≤spanN l:=by
 unfold numP at h ⊢
 by_cases hb:badD (l.take (spanN l))
 ·rw[if_pos hb] at h;cases h
 rw[if_neg hb] at h ⊢
 by_cases hm:maxI<valD (unsgn (l.take (spanN l)))
 ·rw[if_pos hm] at h;cases h
 rw[if_neg hm]
 have ha:(unsgn (l.take (spanN l))).all isD=true:=by
  by_cases ha:(unsgn (l.take (spanN l))).all isD=true
  ·exact ha
  ·exact absurd (.inr (.inr ha)) hb
 have h0:=valD_nn _ (List.all_eq_true.1 ha)
 refine⟨_,rfl,?_,?_,rfl,?_⟩
 ·split <;> simp only[maxI] at hm ⊢ <;> omega
 ·split <;> simp only[maxI] at hm ⊢ <;> omega
 ·rcases Nat.eq_zero_or_pos (spanN l) with e|e
  ·refine absurd (.inl ?_) hb
   rw[e]
   rfl
  ·exact e
theorem numP_le (l:List Int):(numP l).2.1≤l.length:=by
 unfold numP
 split
 ·exact Nat.zero_le _
 split
 ·exact Nat.zero_le _
 ·exact spanN_le l
theorem textP_is (l:List Int):textP l=takeP l 0:=by rw[takeP_zero];cases l <;> rfl
theorem textP_le (l:List Int):(textP l).2.1≤l.length:=by
 rw[textP_is]
 by_cases h:(takeP l 0).2.2=0
 ·exact(take_good l h).2.2.1
 ·exact(take_badDd l h).2.1
theorem textP_one (l:List Int) (h:(textP l).2.2=0):2≤(textP l).2.1∧0≤countP (textP l).1:=by
 rw[textP_is] at h ⊢
 obtain⟨⟨k,hv⟩,h2,_⟩:=take_good l h
 exact⟨h2,by rw[count_is hv];omega⟩
theorem wordG_le:∀ (w l:List Int) (i:Nat),(wordG w l i).1≤i+l.length∧((wordG w l i).2=0→(wordG w l i).1=i+w.length)
 | [],l,i=>⟨Nat.le_add_right _ _,fun _=>rfl⟩
 | _ :: _,[],i=>⟨Nat.le_add_right _ _,fun h=>by cases h⟩
 | c :: w,b :: t,i=>by
  rw[wordG]
  split
  ·obtain⟨a,d⟩:=wordG_le w t (i+1)
   exact⟨by rw[List.length_cons];omega,fun h=>by rw[d h,List.length_cons];omega⟩
  ·exact⟨Nat.zero_le _,fun h=>by cases h⟩
theorem wordP_le (w:List Int) (v:Js) (l:List Int) (hw:1≤w.length):(wordP w v l).2.1≤l.length∧((wordP w v l).2.2=0→1≤(wordP w v l).2.1∧(wordP w v l).1=v):=by
 obtain⟨a,d⟩:=wordG_le w l 0
 unfold wordP
 split
 ·rename_i h
  exact⟨by simpa using a,fun _=>⟨by rw[d h];omega,rfl⟩⟩
 ·rename_i h
  exact⟨by simpa using a,fun h'=>absurd h' h⟩
theorem pairP_le (ob:Bool) (names:List (List Int)) (l:List Int):(pairP ob names l).2.1≤l.length:=by
 unfold pairP
 by_cases ho:ob=false
 ·rw[if_pos ho];exact Nat.zero_le _
 rw[if_neg ho]
 have hl:=textP_le l
 rcases ht:textP l with ⟨name,n,e⟩
 rw[ht] at hl
 simp only at hl ⊢
 have hb:=blankN_le (l.drop n)
 have hb2:=blankN_le (l.drop (n+blankN (l.drop n)+1))
 rw[List.length_drop] at hb hb2
 split
 ·exact hl
 split
 ·exact Nat.zero_le _
 split
 ·simp only;omega
 rename_i h3
 have h3:n+blankN (l.drop n)<l.length:=by
  have:=mt List.drop_eq_nil_iff.2 h3
  omega
 split <;> simp only <;> omega
def restP (f d:Nat) (ob:Bool) (fin:Int) (names:List (List Int)) (k:Nat) (l name:List Int) (v:Js) (m:Nat):Jl × Nat × Int :=
 if l.drop m=[] then (.nil,m,3) else if head0 (l.drop m)=fin then (.cons name v .nil,m+1,0) else if head0 (l.drop m)≠44 then (.nil,m,4) else
 if (itemsP f d ob fin (names++[name]) (k+1) (l.drop (m+1+blankN (l.drop (m+1))))).2.2≠0 then
  (.nil,m+1+blankN (l.drop (m+1))+(itemsP f d ob fin (names++[name]) (k+1) (l.drop (m+1+blankN (l.drop (m+1))))).2.1,(itemsP f d ob fin (names++[name]) (k+1) (l.drop (m+1+blankN (l.drop (m+1))))).2.2)
 else (.cons name v (itemsP f d ob fin (names++[name]) (k+1) (l.drop (m+1+blankN (l.drop (m+1))))).1,m+1+blankN (l.drop (m+1))+(itemsP f d ob fin (names++[name]) (k+1) (l.drop (m+1+blankN (l.drop (m+1))))).2.1,0)
theorem itemsP_step (f d:Nat) (ob:Bool) (fin:Int) (names:List (List Int)) (k:Nat) (l:List Int):itemsP (f+1) d ob fin names k l =
  if l≠[]∧64≤k then (.nil,0,21) else if (pairP ob names l).2.2≠0 then (.nil,(pairP ob names l).2.1,(pairP ob names l).2.2) else
  if (valueP f (d+1) (l.drop (pairP ob names l).2.1)).2.2≠0 then (.nil,(pairP ob names l).2.1+(valueP f (d+1) (l.drop (pairP ob names l).2.1)).2.1,(valueP f (d+1) (l.drop (pairP ob names l).2.1)).2.2)
  else restP f d ob fin names k l (pairP ob names l).1 (valueP f (d+1) (l.drop (pairP ob names l).2.1)).1 ((pairP ob names l).2.1+(valueP f (d+1) (l.drop (pairP ob names l).2.1)).2.1+blankN (l.drop ((pairP ob names l).2.1+(valueP f (d+1) (l.drop (pairP ob names l).2.1)).2.1))):=by
 rw[itemsP]
 rfl
theorem valueP_box (f d:Nat) (b:Int) (t:List Int) (h:b=91∨b=123):valueP (f+1) d (b :: t) =
  if 4<d then (.nul,0,20) else if head0 (t.drop (blankN t))=b+2 then (if b=91 then .arr .nil else .obj .nil,blankN t+2,0)
   else if (itemsP f d (decide (b=123)) (b+2) [] 0 (t.drop (blankN t))).2.2≠0 then (.nul,blankN t+1+(itemsP f d (decide (b=123)) (b+2) [] 0 (t.drop (blankN t))).2.1,(itemsP f d (decide (b=123)) (b+2) [] 0 (t.drop (blankN t))).2.2)
   else (if b=91 then .arr (itemsP f d (decide (b=123)) (b+2) [] 0 (t.drop (blankN t))).1 else .obj (itemsP f d (decide (b=123)) (b+2) [] 0 (t.drop (blankN t))).1,blankN t+1+(itemsP f d (decide (b=123)) (b+2) [] 0 (t.drop (blankN t))).2.1,0):=by
 rw[valueP,if_neg (by omega),if_neg (by omega),if_neg (by omega),if_neg (by omega),if_pos h]
def flatPDd (l:List Int):Js × Nat × Int :=
 match l with
 | []=>(.nul,0,3)
 | b :: t =>
  if b=110 then wordP [110,117,108,108] .nul (b :: t)
  else if b=102 then wordP [102,97,108,115,101] (.bool false) (b :: t)
  else if b=116 then wordP [116,114,117,101] (.bool true) (b :: t)
  else if b=34 then (if (textP (b :: t)).2.2=0 then (.str (textP (b :: t)).1,(textP (b :: t)).2.1,0) else (.nul,(textP (b :: t)).2.1,(textP (b :: t)).2.2))
  else if b=45∨isD b=true then numP (b :: t)
  else (.nul,0,4)
theorem valueP_flat (f d:Nat) (l:List Int) (h:head0 l≠91∧head0 l≠123):valueP (f+1) d l=flatPDd l:=by
 cases l with
 | nil=>rfl
 | cons b t =>
  have h1:¬ (b=91∨b=123):=by rintro(e|e);exact h.1 e;exact h.2 e
  rw[valueP,flatPDd]
  repeat' split
  all_goals first|rfl|exact absurd ‹b=91∨b=123› h1
theorem flatP_le (l:List Int):(flatPDd l).2.1≤l.length∧((flatPDd l).2.2=0→1≤(flatPDd l).2.1):=by
 cases l with
 | nil=>exact⟨Nat.le_refl _,fun h=>by cases h⟩
 | cons b t =>
  rw[flatPDd]
  by_cases h1:b=110
  ·rw[if_pos h1]
   obtain⟨a,c⟩:=wordP_le [110,117,108,108] .nul (b :: t) (by simp)
   exact⟨a,fun h=>(c h).1⟩
  rw[if_neg h1]
  by_cases h2:b=102
  ·rw[if_pos h2]
   obtain⟨a,c⟩:=wordP_le [102,97,108,115,101] (.bool false) (b :: t) (by simp)
   exact⟨a,fun h=>(c h).1⟩
  rw[if_neg h2]
  by_cases h3:b=116
  ·rw[if_pos h3]
   obtain⟨a,c⟩:=wordP_le [116,114,117,101] (.bool true) (b :: t) (by simp)
   exact⟨a,fun h=>(c h).1⟩
  rw[if_neg h3]
  by_cases h4:b=34
  ·rw[if_pos h4]
   have ht:=textP_le (b :: t)
   have ho:=textP_one (b :: t)
   split
   ·rename_i h;exact⟨ht,fun _=>by have:=ho h;simp only;omega⟩
   ·rename_i h;exact⟨ht,fun h'=>absurd h' h⟩
  rw[if_neg h4]
  by_cases h5:b=45∨isD b=true
  ·rw[if_pos h5]
   refine⟨numP_le _,fun h=>?_⟩
   obtain⟨n,e1,e2,e3,e4,e5⟩:=numP_good _ h
   omega
  rw[if_neg h5]
  exact⟨Nat.zero_le _,fun h=>by cases h⟩
def InV (r:Js × Nat × Int) (n:Nat):Prop:=r.2.1≤n∧(r.2.2=0→1≤r.2.1)
def InL (r:Jl × Nat × Int) (n:Nat):Prop:=r.2.1≤n∧(r.2.2=0→1≤r.2.1)
theorem drop_pos {l:List Int} {m:Nat} (h:l.drop m≠[]):m<l.length:=by
 have:=mt List.drop_eq_nil_iff.2 h
 omega
theorem head0_len {l:List Int} {b:Int} (h:head0 l=b) (hb:b≠-1):1≤l.length:=by
 cases l with
 | nil=>exact absurd h.symm hb
 | cons c t=>simp
theorem within (f:Nat):(∀ d l,InV (valueP f d l) l.length)∧∀ d ob fin names k l,InL (itemsP f d ob fin names k l) l.length:=by
 induction f with
 | zero=>exact⟨fun d l=>⟨by rw[valueP];exact Nat.le_refl _,fun h=>by rw[valueP] at h;cases h⟩,fun d ob fin names k l=>⟨by rw[itemsP];exact Nat.le_refl _,fun h=>by rw[itemsP] at h;cases h⟩⟩
 | succ f ih =>
  refine⟨fun d l=>?_,fun d ob fin names k l=>?_⟩
  ·by_cases h:head0 l=91∨head0 l=123
   ·cases l with
    | nil=>rcases h with h|h <;> cases h
    | cons b t =>
     have h:b=91∨b=123:=h
     rw[valueP_box f d b t h]
     have hb:=blankN_le t
     have hi:=ih.2 d (decide (b=123)) (b+2) [] 0 (t.drop (blankN t))
     unfold InL at hi
     rw[List.length_drop] at hi
     unfold InV
     rw[List.length_cons]
     split
     ·exact⟨Nat.zero_le _,fun h=>by cases h⟩
     split
     ·rename_i h2
      have:=head0_len h2 (by omega)
      rw[List.length_drop] at this
      exact⟨by simp only;omega,fun _=>by simp only;omega⟩
     split
     ·rename_i h3;exact⟨by simp only;omega,fun h'=>absurd h' h3⟩
     ·exact⟨by simp only;omega,fun _=>by simp only;omega⟩
   ·rw[valueP_flat f d l ⟨fun e=>h (.inl e),fun e=>h (.inr e)⟩]
    exact flatP_le l
  ·rw[itemsP_step]
   have hp:=pairP_le ob names l
   generalize pairP ob names l=P at hp ⊢
   have hv:=ih.1 (d+1) (l.drop P.2.1)
   generalize valueP f (d+1) (l.drop P.2.1)=V at hv ⊢
   unfold InV at hv
   rw[List.length_drop] at hv
   have hm:=blankN_le (l.drop (P.2.1+V.2.1))
   rw[List.length_drop] at hm
   have hm:P.2.1+V.2.1+blankN (l.drop (P.2.1+V.2.1))≤l.length:=by omega
   generalize P.2.1+V.2.1+blankN (l.drop (P.2.1+V.2.1))=m at hm ⊢
   unfold InL
   split
   ·exact⟨Nat.zero_le _,fun h=>by cases h⟩
   split
   ·rename_i h;exact⟨hp,fun h'=>absurd h' h⟩
   split
   ·rename_i h;exact⟨by simp only;omega,fun h'=>absurd h' h⟩
   unfold restP
   split
   ·exact⟨hm,fun h=>by cases h⟩
   rename_i h4
   have h4:=drop_pos h4
   split
   ·exact⟨by simp only;omega,fun _=>by simp only;omega⟩
   split
   ·exact⟨hm,fun h=>by cases h⟩
   have hq:=blankN_le (l.drop (m+1))
   rw[List.length_drop] at hq
   have hq:m+1+blankN (l.drop (m+1))≤l.length:=by omega
   have hq1:1≤m+1+blankN (l.drop (m+1)):=by omega
   generalize m+1+blankN (l.drop (m+1))=q at hq hq1 ⊢
   have hi:=ih.2 d ob fin (names++[P.1]) (k+1) (l.drop q)
   unfold InL at hi
   rw[List.length_drop] at hi
   split
   ·rename_i h;exact⟨by simp only;omega,fun h'=>absurd h' h⟩
   ·exact⟨by simp only;omega,fun _=>by simp only;omega⟩
theorem enough (f:Nat):(∀ g d l,2*l.length+1≤f→2*l.length+1≤g→valueP f d l=valueP g d l)∧∀ g d ob fin names k l,2*l.length+2≤f→2*l.length+2≤g→itemsP f d ob fin names k l=itemsP g d ob fin names k l:=by
 induction f with
 | zero=>exact⟨fun g d l h=>by omega,fun g d ob fin names k l h=>by omega⟩
 | succ f ih =>
  refine⟨fun g d l hf hg=>?_,fun g d ob fin names k l hf hg=>?_⟩
  ·cases g with
   | zero=>omega
   | succ g =>
    by_cases h:head0 l=91∨head0 l=123
    ·cases l with
     | nil=>rcases h with h|h <;> cases h
     | cons b t =>
      have h:b=91∨b=123:=h
      rw[List.length_cons] at hf hg
      rw[valueP_box f d b t h,valueP_box g d b t h,ih.2 g d _ _ _ _ _ (by rw[List.length_drop];omega) (by rw[List.length_drop];omega)]
    ·have h:head0 l≠91∧head0 l≠123:=⟨fun e=>h (.inl e),fun e=>h (.inr e)⟩
     rw[valueP_flat f d l h,valueP_flat g d l h]
  ·cases g with
   | zero=>omega
   | succ g =>
    rw[itemsP_step,itemsP_step,ih.1 g (d+1) _ (by rw[List.length_drop];omega) (by rw[List.length_drop];omega)]
    unfold restP
    by_cases hl:l.length=0
    ·obtain rfl:l=[]:=List.eq_nil_of_length_eq_zero hl
     simp only[List.drop_nil,if_true]
    ·rw[ih.2 g d _ _ _ _ _ (by rw[List.length_drop];omega) (by rw[List.length_drop];omega)]
theorem takeV_long (s:List Int) (h:4096<s.length):takeV s=(.nul,0,5):=by rw[takeV,if_pos h]
end Go.Proofs.YtjkgkmmkehnggaaGreatDoor
namespace Go.Proofs.YtjkgkmmkehnggaaGreatDoor
set_option linter.unusedVariables false
set_option linter.unusedSimpArgs false
open Go.RowKit
set_option maxRecDepth 20000
theorem bI_byte (s:ByteArray):∀ b ∈ bI s,0≤b∧b<256:=by
 intro b hb
 unfold bI at hb
 obtain⟨c,_,rfl⟩:=List.mem_map.1 hb
 have:=c.toNat_lt
 omega
theorem bI_str (l:List Int) (h:∀ b ∈ l,0≤b∧b<256):bI (str l)=l:=by
 unfold bI
 rw[str_list,List.map_map]
 conv=>rhs;rw[← List.map_id l]
 refine List.map_congr_left (fun c hc=>?_)
 have:=h c hc
 simp
 omega
theorem bI_inj {s t:ByteArray} (h:bI s=bI t):s=t:=by rw[← str_bI s,h,str_bI]
theorem bI_extract (s:ByteArray) (a b:Nat) (h:a≤b):bI (s.extract a b)=((bI s).drop a).take (b - a):=by
 unfold bI
 rw[ByteArray.data_extract,Array.toList_extract,List.extract_eq_take_drop,List.map_take,List.map_drop]
theorem bI_split (s:ByteArray) (k:Nat) (h:k<s.size):(bI s).drop k=((s[k]'h).toNat:Int) :: (bI s).drop (k+1):=by
 have hk:k<(bI s).length:=by rw[bI_len];exact h
 rw[List.drop_eq_getElem_cons hk]
 congr 1
 simp[bI]
 rfl
theorem bI_get (s:ByteArray) (k:Nat) (h:k<s.size):(bI s)[k]?=some ((s[k]'h).toNat:Int):=by
 have h1:=bI_split s k h
 have hk:k<(bI s).length:=by rw[bI_len];exact h
 rw[List.drop_eq_getElem_cons hk] at h1
 injection h1 with h2 _
 rw[List.getElem?_eq_getElem hk,h2]
theorem enc_1 {c:Int} (h0:0≤c) (h1:c<128):encC c=[c]:=by
 unfold encC;rw[if_neg (by omega),if_pos h1]
theorem enc_2 {c:Int} (h0:128≤c) (h1:c<2048):encC c=[192+c / 64,128+c % 64]:=by
 unfold encC;rw[if_neg (by omega),if_neg (by omega),if_pos h1]
theorem enc_3 {c:Int} (h0:2048≤c) (h1:c<65536) (h2:¬ (55296≤c∧c≤57343)):encC c=[224+c / 4096,128+c / 64 % 64,128+c % 64]:=by
 unfold encC;rw[if_neg (by omega),if_neg (by omega),if_neg (by omega),if_pos h1]
theorem enc_4 {c:Int} (h0:65536≤c) (h1:c≤1114111):encC c=[240+c / 262144,128+c / 4096 % 64,128+c / 64 % 64,128+c % 64]:=by
 unfold encC;rw[if_neg (by omega),if_neg (by omega),if_neg (by omega),if_neg (by omega)]
end Go.Proofs.YtjkgkmmkehnggaaGreatDoor
