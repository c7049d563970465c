/- dJa dJb dLa dNm dPa dNq dJc dJd dLb dLc dLf dJe dJg dJj dJf. -/
import Derived.Deep.Slices
import Derived.Test.YtjkgkmmkehnggaaGreatDoorYb7
namespace Go.Proofs.YtjkgkmmkehnggaaGreatDoor
set_option linter.unusedVariables false
set_option linter.unusedSimpArgs false
set_option maxRecDepth 20000
def xaY (c:Int):List Int :=
 if c<0∨1114111<c∨(55296≤c∧c≤57343) then [] else if c<128 then [c] else if c<2048 then [192+c / 64,128+c % 64]
 else if c<65536 then [224+c / 4096,128+c / 64 % 64,128+c % 64] else [240+c / 262144,128+c / 4096 % 64,128+c / 64 % 64,128+c % 64]
def xqN (b0 b1 b2:Int):List Int→List Int
 | []=>[]
 | b3 :: _=>if xaY (64*(64*(64*(b0 % 8)+b1 % 64)+b2 % 64)+b3 % 64)=[b0,b1,b2,b3] then [b0,b1,b2,b3] else []
def xne (b0 b1:Int):List Int→List Int
 | []=>[]
 | b2 :: t=>if xaY (64*(64*(b0 % 16)+b1 % 64)+b2 % 64)=[b0,b1,b2] then [b0,b1,b2] else xqN b0 b1 b2 t
def xjH (b0:Int):List Int→List Int
 | []=>[]
 | b1 :: t=>if xaY (64*(b0 % 32)+b1 % 64)=[b0,b1] then [b0,b1] else xne b0 b1 t
def xaM:List Int→List Int
 | []=>[]
 | b0 :: t=>if xaY b0=[b0] then [b0] else xjH b0 t
theorem xbc (c:Int):xaY c=[]∨(0≤c∧c<128∧xaY c=[c])∨(128≤c∧c<2048∧xaY c=[192+c / 64,128+c % 64])∨(2048≤c∧c<65536∧¬ (55296≤c∧c≤57343)∧xaY c=[224+c / 4096,128+c / 64 % 64,128+c % 64]) ∨
  (65536≤c∧c≤1114111∧xaY c=[240+c / 262144,128+c / 4096 % 64,128+c / 64 % 64,128+c % 64]):=by
 unfold xaY
 by_cases h0:c<0∨1114111<c∨(55296≤c∧c≤57343)
 ·left;rw[if_pos h0]
 rw[if_neg h0]
 by_cases h1:c<128
 ·right;left;rw[if_pos h1];exact⟨by omega,h1,rfl⟩
 rw[if_neg h1]
 by_cases h2:c<2048
 ·right;right;left;rw[if_pos h2];exact⟨by omega,h2,rfl⟩
 rw[if_neg h2]
 by_cases h3:c<65536
 ·right;right;right;left;rw[if_pos h3];exact⟨by omega,h3,by omega,rfl⟩
 rw[if_neg h3]
 right;right;right;right
 exact⟨by omega,by omega,rfl⟩
theorem xeZ (c:Int):xaY c=[]↔(c<0∨1114111<c∨(55296≤c∧c≤57343)):=by
 constructor
 ·intro h
  unfold xaY at h
  by_cases h0:c<0∨1114111<c∨(55296≤c∧c≤57343)
  ·exact h0
  rw[if_neg h0] at h
  split at h
  ·cases h
  split at h
  ·cases h
  split at h <;> cases h
 ·intro h;unfold xaY;rw[if_pos h]
theorem xge (c:Int):(xaY c).length≤4:=by
 rcases xbc c with h|⟨_,_,h⟩|⟨_,_,h⟩|⟨_,_,_,h⟩|⟨_,_,h⟩ <;> rw[h] <;> simp
theorem xkP (c:Int):∀ b ∈ xaY c,0≤b∧b<256:=by
 intro b hb
 rcases xbc c with h|⟨h1,h2,h⟩|⟨h1,h2,h⟩|⟨h1,h2,_,h⟩|⟨h1,h2,h⟩ <;> rw[h] at hb <;> simp at hb <;> omega
theorem xs8 (c:Int) (hc:128≤c):∀ b ∈ xaY c,128≤b:=by
 intro b hb
 rcases xbc c with h|⟨h1,h2,h⟩|⟨h1,h2,h⟩|⟨h1,h2,_,h⟩|⟨h1,h2,h⟩ <;> rw[h] at hb <;> simp at hb <;> omega
theorem xi4 (c b0:Int) (h0:128≤b0):xaY c≠[b0]:=by
 rcases xbc c with h|⟨h1,h2,h⟩|⟨h1,h2,h⟩|⟨h1,h2,_,h⟩|⟨h1,h2,h⟩ <;> rw[h] <;> simp
 omega
theorem xn3 (c b0 b1:Int) (h:xaY c=[b0,b1]):194≤b0∧b0≤223∧128≤b1∧b1<192∧c=64*(b0 % 32)+b1 % 64:=by
 rcases xbc c with h'|⟨h1,h2,h'⟩|⟨h1,h2,h'⟩|⟨h1,h2,_,h'⟩|⟨h1,h2,h'⟩ <;> rw[h'] at h <;> simp at h
 omega
theorem xwd (c b0 b1 b2:Int) (h:xaY c=[b0,b1,b2]):224≤b0∧b0≤239∧128≤b1∧b1<192∧128≤b2∧b2<192∧c=64*(64*(b0 % 16)+b1 % 64)+b2 % 64:=by
 rcases xbc c with h'|⟨h1,h2,h'⟩|⟨h1,h2,h'⟩|⟨h1,h2,_,h'⟩|⟨h1,h2,h'⟩ <;> rw[h'] at h <;> simp at h
 omega
theorem xfB (c:Int) (t:List Int) (h:xaY c≠[]):xaM (xaY c++t)=xaY c:=by
 rcases xbc c with h'|⟨h1,h2,h'⟩|⟨h1,h2,h'⟩|⟨h1,h2,h3,h'⟩|⟨h1,h2,h'⟩
 ·exact absurd h' h
 ·rw[h',List.singleton_append,xaM,if_pos h']
 ·rw[h']
  have e:64*((192+c / 64) % 32)+(128+c % 64) % 64=c:=by omega
  rw[List.cons_append,List.cons_append,List.nil_append,xaM,if_neg (xi4 _ _ (by omega)),xjH,e,if_pos h']
 ·rw[h']
  have e:64*(64*((224+c / 4096) % 16)+(128+c / 64 % 64) % 64)+(128+c % 64) % 64=c:=by omega
  rw[List.cons_append,List.cons_append,List.cons_append,List.nil_append,xaM,if_neg (xi4 _ _ (by omega)),xjH,if_neg (fun hq=>by have:=xn3 _ _ _ hq;omega),xne,e,if_pos h']
 ·rw[h']
  have e:64*(64*(64*((240+c / 262144) % 8)+(128+c / 4096 % 64) % 64)+(128+c / 64 % 64) % 64)+(128+c % 64) % 64=c:=by omega
  rw[List.cons_append,List.cons_append,List.cons_append,List.cons_append,List.nil_append,xaM,if_neg (xi4 _ _ (by omega)),xjH,if_neg (fun hq=>by have:=xn3 _ _ _ hq;omega),xne,if_neg (fun hq=>by have:=xwd _ _ _ _ hq;omega),xqN,e,if_pos h']
theorem xdn (l:List Int) (h:xaM l≠[]):∃ c t,xaY c=xaM l∧l=xaM l++t:=by
 cases l with
 | nil=>exact absurd rfl h
 | cons b0 t =>
  rw[xaM] at h ⊢
  split
  ·exact⟨b0,t,by assumption,rfl⟩
  rename_i n0
  rw[if_neg n0] at h
  cases t with
  | nil=>exact absurd rfl h
  | cons b1 t =>
   rw[xjH] at h ⊢
   split
   ·exact⟨_,t,by assumption,rfl⟩
   rename_i n1
   rw[if_neg n1] at h
   cases t with
   | nil=>exact absurd rfl h
   | cons b2 t =>
    rw[xne] at h ⊢
    split
    ·exact⟨_,t,by assumption,rfl⟩
    rename_i n2
    rw[if_neg n2] at h
    cases t with
    | nil=>exact absurd rfl h
    | cons b3 t =>
     rw[xqN] at h ⊢
     split
     ·exact⟨_,t,by assumption,rfl⟩
     rename_i n3
     rw[if_neg n3] at h
     exact absurd rfl h
theorem xiv (l:List Int):(xaM l).length≤l.length∧(xaM l).length≤4:=by
 by_cases h:xaM l=[]
 ·rw[h];simp
 ·obtain⟨c,t,h1,h2⟩:=xdn l h
  refine⟨?_,by rw[← h1];exact xge c⟩
  have:=congrArg List.length h2
  rw[List.length_append] at this
  omega
theorem xkQ (l:List Int) (h:xaM l≠[]):l.take (xaM l).length=xaM l:=by
 obtain⟨c,t,h1,h2⟩:=xdn l h
 have e:=congrArg (List.take (xaM l).length) h2
 rw[List.take_left' rfl] at e
 exact e
inductive Val:List Int→Nat→Prop
 | nil:Val [] 0
 | cons (c:Int) (l:List Int) (n:Nat):xaY c≠[]→Val l n→Val (xaY c++l) (n+1)
def xhx:Nat→List Int→Int
 | 0,l=>if l=[] then 0 else -1
 | f+1,l=>if l=[] then 0 else if xaM l=[] then -1 else if xhx f (l.drop (xaM l).length)<0 then -1 else xhx f (l.drop (xaM l).length)+1
def xnT (l:List Int):Int:=xhx l.length l
theorem xwz {l:List Int} {n:Nat} (h:Val l n) (hl:l≠[]):∃ c m k,xaY c≠[]∧l=xaY c++m∧n=k+1∧Val m k:=by
 cases h with
 | nil=>exact absurd rfl hl
 | cons c m k h1 h2=>exact⟨c,m,k,h1,rfl,rfl,h2⟩
theorem xkG:∀ (f:Nat) (l:List Int) (n:Nat),l.length≤f→Val l n→xhx f l=n
 | 0,l,n,hf,h=>by
  have:l=[]:=List.eq_nil_of_length_eq_zero (by omega)
  subst this
  cases hn:n with
  | zero=>rfl
  | succ k =>
   subst hn
   generalize hl:([]:List Int)=l at h
   cases h with
   | cons c m k h1 h2=>rcases List.append_eq_nil_iff.1 hl.symm with ⟨h3,_⟩;exact absurd h3 h1
 | f+1,l,n,hf,h=>by
  by_cases hl:l=[]
  ·subst hl
   rw[xhx,if_pos rfl]
   generalize hl:([]:List Int)=l at h
   cases h with
   | nil=>rfl
   | cons c m k h1 h2=>rcases List.append_eq_nil_iff.1 hl.symm with ⟨h3,_⟩;exact absurd h3 h1
  ·obtain⟨c,m,k,h1,rfl,rfl,h2⟩:=xwz h hl
   rw[xhx,if_neg hl,xfB c m h1,if_neg h1,List.drop_left]
   have hp:0<(xaY c).length:=List.length_pos_iff.2 h1
   rw[List.length_append] at hf
   rw[xkG f m k (by omega) h2,if_neg (by omega)]
   push_cast
   rfl
theorem xut {l:List Int} {n:Nat} (h:Val l n):xnT l=n:=xkG _ l n (Nat.le_refl _) h
def xf0 (c:Int):Int:=if 48≤c∧c≤57 then c - 48 else if 97≤c∧c≤102 then c - 87 else if 65≤c∧c≤70 then c - 55 else -1
def xxc (i:Nat) (b:Int):Prop:=(i=0∧b≠92)∨(i=1∧b≠117)∨(1<i∧xf0 b<0)
instance (i:Nat) (b:Int):Decidable (xxc i b):=by unfold xxc;infer_instance
def xaU:Nat→Nat→Int→List Int→Int × Int
 | 0,_,c,_=>(c,0)
 | _+1,_,_,[]=>(0,3)
 | f+1,i,c,b :: t=>if xxc i b then (0,4) else xaU f (i+1) (if 1<i then 16*c+xf0 b else c) t
def xan (l:List Int):Int × Int:=xaU 6 0 0 l
def xwq (b:Int):Option Int :=
 if b=34 then some 34 else if b=92 then some 92 else if b=47 then some 47 else if b=98 then some 8 else if b=102 then some 12 else if b=110 then some 10 else if b=114 then some 13 else if b=116 then some 9 else none
inductive St
 | short
 | form
 | fin
 | piece (t:List Int) (n:Nat)
deriving DecidableEq
def xp0 (e:Int):St:=if e=3 then .short else .form
def xk5 (l:List Int):St :=
 match l with
 | _ :: b :: _=>match xwq b with
  | some x=>.piece [x] 2
  | none=>if (xan l).2≠0 then xp0 (xan l).2 else if (xan l).1<55296∨57343<(xan l).1 then .piece (xaY (xan l).1) 6 else if 56319<(xan l).1 then .form else
   if (xan (l.drop 6)).2≠0 then xp0 (xan (l.drop 6)).2 else if (xan (l.drop 6)).1<56320∨57343<(xan (l.drop 6)).1 then .form
   else .piece (xaY (65536+1024*((xan l).1 - 55296)+(xan (l.drop 6)).1 - 56320)) 12
 | _=>.short
def xbg:List Int→St
 | []=>.short
 | b :: t=>if b=34 then .fin else if b=92 then xk5 (b :: t) else if xaM (b :: t)=[]∨b<32 then .form else .piece (xaM (b :: t)) (xaM (b :: t)).length
def xaW:Nat→List Int→Nat→List Int→List Int × Nat × Int
 | 0,l,p,_=>([],p+l.length,3)
 | f+1,l,p,out=>match xbg l with
  | .short=>([],p+l.length,3)
  | .form=>([],p,4)
  | .fin=>(out,p+1,0)
  | .piece t n=>xaW f (l.drop n) (p+n) (out++t)
def xa8 (l:List Int) (at_:Int):List Int × Nat × Int :=
 if at_<0∨(l.length:Int)<at_ then ([],0,2) else if at_=l.length then ([],at_.toNat,3) else if l.getD at_.toNat 0≠34 then ([],at_.toNat,4)
 else xaW l.length (l.drop (at_.toNat+1)) (at_.toNat+1) []
theorem xqx:∀ (f i:Nat) (c:Int) (l:List Int),(xaU f i c l).2=0→f≤l.length
 | 0,_,_,_,_=>Nat.zero_le _
 | f+1,i,c,[],h=>by rw[xaU] at h;cases h
 | f+1,i,c,b :: t,h=>by
  rw[xaU] at h
  split at h
  ·cases h
  ·have:=xqx f _ _ t h
   rw[List.length_cons]
   omega
theorem xii:∀ (f i:Nat) (c:Int) (l:List Int),(xaU f i c l).2=0∨(xaU f i c l).2=3∨(xaU f i c l).2=4
 | 0,_,_,_=>.inl rfl
 | f+1,i,c,[]=>.inr (.inl rfl)
 | f+1,i,c,b :: t=>by
  rw[xaU]
  split
  ·exact .inr (.inr rfl)
  ·exact xii f _ _ t
theorem xe3:∀ (f i:Nat) (c:Int) (l x:List Int),f≤l.length→xaU f i c (l.take f++x)=xaU f i c l
 | 0,_,_,_,_,_=>by rw[xaU,xaU]
 | f+1,i,c,[],x,h=>by simp at h
 | f+1,i,c,b :: t,x,h=>by
  rw[List.take_succ_cons,List.cons_append,xaU,xaU]
  rw[List.length_cons] at h
  split
  ·rfl
  ·exact xe3 f _ _ t x (by omega)
theorem xi9:∀ (f i:Nat) (c:Int) (l:List Int),l.length<f→(xaU f i c l).2=3∨(xaU f i c l).2=4
 | 0,_,_,_,h=>by omega
 | f+1,i,c,[],h=>.inl rfl
 | f+1,i,c,b :: t,h=>by
  rw[xaU]
  rw[List.length_cons] at h
  split
  ·exact .inr rfl
  ·exact xi9 f _ _ t (by omega)
theorem xqW (c:Int):xf0 c<16∧-1≤xf0 c:=by
 unfold xf0
 split
 ·omega
 split
 ·omega
 split <;> omega
theorem xnD:∀ (f i:Nat) (c:Int) (l:List Int),0≤c→(xaU f i c l).2=0→0≤(xaU f i c l).1
 | 0,_,c,_,h0,_=>h0
 | f+1,i,c,[],h0,h=>by rw[xaU] at h;cases h
 | f+1,i,c,b :: t,h0,h=>by
  rw[xaU] at h ⊢
  split at h
  ·cases h
  ·rename_i hb
   rw[if_neg hb]
   refine xnD f _ _ t ?_ h
   split
   ·rename_i hi
    have:¬ xf0 b<0:=fun hd=>hb (.inr (.inr ⟨hi,hd⟩))
    omega
   ·exact h0
theorem xqU:∀ (f i:Nat) (c:Int) (l:List Int) (m:Int),0≤c→c<m→(xaU f i c l).2=0→(xaU f i c l).1<m*16 ^ f
 | 0,_,c,_,m,h0,h1,_=>by rw[xaU];omega
 | f+1,i,c,[],m,h0,h1,h=>by rw[xaU] at h;cases h
 | f+1,i,c,b :: t,m,h0,h1,h=>by
  rw[xaU] at h ⊢
  split at h
  ·cases h
  ·rename_i hb
   rw[if_neg hb]
   have hd:=xqW b
   have e:m*16 ^ (f+1)=(16*m)*16 ^ f:=by rw[Int.pow_succ];rw[Int.mul_comm (16 ^ f) 16,← Int.mul_assoc,Int.mul_comm m 16]
   rw[e]
   refine xqU f _ _ t (16*m) ?_ ?_ h
   ·split
    ·rename_i hi
     have:¬ xf0 b<0:=fun hd=>hb (.inr (.inr ⟨hi,hd⟩))
     omega
    ·exact h0
   ·split <;> omega
theorem xlk (l:List Int) (h:(xan l).2=0):0≤(xan l).1∧(xan l).1<65536:=by
 refine⟨xnD 6 0 0 l (by omega) h,?_⟩
 unfold xan at h ⊢
 match l,h with
 | [],h=>rw[xaU] at h;cases h
 | [b],h =>
  rw[xaU] at h
  split at h
  ·cases h
  ·rw[xaU] at h;cases h
 | b :: b1 :: t,h =>
  rw[xaU] at h ⊢
  split at h
  ·cases h
  rename_i h0
  rw[if_neg h0]
  rw[xaU] at h ⊢
  split at h
  ·cases h
  rename_i h1
  rw[if_neg h1]
  have e0:(if 1<0+1 then 16*(if 1<0 then 16*0+xf0 b else 0)+xf0 b1 else if 1<0 then 16*0+xf0 b else 0)=0:=by simp
  rw[e0] at h ⊢
  have:=xqU 4 (0+1+1) 0 t 1 (by omega) (by omega) h
  omega
theorem xh9 {l:List Int} (h:(xan l).2=0):6≤l.length:=xqx 6 0 0 l h
theorem xci (e:Int):xp0 e=.short∨xp0 e=.form:=by
 unfold xp0
 split
 ·exact .inl rfl
 ·exact .inr rfl
theorem xrt {b x:Int} (h:xwq b=some x):xaY x=[x]∧0≤x∧x<128:=by
 unfold xwq at h
 repeat' (split at h)
 all_goals first|(cases h;done)|(injection h with h;subst h;exact⟨by decide,by omega,by omega⟩)
theorem xd2 (a b:Int) (t:List Int):xk5 (a :: b :: t)=match xwq b with
  | some x=>.piece [x] 2
  | none=>if (xan (a :: b :: t)).2≠0 then xp0 (xan (a :: b :: t)).2 else if (xan (a :: b :: t)).1<55296∨57343<(xan (a :: b :: t)).1 then .piece (xaY (xan (a :: b :: t)).1) 6 else if 56319<(xan (a :: b :: t)).1 then .form else
   if (xan ((a :: b :: t).drop 6)).2≠0 then xp0 (xan ((a :: b :: t).drop 6)).2 else if (xan ((a :: b :: t).drop 6)).1<56320∨57343<(xan ((a :: b :: t).drop 6)).1 then .form
   else .piece (xaY (65536+1024*((xan (a :: b :: t)).1 - 55296)+(xan ((a :: b :: t).drop 6)).1 - 56320)) 12:=rfl
structure PieceOk (l:List Int) (t:List Int) (n:Nat):Prop where
 one:1≤n
 len:n≤l.length
 rune:∃ c,xaY c=t
 ne:t≠[]
 more:∀ x,xbg (l.take n++x)=.piece t n
 cut:∀ k,k<n→xbg (l.take k)=.short∨xbg (l.take k)=.form
theorem xeW (t:List Int):xbg (92 :: t)=xk5 (92 :: t):=rfl
theorem xxZ (b:Int) (t:List Int) (h:xwq b=none) (hf:(xan (92 :: b :: t)).2=3∨(xan (92 :: b :: t)).2=4):xk5 (92 :: b :: t)=.short∨xk5 (92 :: b :: t)=.form:=by
 rw[xd2,h]
 simp only
 rw[if_pos (by omega)]
 exact xci _
theorem xbz {l:List Int} {k:Nat} (h:k≤l.length):(l.take k).length=k:=by rw[List.length_take];omega
theorem xkM (b:Int) (s:List Int) (t:List Int) (n:Nat) (h:xk5 (92 :: b :: s)=.piece t n):PieceOk (92 :: b :: s) t n:=by
 rw[xd2] at h
 cases h2:xwq b with
 | some x =>
  rw[h2] at h
  simp only at h
  injection h with h3 h4
  subst h3 h4
  obtain⟨e1,e2,e3⟩:=xrt h2
  refine⟨by omega,by simp,⟨x,e1⟩,by simp,fun y=>?_,fun k hk=>?_⟩
  ·show xk5 (92 :: b :: ([]++y))=_
   rw[xd2,h2]
  ·match k,hk with
   | 0,_=>exact .inl rfl
   | 1,_=>exact .inl rfl
 | none =>
  rw[h2] at h
  simp only at h
  by_cases h3:(xan (92 :: b :: s)).2=0
  ·rw[if_neg (by simpa using h3)] at h
   have l6:=xh9 h3
   have hv:=xlk _ h3
   have cut6:∀ k,k<6→xbg ((92 :: b :: s).take k)=.short∨xbg ((92 :: b :: s).take k)=.form:=by
    intro k hk
    match k,hk with
    | 0,_=>exact .inl rfl
    | 1,_=>exact .inl rfl
    | k+2,hk =>
     rw[List.take_succ_cons,List.take_succ_cons,xeW]
     refine xxZ b _ h2 ?_
     refine xi9 6 0 0 _ ?_
     simp only[List.length_cons,List.length_take]
     omega
   have more6:∀ y,xan ((92 :: b :: s).take 6++y)=xan (92 :: b :: s):=fun y=>xe3 6 0 0 _ y l6
   by_cases h4:(xan (92 :: b :: s)).1<55296∨57343<(xan (92 :: b :: s)).1
   ·rw[if_pos h4] at h
    injection h with h5 h6
    subst h5 h6
    refine⟨by omega,l6,⟨_,rfl⟩,fun e=>?_,fun y=>?_,cut6⟩
    ·have:=(xeZ _).1 e
     omega
    ·have hm:=more6 y
     rw[List.take_succ_cons,List.take_succ_cons,List.cons_append,List.cons_append] at hm ⊢
     rw[xeW,xd2,h2]
     simp only
     rw[hm,if_neg (by simpa using h3),if_pos h4]
   ·rw[if_neg h4] at h
    by_cases h5:56319<(xan (92 :: b :: s)).1
    ·rw[if_pos h5] at h;cases h
    rw[if_neg h5] at h
    by_cases h6:(xan ((92 :: b :: s).drop 6)).2=0
    ·rw[if_neg (by simpa using h6)] at h
     by_cases h7:(xan ((92 :: b :: s).drop 6)).1<56320∨57343<(xan ((92 :: b :: s).drop 6)).1
     ·rw[if_pos h7] at h;cases h
     rw[if_neg h7] at h
     injection h with h8 h9
     subst h8 h9
     have l12:=xh9 h6
     rw[List.length_drop] at l12
     refine⟨by omega,by omega,⟨_,rfl⟩,fun e=>?_,fun y=>?_,fun k hk=>?_⟩
     ·have:=(xeZ _).1 e
      omega
     ·have e12:(92 :: b :: s).take 12++y=(92 :: b :: s).take 6++(((92 :: b :: s).drop 6).take 6++y):=by
       rw[← List.append_assoc]
       congr 1
       rw[show (12:Nat)=6+6 from rfl,List.take_add]
      have hm:=more6 (((92 :: b :: s).drop 6).take 6++y)
      rw[← e12] at hm
      have hd:((92 :: b :: s).take 12++y).drop 6=((92 :: b :: s).drop 6).take 6++y:=by
       rw[e12]
       exact List.drop_left' (xbz l6)
      have hm2:xan (((92 :: b :: s).take 12++y).drop 6)=xan ((92 :: b :: s).drop 6):=by
       rw[hd]
       exact xe3 6 0 0 _ y (by rw[List.length_drop];omega)
      rw[List.take_succ_cons,List.take_succ_cons,List.cons_append,List.cons_append] at hm hm2 ⊢
      rw[xeW,xd2,h2]
      simp only
      rw[hm,hm2,if_neg (by simpa using h3),if_neg h4,if_neg h5,if_neg (by simpa using h6),if_neg h7]
     ·by_cases hk6:k<6
      ·exact cut6 k hk6
      ·have e12:(92 :: b :: s).take k=(92 :: b :: s).take 6++((92 :: b :: s).drop 6).take (k - 6):=by
        conv=>lhs;rw[show k=6+(k - 6) by omega,List.take_add]
       have hm:=more6 (((92 :: b :: s).drop 6).take (k - 6))
       rw[← e12] at hm
       have hd:((92 :: b :: s).take k).drop 6=((92 :: b :: s).drop 6).take (k - 6):=by
        rw[e12]
        exact List.drop_left' (xbz l6)
       have hc:(xan (((92 :: b :: s).take k).drop 6)).2=3∨(xan (((92 :: b :: s).take k).drop 6)).2=4:=by
        rw[hd]
        refine xi9 6 0 0 _ ?_
        rw[List.length_take]
        omega
       obtain⟨j,rfl⟩:∃ j,k=j+2:=⟨k - 2,by omega⟩
       rw[List.take_succ_cons,List.take_succ_cons] at hm hc ⊢
       rw[xeW,xd2,h2]
       simp only
       rw[hm,if_neg (by simpa using h3),if_neg h4,if_neg h5,if_pos (by omega)]
       exact xci _
    ·rw[if_pos h6] at h
     rcases xci (xan ((92 :: b :: s).drop 6)).2 with e|e <;> rw[e] at h <;> cases h
  ·rw[if_pos h3] at h
   rcases xci (xan (92 :: b :: s)).2 with e|e <;> rw[e] at h <;> cases h
theorem xwr (c:Int) (k:Nat) (hk:k<(xaY c).length):xaM ((xaY c).take k)=[]:=by
 by_cases h:xaM ((xaY c).take k)=[]
 ·exact h
 exfalso
 obtain⟨d,t,h1,h2⟩:=xdn _ h
 have e:xaY c=xaY d++(t++(xaY c).drop k):=by
  conv=>lhs;rw[← List.take_append_drop k (xaY c),h2,← h1,List.append_assoc]
 have hd:xaY d≠[]:=by rw[h1];exact h
 have hr:=xfB d (t++(xaY c).drop k) hd
 rw[← e] at hr
 have hc:xaY c≠[]:=by intro e;rw[e] at hk;simp at hk
 have hr2:=xfB c [] hc
 rw[List.append_nil] at hr2
 rw[hr2] at hr
 have h3:=congrArg List.length e
 have h4:=congrArg List.length hr
 have h5:((xaY c).drop k).length=(xaY c).length - k:=List.length_drop
 rw[List.length_append,List.length_append] at h3
 omega
theorem xcN (l:List Int) (t:List Int) (n:Nat) (h:xbg l=.piece t n):PieceOk l t n:=by
 cases l with
 | nil=>cases h
 | cons b s =>
  rw[xbg] at h
  by_cases h1:b=34
  ·rw[if_pos h1] at h;cases h
  rw[if_neg h1] at h
  by_cases h2:b=92
  ·rw[if_pos h2] at h
   subst h2
   cases s with
   | nil=>cases h
   | cons b1 s=>exact xkM b1 s t n h
  rw[if_neg h2] at h
  by_cases h3:xaM (b :: s)=[]∨b<32
  ·rw[if_pos h3] at h;cases h
  rw[if_neg h3] at h
  injection h with h4 h5
  subst h4 h5
  have hne:xaM (b :: s)≠[]:=fun e=>h3 (.inl e)
  obtain⟨c,u,e1,e2⟩:=xdn _ hne
  obtain⟨r,hr⟩:∃ r,xaY c=b :: r:=by
   cases hc:xaY c with
   | nil=>rw[← e1] at hne;exact absurd hc hne
   | cons x r =>
    rw[← e1,hc,List.cons_append] at e2
    injection e2 with e3 _
    exact⟨r,by rw[e3]⟩
  have htk:=xkQ _ hne
  refine⟨?_,(xiv _).1,⟨c,e1⟩,hne,fun x=>?_,fun k hk=>?_⟩
  ·have:=List.length_pos_iff.2 hne;omega
  ·rw[htk,← e1,hr,List.cons_append,xbg,if_neg h1,if_neg h2,← List.cons_append,← hr,xfB c x (by rw[e1];exact hne),if_neg (by rw[hr];intro hq;rcases hq with hq|hq;cases hq;exact h3 (.inr hq))]
  ·have hkl:(b :: s).take k=(xaY c).take k:=by
    rw[e1,← htk,List.take_take,Nat.min_eq_left (by omega)]
   rw[hkl]
   have hrc:=xwr c k (by rw[e1];exact hk)
   cases k with
   | zero=>exact .inl rfl
   | succ k =>
    rw[hr,List.take_succ_cons] at hrc ⊢
    right
    rw[xbg,if_neg h1,if_neg h2,if_pos (.inl hrc)]
mutual
inductive Js
 | nul
 | bool (b:Bool)
 | num (n:Int)
 | str (s:List Int)
 | arr (l:Jl)
 | obj (l:Jl)
 | bad
inductive Jl
 | nil
 | cons (name:List Int) (v:Js) (l:Jl)
end
def Jl.length:Jl→Nat
 | .nil=>0
 | .cons _ _ l=>l.length+1
def xkr:Int:=9007199254740991
mutual
def xtH (d:Nat):Js→Int
 | .nul=>0
 | .bool _=>0
 | .num n=>if xkr<n∨n < -xkr then 11 else 0
 | .str s=>if xnT s<0 then 4 else 0
 | .arr l=>if 4<d then 20 else if 64<l.length then 21 else xCR false d [] l
 | .obj l=>if 4<d then 20 else if 64<l.length then 21 else xCR true d [] l
 | .bad=>14
def xCR (ob:Bool) (d:Nat) (names:List (List Int)):Jl→Int
 | .nil=>0
 | .cons n v l=>if ob=true∧xnT n<0 then 4 else if ob=true∧n ∈ names then 22 else if xtH (d+1) v≠0 then xtH (d+1) v else xCR ob d (names++[n]) l
end
def isB (b:Int):Bool:=b == 32 || b == 9 || b == 10 || b == 13
def xab:List Int→Nat
 | []=>0
 | b :: t=>if isB b then xab t+1 else 0
def isN (b:Int):Bool:=(48≤b && b≤57) || b == 43 || b == 45 || b == 46 || b == 101 || b == 69
def xb8:List Int→Nat
 | []=>0
 | b :: t=>if isN b then xb8 t+1 else 0
def isD (b:Int):Bool:=48≤b && b≤57
def xhy (l:List Int):Int:=l.foldl (fun n c=>10*n+(c - 48)) 0
def xaX:List Int→List Int
 | []=>[]
 | b :: t=>if b=45 then t else b :: t
def xfz:List Int→Bool
 | []=>false
 | b :: _=>b == 45
def xmb (t:List Int):Prop:=xaX t=[]∨(xaX t).head?=some 48∧(1<(xaX t).length∨xfz t=true)∨¬ (xaX t).all isD=true
instance (t:List Int):Decidable (xmb t):=by unfold xmb;infer_instance
def xhi (l:List Int):Js × Nat × Int :=
 if xmb (l.take (xb8 l)) then (.nul,0,4) else if xkr<xhy (xaX (l.take (xb8 l))) then (.nul,0,11)
 else (.num (if xfz (l.take (xb8 l)) then - xhy (xaX (l.take (xb8 l))) else xhy (xaX (l.take (xb8 l)))),xb8 l,0)
def xb3:List Int→List Int→Nat→Nat × Int
 | [],_,i=>(i,0)
 | _ :: _,[],i=>(i,3)
 | c :: w,b :: t,i=>if b=c then xb3 w t (i+1) else (0,4)
def xcq (w:List Int) (v:Js) (l:List Int):Js × Nat × Int:=if (xb3 w l 0).2=0 then (v,(xb3 w l 0).1,0) else (.nul,(xb3 w l 0).1,(xb3 w l 0).2)
def xav:List Int→List Int × Nat × Int
 | []=>([],0,3)
 | b :: t=>if b=34 then xaW (t.length+1) t 1 [] else ([],0,4)
def xbK (l:List Int):Int:=l.headD (-1)
mutual
def xai:Nat→Nat→List Int→Js × Nat × Int
 | 0,_,l=>(.nul,l.length,3)
 | _+1,_,[]=>(.nul,0,3)
 | f+1,d,b :: t =>
  if b=110 then xcq [110,117,108,108] .nul (b :: t)
  else if b=102 then xcq [102,97,108,115,101] (.bool false) (b :: t)
  else if b=116 then xcq [116,114,117,101] (.bool true) (b :: t)
  else if b=34 then (if (xav (b :: t)).2.2=0 then (.str (xav (b :: t)).1,(xav (b :: t)).2.1,0) else (.nul,(xav (b :: t)).2.1,(xav (b :: t)).2.2))
  else if b=91∨b=123 then
   (if 4<d then (.nul,0,20) else if xbK (t.drop (xab t))=b+2 then (if b=91 then .arr .nil else .obj .nil,xab t+2,0)
   else if (xax f d (decide (b=123)) (b+2) [] 0 (t.drop (xab t))).2.2≠0 then (.nul,xab t+1+(xax f d (decide (b=123)) (b+2) [] 0 (t.drop (xab t))).2.1,(xax f d (decide (b=123)) (b+2) [] 0 (t.drop (xab t))).2.2)
   else (if b=91 then .arr (xax f d (decide (b=123)) (b+2) [] 0 (t.drop (xab t))).1 else .obj (xax f d (decide (b=123)) (b+2) [] 0 (t.drop (xab t))).1,xab t+1+(xax f d (decide (b=123)) (b+2) [] 0 (t.drop (xab t))).2.1,0))
  else if b=45∨isD b=true then xhi (b :: t)
  else (.nul,0,4)
def xax:Nat→Nat→Bool→Int→List (List Int)→Nat→List Int→Jl × Nat × Int
 | 0,_,_,_,_,_,l=>(.nil,l.length,3)
 | f+1,d,ob,fin,names,k,l =>
  if l≠[]∧64≤k then (.nil,0,21)
  else match xbh ob names l with
  | (name,at_,e)=>if e≠0 then (.nil,at_,e) else
   match xai f (d+1) (l.drop at_) with
   | (v,n,e2)=>if e2≠0 then (.nil,at_+n,e2) else
    (let m:=at_+n+xab (l.drop (at_+n))
    if l.drop m=[] then (.nil,m,3) else if xbK (l.drop m)=fin then (.cons name v .nil,m+1,0) else if xbK (l.drop m)≠44 then (.nil,m,4) else
    (let q:=m+1+xab (l.drop (m+1))
    match xax f d ob fin (names++[name]) (k+1) (l.drop q) with
    | (r,j,e3)=>if e3≠0 then (.nil,q+j,e3) else (.cons name v r,q+j,0)))
def xbh (ob:Bool) (names:List (List Int)) (l:List Int):List Int × Nat × Int :=
 if ob=false then ([],0,0) else
 match xav l with
 | (name,n,e)=>if e≠0 then ([],n,e) else if name ∈ names then ([],0,22) else
  (let m:=n+xab (l.drop n)
  if l.drop m=[] then ([],m,3) else if xbK (l.drop m)≠58 then ([],m,4) else (name,m+1+xab (l.drop (m+1)),0))
end
def xek (l:List Int):Nat:=2*l.length+1
def xd5 (s:List Int):Js × Nat × Int :=
 if 4096<s.length then (.nul,0,5) else
 match xai (xek s) 1 (s.drop (xab s)) with
 | (v,n,e)=>if e≠0 then (.nul,xab s+n,e) else
  (let m:=xab s+n+xab (s.drop (xab s+n))
  if m<s.length then (.nul,m,4) else (v,m,0))
end Go.Proofs.YtjkgkmmkehnggaaGreatDoor
namespace Go.Proofs.YtjkgkmmkehnggaaGreatDoor
set_option linter.unusedVariables false
set_option linter.unusedSimpArgs false
open Go.RowKit
set_option maxRecDepth 20000
mutual
def xas (S:Nat→Prop) (w:World):Js→Value→Prop
 | .nul,x=>x=.nilIface
 | .bool b,x=>x=.iface 4 (.bool b)
 | .num n,x=>x=.iface 3 (.int .i64 n)
 | .str s,x=>∃ t:ByteArray,x=.iface 9 (.string t)∧bI t=s∧s.length≤5000
 | .arr l,x=>∃ a cap,x=.iface 343 (.slice a l.length cap)∧l.length≤cap∧cap≤maxLen∧xhm S w a 0 l
 | .obj l,x=>∃ a cap,x=.iface 136 (.slice a l.length cap)∧l.length≤cap∧cap≤maxLen∧xfv S w a 0 l
 | .bad,x=>x=.iface 100000 (.float .f64 4609434218613702656)
def xhm (S:Nat→Prop) (w:World) (a:Option Addr) (i:Nat):Jl→Prop
 | .nil=>True
 | .cons n v l=>(∃ g off y,a=some ⟨g,off,none⟩∧S g∧g<w.heap.size∧w.cell? ⟨g,off+i,none⟩=some y∧xas S w v y)∧xhm S w a (i+1) l
def xfv (S:Nat→Prop) (w:World) (a:Option Addr) (i:Nat):Jl→Prop
 | .nil=>True
 | .cons n v l=>(∃ g off y t,a=some ⟨g,off,none⟩∧S g∧g<w.heap.size∧w.cell? ⟨g,off+i*2,none⟩=some (.string t)∧bI t=n∧n.length≤5000∧w.cell? ⟨g,off+i*2+1,none⟩=some y∧xas S w v y)∧xfv S w a (i+1) l
end
mutual
theorem xas.keep {S S':Nat→Prop} {w w':World} (hS:∀ b,S b→b<w.heap.size→S' b) (hs:w.heap.size≤w'.heap.size) (hk:∀ b,S b→b<w.heap.size→w'.heap[b]?=w.heap[b]?):∀ (v:Js) (x:Value),xas S w v x→xas S' w' v x
 | .nul,x,h=>by rw[xas] at h ⊢;exact h
 | .bool b,x,h=>by rw[xas] at h ⊢;exact h
 | .num n,x,h=>by rw[xas] at h ⊢;exact h
 | .str s,x,h=>by rw[xas] at h ⊢;exact h
 | .arr l,x,h=>by
  rw[xas] at h ⊢
  obtain⟨a,cap,h1,h2,h3,h4⟩:=h
  exact⟨a,cap,h1,h2,h3,xhm.keep hS hs hk l a 0 h4⟩
 | .obj l,x,h=>by
  rw[xas] at h ⊢
  obtain⟨a,cap,h1,h2,h3,h4⟩:=h
  exact⟨a,cap,h1,h2,h3,xfv.keep hS hs hk l a 0 h4⟩
 | .bad,x,h=>by rw[xas] at h ⊢;exact h
theorem xhm.keep {S S':Nat→Prop} {w w':World} (hS:∀ b,S b→b<w.heap.size→S' b) (hs:w.heap.size≤w'.heap.size) (hk:∀ b,S b→b<w.heap.size→w'.heap[b]?=w.heap[b]?):∀ (l:Jl) (a:Option Addr) (i:Nat),xhm S w a i l→xhm S' w' a i l
 | .nil,a,i,h=>by rw[xhm];trivial
 | .cons n v l,a,i,h=>by
  rw[xhm] at h ⊢
  obtain⟨⟨g,off,y,h1,h2,h3,h4,h5⟩,h6⟩:=h
  exact⟨⟨g,off,y,h1,hS g h2 h3,Nat.lt_of_lt_of_le h3 hs,(World.cell?_of_block (a:=⟨g,off+i,none⟩) (hk g h2 h3)).trans h4,xas.keep hS hs hk v y h5⟩,xhm.keep hS hs hk l a (i+1) h6⟩
theorem xfv.keep {S S':Nat→Prop} {w w':World} (hS:∀ b,S b→b<w.heap.size→S' b) (hs:w.heap.size≤w'.heap.size) (hk:∀ b,S b→b<w.heap.size→w'.heap[b]?=w.heap[b]?):∀ (l:Jl) (a:Option Addr) (i:Nat),xfv S w a i l→xfv S' w' a i l
 | .nil,a,i,h=>by rw[xfv];trivial
 | .cons n v l,a,i,h=>by
  rw[xfv] at h ⊢
  obtain⟨⟨g,off,y,t,h1,h2,h3,h4,h7,h8,h5,h9⟩,h6⟩:=h
  exact⟨⟨g,off,y,t,h1,hS g h2 h3,Nat.lt_of_lt_of_le h3 hs,(World.cell?_of_block (a:=⟨g,off+i*2,none⟩) (hk g h2 h3)).trans h4,h7,h8,(World.cell?_of_block (a:=⟨g,off+i*2+1,none⟩) (hk g h2 h3)).trans h5,xas.keep hS hs hk v y h9⟩,xfv.keep hS hs hk l a (i+1) h6⟩
end
theorem xas.below {S:Nat→Prop} {w w':World} {v:Js} {x:Value} (h:xas S w v x) (hb:Below w.heap.size w w'):xas S w' v x:=xas.keep (fun _ e _=>e) hb.size (fun b _ hlt=>hb.block b hlt) v x h
theorem xas.mono {S S':Nat→Prop} {w:World} {v:Js} {x:Value} (h:xas S w v x) (hS:∀ b,S b→S' b):xas S' w v x:=xas.keep (fun b e _=>hS b e) (Nat.le_refl _) (fun _ _ _=>rfl) v x h
def Jl.at?:Jl→Nat→Option (List Int × Js)
 | .nil,_=>none
 | .cons n v _,0=>some (n,v)
 | .cons _ _ l,i+1=>l.at? i
def Jl.drop:Jl→Nat→Jl
 | l,0=>l
 | .nil,_+1=>.nil
 | .cons _ _ l,i+1=>l.drop i
def Jl.names:Jl→List (List Int)
 | .nil=>[]
 | .cons n _ l=>n :: l.names
theorem Jl.drop_zero (l:Jl):l.drop 0=l:=by cases l <;> rfl
theorem Jl.lt_at:∀ (l:Jl) (k:Nat),k<l.length→∃ n v,l.at? k=some (n,v)
 | .nil,_,h=>absurd h (Nat.not_lt_zero _)
 | .cons n v t,0,_=>⟨n,v,rfl⟩
 | .cons _ _ t,k+1,e=>Jl.lt_at t k (Nat.lt_of_succ_lt_succ e)
theorem Jl.names_at:∀ (l:Jl) (i:Nat) (n:List Int) (v:Js),l.at? i=some (n,v)→l.names[i]?=some n
 | .nil,_,_,_,h=>by cases h
 | .cons n' v' t,0,n,v,h=>by
  obtain⟨rfl,rfl⟩:n'=n∧v'=v:=by simpa[Jl.at?] using h
  rfl
 | .cons n' v' t,i+1,n,v,h=>by simpa[Jl.names] using Jl.names_at t i n v h
theorem xhm.at {S:Nat→Prop} {w:World} {a:Option Addr}:∀ (l:Jl) (i k:Nat) (n:List Int) (v:Js),xhm S w a i l→l.at? k=some (n,v)→∃ g off y,a=some ⟨g,off,none⟩∧S g∧g<w.heap.size∧w.cell? ⟨g,off+(i+k),none⟩=some y∧xas S w v y
 | .nil,_,_,_,_,_,h=>by cases h
 | .cons n' v' t,i,0,n,v,hr,h=>by
  rw[xhm] at hr
  obtain⟨rfl,rfl⟩:n'=n∧v'=v:=by simpa[Jl.at?] using h
  exact hr.1
 | .cons n' v' t,i,k+1,n,v,hr,h=>by
  rw[xhm] at hr
  have:=xhm.at t (i+1) k n v hr.2 h
  rwa[show i+1+k=i+(k+1) by omega] at this
theorem xhm.of {S:Nat→Prop} {w:World} {a:Option Addr}:∀ (l:Jl) (i:Nat),(∀ k n v,l.at? k=some (n,v)→∃ g off y,a=some ⟨g,off,none⟩∧S g∧g<w.heap.size∧w.cell? ⟨g,off+(i+k),none⟩=some y∧xas S w v y)→xhm S w a i l
 | .nil,_,_=>by rw[xhm];trivial
 | .cons n v t,i,h=>by
  rw[xhm]
  exact⟨h 0 n v rfl,xhm.of t (i+1) fun k n v e=>by
   have:=h (k+1) n v e
   rwa[show i+(k+1)=i+1+k by omega] at this⟩
theorem xfv.at {S:Nat→Prop} {w:World} {a:Option Addr}:∀ (l:Jl) (i k:Nat) (n:List Int) (v:Js),xfv S w a i l→l.at? k=some (n,v)→∃ g off y t,a=some ⟨g,off,none⟩∧S g∧g<w.heap.size∧w.cell? ⟨g,off+(i+k)*2,none⟩=some (.string t)∧bI t=n∧n.length≤5000∧w.cell? ⟨g,off+(i+k)*2+1,none⟩=some y∧xas S w v y
 | .nil,_,_,_,_,_,h=>by cases h
 | .cons n' v' t,i,0,n,v,hr,h=>by
  rw[xfv] at hr
  obtain⟨rfl,rfl⟩:n'=n∧v'=v:=by simpa[Jl.at?] using h
  exact hr.1
 | .cons n' v' t,i,k+1,n,v,hr,h=>by
  rw[xfv] at hr
  have:=xfv.at t (i+1) k n v hr.2 h
  rwa[show i+1+k=i+(k+1) by omega] at this
theorem xfv.of {S:Nat→Prop} {w:World} {a:Option Addr}:∀ (l:Jl) (i:Nat),(∀ k n v,l.at? k=some (n,v)→∃ g off y t,a=some ⟨g,off,none⟩∧S g∧g<w.heap.size∧w.cell? ⟨g,off+(i+k)*2,none⟩=some (.string t)∧bI t=n∧n.length≤5000∧w.cell? ⟨g,off+(i+k)*2+1,none⟩=some y∧xas S w v y)→xfv S w a i l
 | .nil,_,_=>by rw[xfv];trivial
 | .cons n v t,i,h=>by
  rw[xfv]
  exact⟨h 0 n v rfl,xfv.of t (i+1) fun k n v e=>by
   have:=h (k+1) n v e
   rwa[show i+(k+1)=i+1+k by omega] at this⟩
def aB:Nat→Prop:=fun _=>True
def PlR (x:List Int) (ns:List (List Int)) (r:Int):Prop:=(r=-1∧x ∉ ns)∨∃ k:Nat,r=k∧ns[k]?=some x∧∀ j,j<k→ns[j]?≠some x
theorem PlR.neg {x:List Int} {ns:List (List Int)} {r:Int} (h:PlR x ns r):(0≤r↔x ∈ ns):=by
 rcases h with ⟨rfl,h⟩|⟨k,rfl,h,_⟩
 ·exact⟨fun e=>by omega,fun e=>absurd e h⟩
 ·exact⟨fun _=>List.mem_of_getElem? h,fun _=>by omega⟩
def xhA:TypeDesc→Bool
 | .interface _=>false
 | _=>true
theorem xpA (X T:TypeId) (d:TypeDesc) (z:Value) (hu:Tryz.prog.underlying T=some d) (hd:xhA d=true) (hz:(Tryz.prog.info? T).map (·.zero)=some (some z)) (w:World) :
  (Instr.typeAssert .nilIface X T true).run Tryz.prog w=.ok (.tuple #[z,.bool false]) w:=by
 obtain⟨i,hi,hiz⟩:∃ i,Tryz.prog.info? T=some i∧i.zero=some z:=by
  cases h:Tryz.prog.info? T with
  | none=>simp[h] at hz
  | some i=>exact⟨i,rfl,by simpa[h] using hz⟩
 unfold Instr.typeAssert
 rw[Sem.run_bind,run_underlying hu w]
 cases d <;> simp_all [xhA,zeroValue,typeInfo]
theorem xcU (X T t:TypeId) (v:Value) (d:TypeDesc) (z:Value) (hu:Tryz.prog.underlying T=some d) (hd:xhA d=true) (hz:(Tryz.prog.info? T).map (·.zero)=some (some z)) (ht:t≠T) (w:World) :
  (Instr.typeAssert (.iface t v) X T true).run Tryz.prog w=.ok (.tuple #[z,.bool false]) w:=by
 obtain⟨i,hi,hiz⟩:∃ i,Tryz.prog.info? T=some i∧i.zero=some z:=by
  cases h:Tryz.prog.info? T with
  | none=>simp[h] at hz
  | some i=>exact⟨i,rfl,by simpa[h] using hz⟩
 unfold Instr.typeAssert
 rw[Sem.run_bind,run_underlying hu w]
 cases d <;> simp_all [xhA,zeroValue,typeInfo]
theorem xhM (X T:TypeId) (v:Value) (d:TypeDesc) (hu:Tryz.prog.underlying T=some d) (hd:xhA d=true) (w:World) :
  (Instr.typeAssert (.iface T v) X T true).run Tryz.prog w=.ok (.tuple #[v,.bool true]) w:=by
 unfold Instr.typeAssert
 rw[Sem.run_bind,run_underlying hu w]
 cases d <;> simp_all [xhA]
theorem xCN:(Tryz.prog.info? 4).map (·.zero)=some (some (.bool false)):=by kernel_rfl
theorem xAv:(Tryz.prog.info? 136).map (·.zero)=some (some (.slice none 0 0)):=by kernel_rfl
end Go.Proofs.YtjkgkmmkehnggaaGreatDoor
namespace Go.Proofs.YtjkgkmmkehnggaaGreatDoor
set_option linter.unusedVariables false
set_option linter.unusedSimpArgs false
set_option maxRecDepth 20000
theorem xrQ (x:List Int):xbg (34 :: x)=.fin:=by rw[xbg,if_pos rfl]
theorem xay (f:Nat) (l:List Int) (p:Nat) (out:List Int):xaW (f+1) l p out=match xbg l with
  | .short=>([],p+l.length,3)
  | .form=>([],p,4)
  | .fin=>(out,p+1,0)
  | .piece t n=>xaW f (l.drop n) (p+n) (out++t):=rfl
theorem xdM:∀ (f g:Nat) (l:List Int) (p:Nat) (out:List Int),l.length≤f→l.length≤g→xaW f l p out=xaW g l p out
 | 0,0,_,_,_,_,_=>rfl
 | 0,g+1,l,p,out,hf,_=>by
  obtain rfl:l=[]:=List.eq_nil_of_length_eq_zero (by omega)
  rfl
 | f+1,0,l,p,out,_,hg=>by
  obtain rfl:l=[]:=List.eq_nil_of_length_eq_zero (by omega)
  rfl
 | f+1,g+1,l,p,out,hf,hg=>by
  rw[xay,xay]
  cases hs:xbg l with
  | short=>rfl
  | form=>rfl
  | fin=>rfl
  | piece t n =>
   have hp:=xcN l t n hs
   have h1:=hp.one
   have h2:=hp.len
   exact xdM f g _ _ _ (by rw[List.length_drop];omega) (by rw[List.length_drop];omega)
theorem xkq:∀ (f:Nat) (l:List Int) (p:Nat) (out:List Int),l.length≤f→(xaW f l p out).2.2≠0→(xaW f l p out).1=[]∧(xaW f l p out).2.1≤p+l.length∧((xaW f l p out).2.2=3→(xaW f l p out).2.1=p+l.length)
 | 0,l,p,out,_,_=>⟨rfl,Nat.le_refl _,fun _=>rfl⟩
 | f+1,l,p,out,hf,h=>by
  rw[xay] at h ⊢
  cases hs:xbg l with
  | short=>exact⟨rfl,Nat.le_refl _,fun _=>rfl⟩
  | form=>exact⟨rfl,Nat.le_add_right _ _,fun e=>by cases e⟩
  | fin=>rw[hs] at h;exact absurd rfl h
  | piece t n =>
   rw[hs] at h
   have hp:=xcN l t n hs
   have h1:=hp.one
   have h2:=hp.len
   obtain⟨a,b,c⟩:=xkq f (l.drop n) (p+n) (out++t) (by rw[List.length_drop];omega) h
   rw[List.length_drop] at b c
   refine⟨a,by simp only;omega,fun e=>?_⟩
   have:=c e
   simp only
   omega
theorem xwh {l:List Int} (h:xbg l=.fin):∃ t,l=34 :: t:=by
 cases l with
 | nil=>cases h
 | cons b s =>
  rw[xbg] at h
  by_cases h1:b=34
  ·exact⟨s,by rw[h1]⟩
  rw[if_neg h1] at h
  by_cases h2:b=92
  ·rw[if_pos h2] at h
   subst h2
   cases s with
   | nil=>cases h
   | cons b1 s =>
    rw[xd2] at h
    split at h
    ·cases h
    split at h
    ·rcases xci (xan (92 :: b1 :: s)).2 with e|e <;> rw[e] at h <;> cases h
    split at h
    ·cases h
    split at h
    ·cases h
    split at h
    ·rcases xci (xan ((92 :: b1 :: s).drop 6)).2 with e|e <;> rw[e] at h <;> cases h
    split at h <;> cases h
  rw[if_neg h2] at h
  split at h <;> cases h
theorem xhZ:∀ (f:Nat) (l:List Int) (p:Nat) (out:List Int),l.length≤f→(xaW f l p out).2.2=0 →
  ∃ n t k,(xaW f l p out)=(out++t,p+n,0)∧1≤n∧n≤l.length∧Val t k∧(∀ x g,(l.take n++x).length≤g→xaW g (l.take n++x) p out=(out++t,p+n,0)) ∧
   (∀ j g,j<n→(l.take j).length≤g→(xaW g (l.take j) p out).1=[]∧((xaW g (l.take j) p out).2.2=3∧(xaW g (l.take j) p out).2.1=p+j∨(xaW g (l.take j) p out).2.2=4))
 | 0,l,p,out,_,h=>by cases h
 | f+1,l,p,out,hf,h=>by
  rw[xay] at h ⊢
  cases hs:xbg l with
  | short=>rw[hs] at h;cases h
  | form=>rw[hs] at h;cases h
  | fin =>
   obtain⟨u,rfl⟩:=xwh hs
   refine⟨1,[],0,by rw[List.append_nil],Nat.le_refl _,by simp,.nil,fun x g hg=>?_,fun j g hj hg=>?_⟩
   ·cases g with
    | zero=>simp at hg
    | succ g =>
     have e:List.take 1 (34 :: u)++x=34 :: x:=rfl
     rw[e,xay,xrQ,List.append_nil]
   ·obtain rfl:j=0:=by omega
    rw[List.take_zero]
    cases g with
    | zero=>exact⟨rfl,.inl ⟨rfl,rfl⟩⟩
    | succ g=>exact⟨rfl,.inl ⟨rfl,rfl⟩⟩
  | piece t n =>
   rw[hs] at h
   have hp:=xcN l t n hs
   have h1:=hp.one
   have h2:=hp.len
   obtain⟨c,hc⟩:=hp.rune
   obtain⟨m,u,k,e1,e2,e3,e4,e5,e6⟩:=xhZ f (l.drop n) (p+n) (out++t) (by rw[List.length_drop];omega) h
   rw[List.length_drop] at e3
   have hsplit:∀ y,l.take (n+m)++y=l.take n++((l.drop n).take m++y):=fun y=>by rw[List.take_add,List.append_assoc]
   refine⟨n+m,t++u,k+1,by simp only;rw[e1,List.append_assoc,Nat.add_assoc],by omega,by omega,by rw[← hc];exact .cons c u k (by rw[hc];exact hp.ne) e4,fun x g hg=>?_,fun j g hj hg=>?_⟩
   ·rw[hsplit] at hg ⊢
    cases g with
    | zero=>rw[List.length_append,List.length_take] at hg;omega
    | succ g =>
     rw[xay,hp.more]
     simp only
     rw[List.drop_left' (xbz h2),e5 x g (by rw[List.length_append,xbz h2] at hg;omega),List.append_assoc,Nat.add_assoc]
   ·by_cases hjn:j<n
    ·cases g with
     | zero =>
      rw[List.length_take] at hg
      obtain rfl:j=0:=by omega
      exact⟨rfl,.inl ⟨rfl,by simp[xaW]⟩⟩
     | succ g =>
      rw[xay]
      rcases hp.cut j hjn with e|e <;> rw[e]
      ·refine⟨rfl,.inl ⟨rfl,?_⟩⟩
       simp only
       rw[List.length_take]
       omega
      ·exact⟨rfl,.inr rfl⟩
    ·have ej:l.take j=l.take n++(l.drop n).take (j - n):=by
      conv=>lhs;rw[show j=n+(j - n) by omega,List.take_add]
     rw[ej] at hg ⊢
     cases g with
     | zero=>rw[List.length_append,xbz h2] at hg;omega
     | succ g =>
      rw[xay,hp.more]
      simp only
      rw[List.drop_left' (xbz h2)]
      have:=e6 (j - n) g (by omega) (by rw[List.length_append,xbz h2] at hg;omega)
      rw[show p+n+(j - n)=p+j by omega] at this
      exact this
theorem xt9 (l:List Int) (p:Nat) (t:List Int) (h:l.drop p=34 :: t) (hp:p<l.length):xa8 l p=xaW l.length t (p+1) []:=by
 unfold xa8
 have h1:l.getD p 0=34:=by
  rw[List.getD_eq_getElem?_getD,List.getElem?_eq_getElem hp]
  rw[List.drop_eq_getElem_cons hp] at h
  injection h
 have h2:l.drop (p+1)=t:=by
  rw[List.drop_eq_getElem_cons hp] at h
  injection h
 rw[if_neg (by omega),if_neg (by omega),Int.toNat_natCast,if_neg (by rw[h1];simp),h2]
theorem xce (l:List Int):xa8 l 0=match l with
  | []=>([],0,3)
  | b :: t=>if b=34 then xaW (t.length+1) t 1 [] else ([],0,4):=by
 cases l with
 | nil=>rfl
 | cons b t =>
  by_cases h:b=34
  ·subst h
   have:=xt9 (34 :: t) 0 t rfl (by simp)
   rw[show ((0:Nat):Int)=0 from rfl] at this
   rw[this]
   simp
  ·unfold xa8
   rw[if_neg (by simp;omega),if_neg (by simp;omega)]
   simp[h]
theorem xo6 (l:List Int) (h:(xa8 l 0).2.2≠0):(xa8 l 0).1=[]∧(xa8 l 0).2.1≤l.length∧((xa8 l 0).2.2=3→(xa8 l 0).2.1=l.length):=by
 rw[xce] at h ⊢
 cases l with
 | nil=>exact⟨rfl,Nat.le_refl _,fun _=>rfl⟩
 | cons b t =>
  simp only at h ⊢
  by_cases hb:b=34
  ·rw[if_pos hb] at h ⊢
   obtain⟨a,c,d⟩:=xkq _ t 1 [] (by omega) h
   refine⟨a,by rw[List.length_cons];omega,fun e=>?_⟩
   have:=d e
   rw[List.length_cons]
   omega
  ·rw[if_neg hb]
   exact⟨rfl,Nat.zero_le _,fun e=>by cases e⟩
theorem xjS (l:List Int) (h:(xa8 l 0).2.2=0):(∃ k,Val (xa8 l 0).1 k)∧2≤(xa8 l 0).2.1∧(xa8 l 0).2.1≤l.length∧(∀ x,xa8 (l.take (xa8 l 0).2.1++x) 0=xa8 l 0) ∧
  ∀ j,j<(xa8 l 0).2.1→(xa8 (l.take j) 0).1=[]∧((xa8 (l.take j) 0).2.2=3∧(xa8 (l.take j) 0).2.1=j∨(xa8 (l.take j) 0).2.2=4):=by
 have hz:=xce l
 cases l with
 | nil=>rw[hz] at h;cases h
 | cons b t =>
  simp only at hz
  by_cases hb:b=34
  ·rw[if_pos hb] at hz
   subst hb
   rw[hz] at h ⊢
   obtain⟨n,u,k,e1,e2,e3,e4,e5,e6⟩:=xhZ _ t 1 [] (by omega) h
   rw[e1]
   simp only[List.nil_append] at e5 ⊢
   refine⟨⟨k,e4⟩,by omega,by rw[List.length_cons];omega,fun x=>?_,fun j hj=>?_⟩
   ·rw[show 1+n=n+1 by omega,List.take_succ_cons,List.cons_append,xce]
    simp only
    rw[if_pos trivial,e5 x _ (by omega)]
    congr 2
    omega
   ·cases j with
    | zero=>rw[List.take_zero,xce];exact⟨rfl,.inl ⟨rfl,rfl⟩⟩
    | succ j =>
     rw[List.take_succ_cons,xce]
     simp only
     rw[if_pos trivial]
     have:=e6 j ((t.take j).length+1) (by omega) (by omega)
     rw[show 1+j=j+1 by omega] at this
     exact this
  ·rw[if_neg hb] at hz
   rw[hz] at h
   cases h
theorem xzl (b:Int):isD b=true↔48≤b∧b≤57:=by simp[isD]
theorem xzT (a:List Int) (h:∀ b ∈ a,isD b=true):0≤xhy a:=by
 suffices H:∀ (a:List Int) (n:Int),0≤n→(∀ b ∈ a,isD b=true)→0≤a.foldl (fun n c=>10*n+(c - 48)) n from H a 0 (Int.le_refl 0) h
 intro a
 induction a with
 | nil=>intro n hn _;exact hn
 | cons c a ih =>
  intro n hn h
  rw[List.foldl_cons]
  have:=(xzl c).1 (h c (.head _))
  exact ih _ (by omega) (fun b hb=>h b (.tail _ hb))
theorem xmE:∀ l:List Int,xb8 l≤l.length
 | []=>Nat.le_refl _
 | b :: t=>by
  rw[xb8,List.length_cons]
  have:=xmE t
  split <;> omega
theorem xcL:∀ l:List Int,xab l≤l.length
 | []=>Nat.le_refl _
 | b :: t=>by
  rw[xab,List.length_cons]
  have:=xcL t
  split <;> omega
theorem xtp (l:List Int) (h:(xhi l).2.2=0):∃ n,(xhi l).1=.num n∧n≤xkr∧-xkr≤n∧(xhi l).2.1=xb8 l∧1≤xb8 l:=by
 unfold xhi at h ⊢
 by_cases hb:xmb (l.take (xb8 l))
 ·rw[if_pos hb] at h;cases h
 rw[if_neg hb] at h ⊢
 by_cases hm:xkr<xhy (xaX (l.take (xb8 l)))
 ·rw[if_pos hm] at h;cases h
 rw[if_neg hm]
 have ha:(xaX (l.take (xb8 l))).all isD=true:=by
  by_cases ha:(xaX (l.take (xb8 l))).all isD=true
  ·exact ha
  ·exact absurd (.inr (.inr ha)) hb
 have h0:=xzT _ (List.all_eq_true.1 ha)
 refine⟨_,rfl,?_,?_,rfl,?_⟩
 ·split <;> simp only[xkr] at hm ⊢ <;> omega
 ·split <;> simp only[xkr] at hm ⊢ <;> omega
 ·rcases Nat.eq_zero_or_pos (xb8 l) with e|e
  ·refine absurd (.inl ?_) hb
   rw[e]
   rfl
  ·exact e
theorem xAj (l:List Int):(xhi l).2.1≤l.length:=by
 unfold xhi
 split
 ·exact Nat.zero_le _
 split
 ·exact Nat.zero_le _
 ·exact xmE l
theorem xnl (l:List Int):xav l=xa8 l 0:=by rw[xce];cases l <;> rfl
theorem xgc (l:List Int):(xav l).2.1≤l.length:=by
 rw[xnl]
 by_cases h:(xa8 l 0).2.2=0
 ·exact(xjS l h).2.2.1
 ·exact(xo6 l h).2.1
theorem xsk (l:List Int) (h:(xav l).2.2=0):2≤(xav l).2.1∧0≤xnT (xav l).1:=by
 rw[xnl] at h ⊢
 obtain⟨⟨k,hv⟩,h2,_⟩:=xjS l h
 exact⟨h2,by rw[xut hv];omega⟩
theorem xia:∀ (w l:List Int) (i:Nat),(xb3 w l i).1≤i+l.length∧((xb3 w l i).2=0→(xb3 w l i).1=i+w.length)
 | [],l,i=>⟨Nat.le_add_right _ _,fun _=>rfl⟩
 | _ :: _,[],i=>⟨Nat.le_add_right _ _,fun h=>by cases h⟩
 | c :: w,b :: t,i=>by
  rw[xb3]
  split
  ·obtain⟨a,d⟩:=xia w t (i+1)
   exact⟨by rw[List.length_cons];omega,fun h=>by rw[d h,List.length_cons];omega⟩
  ·exact⟨Nat.zero_le _,fun h=>by cases h⟩
theorem xiA (w:List Int) (v:Js) (l:List Int) (hw:1≤w.length):(xcq w v l).2.1≤l.length∧((xcq w v l).2.2=0→1≤(xcq w v l).2.1∧(xcq w v l).1=v):=by
 obtain⟨a,d⟩:=xia w l 0
 unfold xcq
 split
 ·rename_i h
  exact⟨by simpa using a,fun _=>⟨by rw[d h];omega,rfl⟩⟩
 ·rename_i h
  exact⟨by simpa using a,fun h'=>absurd h' h⟩
theorem xu2 (ob:Bool) (names:List (List Int)) (l:List Int):(xbh ob names l).2.1≤l.length:=by
 unfold xbh
 by_cases ho:ob=false
 ·rw[if_pos ho];exact Nat.zero_le _
 rw[if_neg ho]
 have hl:=xgc l
 rcases ht:xav l with ⟨name,n,e⟩
 rw[ht] at hl
 simp only at hl ⊢
 have hb:=xcL (l.drop n)
 have hb2:=xcL (l.drop (n+xab (l.drop n)+1))
 rw[List.length_drop] at hb hb2
 split
 ·exact hl
 split
 ·exact Nat.zero_le _
 split
 ·simp only;omega
 rename_i h3
 have h3:n+xab (l.drop n)<l.length:=by
  have:=mt List.drop_eq_nil_iff.2 h3
  omega
 split <;> simp only <;> omega
def xtr (f d:Nat) (ob:Bool) (fin:Int) (names:List (List Int)) (k:Nat) (l name:List Int) (v:Js) (m:Nat):Jl × Nat × Int :=
 if l.drop m=[] then (.nil,m,3) else if xbK (l.drop m)=fin then (.cons name v .nil,m+1,0) else if xbK (l.drop m)≠44 then (.nil,m,4) else
 if (xax f d ob fin (names++[name]) (k+1) (l.drop (m+1+xab (l.drop (m+1))))).2.2≠0 then
  (.nil,m+1+xab (l.drop (m+1))+(xax f d ob fin (names++[name]) (k+1) (l.drop (m+1+xab (l.drop (m+1))))).2.1,(xax f d ob fin (names++[name]) (k+1) (l.drop (m+1+xab (l.drop (m+1))))).2.2)
 else (.cons name v (xax f d ob fin (names++[name]) (k+1) (l.drop (m+1+xab (l.drop (m+1))))).1,m+1+xab (l.drop (m+1))+(xax f d ob fin (names++[name]) (k+1) (l.drop (m+1+xab (l.drop (m+1))))).2.1,0)
theorem xc5 (f d:Nat) (ob:Bool) (fin:Int) (names:List (List Int)) (k:Nat) (l:List Int):xax (f+1) d ob fin names k l =
  if l≠[]∧64≤k then (.nil,0,21) else if (xbh ob names l).2.2≠0 then (.nil,(xbh ob names l).2.1,(xbh ob names l).2.2) else
  if (xai f (d+1) (l.drop (xbh ob names l).2.1)).2.2≠0 then (.nil,(xbh ob names l).2.1+(xai f (d+1) (l.drop (xbh ob names l).2.1)).2.1,(xai f (d+1) (l.drop (xbh ob names l).2.1)).2.2)
  else xtr f d ob fin names k l (xbh ob names l).1 (xai f (d+1) (l.drop (xbh ob names l).2.1)).1 ((xbh ob names l).2.1+(xai f (d+1) (l.drop (xbh ob names l).2.1)).2.1+xab (l.drop ((xbh ob names l).2.1+(xai f (d+1) (l.drop (xbh ob names l).2.1)).2.1))):=by
 rw[xax]
 rfl
theorem xca (f d:Nat) (b:Int) (t:List Int) (h:b=91∨b=123):xai (f+1) d (b :: t) =
  if 4<d then (.nul,0,20) else if xbK (t.drop (xab t))=b+2 then (if b=91 then .arr .nil else .obj .nil,xab t+2,0)
   else if (xax f d (decide (b=123)) (b+2) [] 0 (t.drop (xab t))).2.2≠0 then (.nul,xab t+1+(xax f d (decide (b=123)) (b+2) [] 0 (t.drop (xab t))).2.1,(xax f d (decide (b=123)) (b+2) [] 0 (t.drop (xab t))).2.2)
   else (if b=91 then .arr (xax f d (decide (b=123)) (b+2) [] 0 (t.drop (xab t))).1 else .obj (xax f d (decide (b=123)) (b+2) [] 0 (t.drop (xab t))).1,xab t+1+(xax f d (decide (b=123)) (b+2) [] 0 (t.drop (xab t))).2.1,0):=by
 rw[xai,if_neg (by omega),if_neg (by omega),if_neg (by omega),if_neg (by omega),if_pos h]
def xfs (l:List Int):Js × Nat × Int :=
 match l with
 | []=>(.nul,0,3)
 | b :: t =>
  if b=110 then xcq [110,117,108,108] .nul (b :: t)
  else if b=102 then xcq [102,97,108,115,101] (.bool false) (b :: t)
  else if b=116 then xcq [116,114,117,101] (.bool true) (b :: t)
  else if b=34 then (if (xav (b :: t)).2.2=0 then (.str (xav (b :: t)).1,(xav (b :: t)).2.1,0) else (.nul,(xav (b :: t)).2.1,(xav (b :: t)).2.2))
  else if b=45∨isD b=true then xhi (b :: t)
  else (.nul,0,4)
theorem xej (f d:Nat) (l:List Int) (h:xbK l≠91∧xbK l≠123):xai (f+1) d l=xfs l:=by
 cases l with
 | nil=>rfl
 | cons b t =>
  have h1:¬ (b=91∨b=123):=by rintro(e|e);exact h.1 e;exact h.2 e
  rw[xai,xfs]
  repeat' split
  all_goals first|rfl|exact absurd ‹b=91∨b=123› h1
theorem xwI (l:List Int):(xfs l).2.1≤l.length∧((xfs l).2.2=0→1≤(xfs l).2.1):=by
 cases l with
 | nil=>exact⟨Nat.le_refl _,fun h=>by cases h⟩
 | cons b t =>
  rw[xfs]
  by_cases h1:b=110
  ·rw[if_pos h1]
   obtain⟨a,c⟩:=xiA [110,117,108,108] .nul (b :: t) (by simp)
   exact⟨a,fun h=>(c h).1⟩
  rw[if_neg h1]
  by_cases h2:b=102
  ·rw[if_pos h2]
   obtain⟨a,c⟩:=xiA [102,97,108,115,101] (.bool false) (b :: t) (by simp)
   exact⟨a,fun h=>(c h).1⟩
  rw[if_neg h2]
  by_cases h3:b=116
  ·rw[if_pos h3]
   obtain⟨a,c⟩:=xiA [116,114,117,101] (.bool true) (b :: t) (by simp)
   exact⟨a,fun h=>(c h).1⟩
  rw[if_neg h3]
  by_cases h4:b=34
  ·rw[if_pos h4]
   have ht:=xgc (b :: t)
   have ho:=xsk (b :: t)
   split
   ·rename_i h;exact⟨ht,fun _=>by have:=ho h;simp only;omega⟩
   ·rename_i h;exact⟨ht,fun h'=>absurd h' h⟩
  rw[if_neg h4]
  by_cases h5:b=45∨isD b=true
  ·rw[if_pos h5]
   refine⟨xAj _,fun h=>?_⟩
   obtain⟨n,e1,e2,e3,e4,e5⟩:=xtp _ h
   omega
  rw[if_neg h5]
  exact⟨Nat.zero_le _,fun h=>by cases h⟩
def InV (r:Js × Nat × Int) (n:Nat):Prop:=r.2.1≤n∧(r.2.2=0→1≤r.2.1)
def InL (r:Jl × Nat × Int) (n:Nat):Prop:=r.2.1≤n∧(r.2.2=0→1≤r.2.1)
theorem xvC {l:List Int} {m:Nat} (h:l.drop m≠[]):m<l.length:=by
 have:=mt List.drop_eq_nil_iff.2 h
 omega
theorem xsh {l:List Int} {b:Int} (h:xbK l=b) (hb:b≠-1):1≤l.length:=by
 cases l with
 | nil=>exact absurd h.symm hb
 | cons c t=>simp
theorem xxu (f:Nat):(∀ d l,InV (xai f d l) l.length)∧∀ d ob fin names k l,InL (xax f d ob fin names k l) l.length:=by
 induction f with
 | zero=>exact⟨fun d l=>⟨by rw[xai];exact Nat.le_refl _,fun h=>by rw[xai] at h;cases h⟩,fun d ob fin names k l=>⟨by rw[xax];exact Nat.le_refl _,fun h=>by rw[xax] at h;cases h⟩⟩
 | succ f ih =>
  refine⟨fun d l=>?_,fun d ob fin names k l=>?_⟩
  ·by_cases h:xbK l=91∨xbK l=123
   ·cases l with
    | nil=>rcases h with h|h <;> cases h
    | cons b t =>
     have h:b=91∨b=123:=h
     rw[xca f d b t h]
     have hb:=xcL t
     have hi:=ih.2 d (decide (b=123)) (b+2) [] 0 (t.drop (xab t))
     unfold InL at hi
     rw[List.length_drop] at hi
     unfold InV
     rw[List.length_cons]
     split
     ·exact⟨Nat.zero_le _,fun h=>by cases h⟩
     split
     ·rename_i h2
      have:=xsh h2 (by omega)
      rw[List.length_drop] at this
      exact⟨by simp only;omega,fun _=>by simp only;omega⟩
     split
     ·rename_i h3;exact⟨by simp only;omega,fun h'=>absurd h' h3⟩
     ·exact⟨by simp only;omega,fun _=>by simp only;omega⟩
   ·rw[xej f d l ⟨fun e=>h (.inl e),fun e=>h (.inr e)⟩]
    exact xwI l
  ·rw[xc5]
   have hp:=xu2 ob names l
   generalize xbh ob names l=P at hp ⊢
   have hv:=ih.1 (d+1) (l.drop P.2.1)
   generalize xai f (d+1) (l.drop P.2.1)=V at hv ⊢
   unfold InV at hv
   rw[List.length_drop] at hv
   have hm:=xcL (l.drop (P.2.1+V.2.1))
   rw[List.length_drop] at hm
   have hm:P.2.1+V.2.1+xab (l.drop (P.2.1+V.2.1))≤l.length:=by omega
   generalize P.2.1+V.2.1+xab (l.drop (P.2.1+V.2.1))=m at hm ⊢
   unfold InL
   split
   ·exact⟨Nat.zero_le _,fun h=>by cases h⟩
   split
   ·rename_i h;exact⟨hp,fun h'=>absurd h' h⟩
   split
   ·rename_i h;exact⟨by simp only;omega,fun h'=>absurd h' h⟩
   unfold xtr
   split
   ·exact⟨hm,fun h=>by cases h⟩
   rename_i h4
   have h4:=xvC h4
   split
   ·exact⟨by simp only;omega,fun _=>by simp only;omega⟩
   split
   ·exact⟨hm,fun h=>by cases h⟩
   have hq:=xcL (l.drop (m+1))
   rw[List.length_drop] at hq
   have hq:m+1+xab (l.drop (m+1))≤l.length:=by omega
   have hq1:1≤m+1+xab (l.drop (m+1)):=by omega
   generalize m+1+xab (l.drop (m+1))=q at hq hq1 ⊢
   have hi:=ih.2 d ob fin (names++[P.1]) (k+1) (l.drop q)
   unfold InL at hi
   rw[List.length_drop] at hi
   split
   ·rename_i h;exact⟨by simp only;omega,fun h'=>absurd h' h⟩
   ·exact⟨by simp only;omega,fun _=>by simp only;omega⟩
theorem xAy (f:Nat):(∀ g d l,2*l.length+1≤f→2*l.length+1≤g→xai f d l=xai g d l)∧∀ g d ob fin names k l,2*l.length+2≤f→2*l.length+2≤g→xax f d ob fin names k l=xax g d ob fin names k l:=by
 induction f with
 | zero=>exact⟨fun g d l h=>by omega,fun g d ob fin names k l h=>by omega⟩
 | succ f ih =>
  refine⟨fun g d l hf hg=>?_,fun g d ob fin names k l hf hg=>?_⟩
  ·cases g with
   | zero=>omega
   | succ g =>
    by_cases h:xbK l=91∨xbK l=123
    ·cases l with
     | nil=>rcases h with h|h <;> cases h
     | cons b t =>
      have h:b=91∨b=123:=h
      rw[List.length_cons] at hf hg
      rw[xca f d b t h,xca g d b t h,ih.2 g d _ _ _ _ _ (by rw[List.length_drop];omega) (by rw[List.length_drop];omega)]
    ·have h:xbK l≠91∧xbK l≠123:=⟨fun e=>h (.inl e),fun e=>h (.inr e)⟩
     rw[xej f d l h,xej g d l h]
  ·cases g with
   | zero=>omega
   | succ g =>
    rw[xc5,xc5,ih.1 g (d+1) _ (by rw[List.length_drop];omega) (by rw[List.length_drop];omega)]
    unfold xtr
    by_cases hl:l.length=0
    ·obtain rfl:l=[]:=List.eq_nil_of_length_eq_zero hl
     simp only[List.drop_nil,if_true]
    ·rw[ih.2 g d _ _ _ _ _ (by rw[List.length_drop];omega) (by rw[List.length_drop];omega)]
theorem xpb (s:List Int) (h:4096<s.length):xd5 s=(.nul,0,5):=by rw[xd5,if_pos h]
end Go.Proofs.YtjkgkmmkehnggaaGreatDoor
namespace Go.Proofs.YtjkgkmmkehnggaaGreatDoor
set_option linter.unusedVariables false
set_option linter.unusedSimpArgs false
open Go.RowKit
set_option maxRecDepth 20000
theorem xto (s:ByteArray):∀ b ∈ bI s,0≤b∧b<256:=by
 intro b hb
 unfold bI at hb
 obtain⟨c,_,rfl⟩:=List.mem_map.1 hb
 have:=c.toNat_lt
 omega
theorem xqO (l:List Int) (h:∀ b ∈ l,0≤b∧b<256):bI (str l)=l:=by
 unfold bI
 rw[xbF,List.map_map]
 conv=>rhs;rw[← List.map_id l]
 refine List.map_congr_left (fun c hc=>?_)
 have:=h c hc
 simp
 omega
theorem xxm {s t:ByteArray} (h:bI s=bI t):s=t:=by rw[← xs9 s,h,xs9]
theorem xch (s:ByteArray) (a b:Nat) (h:a≤b):bI (s.extract a b)=((bI s).drop a).take (b - a):=by
 unfold bI
 rw[ByteArray.data_extract,Array.toList_extract,List.extract_eq_take_drop,List.map_take,List.map_drop]
theorem xuY (s:ByteArray) (k:Nat) (h:k<s.size):(bI s).drop k=((s[k]'h).toNat:Int) :: (bI s).drop (k+1):=by
 have hk:k<(bI s).length:=by rw[xaj];exact h
 rw[List.drop_eq_getElem_cons hk]
 congr 1
 simp[bI]
 rfl
theorem xny (s:ByteArray) (k:Nat) (h:k<s.size):(bI s)[k]?=some ((s[k]'h).toNat:Int):=by
 have h1:=xuY s k h
 have hk:k<(bI s).length:=by rw[xaj];exact h
 rw[List.drop_eq_getElem_cons hk] at h1
 injection h1 with h2 _
 rw[List.getElem?_eq_getElem hk,h2]
theorem xCy {c:Int} (h0:0≤c) (h1:c<128):xaY c=[c]:=by
 unfold xaY;rw[if_neg (by omega),if_pos h1]
theorem xCn {c:Int} (h0:128≤c) (h1:c<2048):xaY c=[192+c / 64,128+c % 64]:=by
 unfold xaY;rw[if_neg (by omega),if_neg (by omega),if_pos h1]
theorem xCM {c:Int} (h0:2048≤c) (h1:c<65536) (h2:¬ (55296≤c∧c≤57343)):xaY c=[224+c / 4096,128+c / 64 % 64,128+c % 64]:=by
 unfold xaY;rw[if_neg (by omega),if_neg (by omega),if_neg (by omega),if_pos h1]
theorem xCT {c:Int} (h0:65536≤c) (h1:c≤1114111):xaY c=[240+c / 262144,128+c / 4096 % 64,128+c / 64 % 64,128+c % 64]:=by
 unfold xaY;rw[if_neg (by omega),if_neg (by omega),if_neg (by omega),if_neg (by omega)]
end Go.Proofs.YtjkgkmmkehnggaaGreatDoor
