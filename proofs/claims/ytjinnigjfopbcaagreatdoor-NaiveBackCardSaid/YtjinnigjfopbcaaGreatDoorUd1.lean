/- dJa dJb dLa dNa dNb dNm dPa dJc dJh dJg dJj dJe dJf dJp. -/
import Derived.Deep.Slices
import Derived.Test.YtjinnigjfopbcaaGreatDoorUb5
namespace Go.Proofs.YtjinnigjfopbcaaGreatDoor
set_option linter.unusedVariables false
set_option linter.unusedSimpArgs false
set_option maxRecDepth 20000
def xa3 (c:Int):List Int :=
 if c<0∨1114111<c∨(55296≤c∧c≤57343) then [] else if c<128 then [c] else if c<2048 then [192+c / 64,128+c % 64]
 else if c<65536 then [224+c / 4096,128+c / 64 % 64,128+c % 64] else [240+c / 262144,128+c / 4096 % 64,128+c / 64 % 64,128+c % 64]
def xqe (b0 b1 b2:Int):List Int→List Int
 | []=>[]
 | b3 :: _=>if xa3 (64*(64*(64*(b0 % 8)+b1 % 64)+b2 % 64)+b3 % 64)=[b0,b1,b2,b3] then [b0,b1,b2,b3] else []
def xnr (b0 b1:Int):List Int→List Int
 | []=>[]
 | b2 :: t=>if xa3 (64*(64*(b0 % 16)+b1 % 64)+b2 % 64)=[b0,b1,b2] then [b0,b1,b2] else xqe b0 b1 b2 t
def xi7 (b0:Int):List Int→List Int
 | []=>[]
 | b1 :: t=>if xa3 (64*(b0 % 32)+b1 % 64)=[b0,b1] then [b0,b1] else xnr b0 b1 t
def xaw:List Int→List Int
 | []=>[]
 | b0 :: t=>if xa3 b0=[b0] then [b0] else xi7 b0 t
theorem xbf (c:Int):xa3 c=[]∨(0≤c∧c<128∧xa3 c=[c])∨(128≤c∧c<2048∧xa3 c=[192+c / 64,128+c % 64])∨(2048≤c∧c<65536∧¬ (55296≤c∧c≤57343)∧xa3 c=[224+c / 4096,128+c / 64 % 64,128+c % 64]) ∨
  (65536≤c∧c≤1114111∧xa3 c=[240+c / 262144,128+c / 4096 % 64,128+c / 64 % 64,128+c % 64]):=by
 unfold xa3
 by_cases h0:c<0∨1114111<c∨(55296≤c∧c≤57343)
 ·left;rw[if_pos h0]
 rw[if_neg h0]
 by_cases h1:c<128
 ·right;left;rw[if_pos h1];exact⟨by omega,h1,rfl⟩
 rw[if_neg h1]
 by_cases h2:c<2048
 ·right;right;left;rw[if_pos h2];exact⟨by omega,h2,rfl⟩
 rw[if_neg h2]
 by_cases h3:c<65536
 ·right;right;right;left;rw[if_pos h3];exact⟨by omega,h3,by omega,rfl⟩
 rw[if_neg h3]
 right;right;right;right
 exact⟨by omega,by omega,rfl⟩
theorem xeL (c:Int):xa3 c=[]↔(c<0∨1114111<c∨(55296≤c∧c≤57343)):=by
 constructor
 ·intro h
  unfold xa3 at h
  by_cases h0:c<0∨1114111<c∨(55296≤c∧c≤57343)
  ·exact h0
  rw[if_neg h0] at h
  split at h
  ·cases h
  split at h
  ·cases h
  split at h <;> cases h
 ·intro h;unfold xa3;rw[if_pos h]
theorem xf0 (c:Int):(xa3 c).length≤4:=by
 rcases xbf c with h|⟨_,_,h⟩|⟨_,_,h⟩|⟨_,_,_,h⟩|⟨_,_,h⟩ <;> rw[h] <;> simp
theorem xgJ (c:Int):∀ b ∈ xa3 c,0≤b∧b<256:=by
 intro b hb
 rcases xbf c with h|⟨h1,h2,h⟩|⟨h1,h2,h⟩|⟨h1,h2,_,h⟩|⟨h1,h2,h⟩ <;> rw[h] at hb <;> simp at hb <;> omega
theorem xrN (c:Int) (hc:128≤c):∀ b ∈ xa3 c,128≤b:=by
 intro b hb
 rcases xbf c with h|⟨h1,h2,h⟩|⟨h1,h2,h⟩|⟨h1,h2,_,h⟩|⟨h1,h2,h⟩ <;> rw[h] at hb <;> simp at hb <;> omega
theorem xiv (c b0:Int) (h0:128≤b0):xa3 c≠[b0]:=by
 rcases xbf c with h|⟨h1,h2,h⟩|⟨h1,h2,h⟩|⟨h1,h2,_,h⟩|⟨h1,h2,h⟩ <;> rw[h] <;> simp
 omega
theorem xm8 (c b0 b1:Int) (h:xa3 c=[b0,b1]):194≤b0∧b0≤223∧128≤b1∧b1<192∧c=64*(b0 % 32)+b1 % 64:=by
 rcases xbf c with h'|⟨h1,h2,h'⟩|⟨h1,h2,h'⟩|⟨h1,h2,_,h'⟩|⟨h1,h2,h'⟩ <;> rw[h'] at h <;> simp at h
 omega
theorem xvB (c b0 b1 b2:Int) (h:xa3 c=[b0,b1,b2]):224≤b0∧b0≤239∧128≤b1∧b1<192∧128≤b2∧b2<192∧c=64*(64*(b0 % 16)+b1 % 64)+b2 % 64:=by
 rcases xbf c with h'|⟨h1,h2,h'⟩|⟨h1,h2,h'⟩|⟨h1,h2,_,h'⟩|⟨h1,h2,h'⟩ <;> rw[h'] at h <;> simp at h
 omega
theorem xfq (c:Int) (t:List Int) (h:xa3 c≠[]):xaw (xa3 c++t)=xa3 c:=by
 rcases xbf c with h'|⟨h1,h2,h'⟩|⟨h1,h2,h'⟩|⟨h1,h2,h3,h'⟩|⟨h1,h2,h'⟩
 ·exact absurd h' h
 ·rw[h',List.singleton_append,xaw,if_pos h']
 ·rw[h']
  have e:64*((192+c / 64) % 32)+(128+c % 64) % 64=c:=by omega
  rw[List.cons_append,List.cons_append,List.nil_append,xaw,if_neg (xiv _ _ (by omega)),xi7,e,if_pos h']
 ·rw[h']
  have e:64*(64*((224+c / 4096) % 16)+(128+c / 64 % 64) % 64)+(128+c % 64) % 64=c:=by omega
  rw[List.cons_append,List.cons_append,List.cons_append,List.nil_append,xaw,if_neg (xiv _ _ (by omega)),xi7,if_neg (fun hq=>by have:=xm8 _ _ _ hq;omega),xnr,e,if_pos h']
 ·rw[h']
  have e:64*(64*(64*((240+c / 262144) % 8)+(128+c / 4096 % 64) % 64)+(128+c / 64 % 64) % 64)+(128+c % 64) % 64=c:=by omega
  rw[List.cons_append,List.cons_append,List.cons_append,List.cons_append,List.nil_append,xaw,if_neg (xiv _ _ (by omega)),xi7,if_neg (fun hq=>by have:=xm8 _ _ _ hq;omega),xnr,if_neg (fun hq=>by have:=xvB _ _ _ _ hq;omega),xqe,e,if_pos h']
theorem xc4 (l:List Int) (h:xaw l≠[]):∃ c t,xa3 c=xaw l∧l=xaw l++t:=by
 cases l with
 | nil=>exact absurd rfl h
 | cons b0 t =>
  rw[xaw] at h ⊢
  split
  ·exact⟨b0,t,by assumption,rfl⟩
  rename_i n0
  rw[if_neg n0] at h
  cases t with
  | nil=>exact absurd rfl h
  | cons b1 t =>
   rw[xi7] at h ⊢
   split
   ·exact⟨_,t,by assumption,rfl⟩
   rename_i n1
   rw[if_neg n1] at h
   cases t with
   | nil=>exact absurd rfl h
   | cons b2 t =>
    rw[xnr] at h ⊢
    split
    ·exact⟨_,t,by assumption,rfl⟩
    rename_i n2
    rw[if_neg n2] at h
    cases t with
    | nil=>exact absurd rfl h
    | cons b3 t =>
     rw[xqe] at h ⊢
     split
     ·exact⟨_,t,by assumption,rfl⟩
     rename_i n3
     rw[if_neg n3] at h
     exact absurd rfl h
theorem xir (l:List Int):(xaw l).length≤l.length∧(xaw l).length≤4:=by
 by_cases h:xaw l=[]
 ·rw[h];simp
 ·obtain⟨c,t,h1,h2⟩:=xc4 l h
  refine⟨?_,by rw[← h1];exact xf0 c⟩
  have:=congrArg List.length h2
  rw[List.length_append] at this
  omega
theorem xjK (l:List Int) (h:xaw l≠[]):l.take (xaw l).length=xaw l:=by
 obtain⟨c,t,h1,h2⟩:=xc4 l h
 have e:=congrArg (List.take (xaw l).length) h2
 rw[List.take_left' rfl] at e
 exact e
inductive Val:List Int→Nat→Prop
 | nil:Val [] 0
 | cons (c:Int) (l:List Int) (n:Nat):xa3 c≠[]→Val l n→Val (xa3 c++l) (n+1)
def xbW:Nat→List Int→Int
 | 0,l=>if l=[] then 0 else -1
 | f+1,l=>if l=[] then 0 else if xaw l=[] then -1 else if xbW f (l.drop (xaw l).length)<0 then -1 else xbW f (l.drop (xaw l).length)+1
def xas (l:List Int):Int:=xbW l.length l
theorem xes:∀ (f:Nat) (l:List Int),-1≤xbW f l
 | 0,l=>by rw[xbW];split <;> omega
 | f+1,l=>by
  have:=xes f (l.drop (xaw l).length)
  rw[xbW]
  split
  ·omega
  split
  ·omega
  split <;> omega
theorem xuO {l:List Int} {n:Nat} (h:Val l n) (hl:l≠[]):∃ c m k,xa3 c≠[]∧l=xa3 c++m∧n=k+1∧Val m k:=by
 cases h with
 | nil=>exact absurd rfl hl
 | cons c m k h1 h2=>exact⟨c,m,k,h1,rfl,rfl,h2⟩
theorem xgZ:∀ (f:Nat) (l:List Int) (n:Nat),l.length≤f→Val l n→xbW f l=n
 | 0,l,n,hf,h=>by
  have:l=[]:=List.eq_nil_of_length_eq_zero (by omega)
  subst this
  cases hn:n with
  | zero=>rfl
  | succ k =>
   subst hn
   generalize hl:([]:List Int)=l at h
   cases h with
   | cons c m k h1 h2=>rcases List.append_eq_nil_iff.1 hl.symm with ⟨h3,_⟩;exact absurd h3 h1
 | f+1,l,n,hf,h=>by
  by_cases hl:l=[]
  ·subst hl
   rw[xbW,if_pos rfl]
   generalize hl:([]:List Int)=l at h
   cases h with
   | nil=>rfl
   | cons c m k h1 h2=>rcases List.append_eq_nil_iff.1 hl.symm with ⟨h3,_⟩;exact absurd h3 h1
  ·obtain⟨c,m,k,h1,rfl,rfl,h2⟩:=xuO h hl
   rw[xbW,if_neg hl,xfq c m h1,if_neg h1,List.drop_left]
   have hp:0<(xa3 c).length:=List.length_pos_iff.2 h1
   rw[List.length_append] at hf
   rw[xgZ f m k (by omega) h2,if_neg (by omega)]
   push_cast
   rfl
theorem xgL:∀ (f:Nat) (l:List Int),0≤xbW f l→∃ n,Val l n∧xbW f l=n
 | 0,l,h=>by
  rw[xbW] at h ⊢
  split at h
  ·rename_i hl;subst hl;exact⟨0,.nil,rfl⟩
  ·omega
 | f+1,l,h=>by
  rw[xbW] at h ⊢
  by_cases hl:l=[]
  ·subst hl;rw[if_pos rfl];exact⟨0,.nil,rfl⟩
  rw[if_neg hl] at h ⊢
  by_cases hr:xaw l=[]
  ·rw[if_pos hr] at h;omega
  rw[if_neg hr] at h ⊢
  split at h
  ·omega
  rename_i hc
  obtain⟨n,h1,h2⟩:=xgL f (l.drop (xaw l).length) (by omega)
  rw[if_neg hc,h2]
  obtain⟨c,t,h3,h4⟩:=xc4 l hr
  refine⟨n+1,?_,by push_cast;rfl⟩
  have h5:l.drop (xaw l).length=t:=by
   have e:=congrArg (List.drop (xaw l).length) h4
   rw[List.drop_left' rfl] at e
   exact e
  rw[h5] at h1
  rw[h4,← h3]
  exact .cons c t n (by rw[h3];exact hr) h1
theorem xmR {l:List Int} {n:Nat} (h:Val l n):xas l=n:=xgZ _ l n (Nat.le_refl _) h
theorem xmw {l:List Int} (h:0≤xas l):∃ n,Val l n∧xas l=n:=xgL l.length l h
theorem xtw {l:List Int} (h:xas l<0):xas l=-1:=by have:=xes l.length l;unfold xas at h ⊢;omega
def xy4 (d:Int):Int:=if d<10 then 48+d else 87+d
def xuV (c:Int):List Int :=
 if c=34 then [92,34] else if c=92 then [92,92] else if c=8 then [92,98] else if c=9 then [92,116] else if c=10 then [92,110] else if c=12 then [92,102] else if c=13 then [92,114]
 else if c<32 then [92,117,48,48,xy4 (c / 16),xy4 (c % 16)] else [c]
def xpJ (b:Int):List Int:=if b<128 then xuV b else [b]
def xdp (l:List Int):List Int:=l.flatMap xpJ
def xkL (l:List Int):List Int × Int:=if xas l<0 then ([],4) else (34 :: xdp l++[34],0)
def xfw (c:Int):Int:=if 48≤c∧c≤57 then c - 48 else if 97≤c∧c≤102 then c - 87 else if 65≤c∧c≤70 then c - 55 else -1
def xv0 (i:Nat) (b:Int):Prop:=(i=0∧b≠92)∨(i=1∧b≠117)∨(1<i∧xfw b<0)
instance (i:Nat) (b:Int):Decidable (xv0 i b):=by unfold xv0;infer_instance
def xaW:Nat→Nat→Int→List Int→Int × Int
 | 0,_,c,_=>(c,0)
 | _+1,_,_,[]=>(0,3)
 | f+1,i,c,b :: t=>if xv0 i b then (0,4) else xaW f (i+1) (if 1<i then 16*c+xfw b else c) t
def xan (l:List Int):Int × Int:=xaW 6 0 0 l
def xvm (b:Int):Option Int :=
 if b=34 then some 34 else if b=92 then some 92 else if b=47 then some 47 else if b=98 then some 8 else if b=102 then some 12 else if b=110 then some 10 else if b=114 then some 13 else if b=116 then some 9 else none
inductive St
 | short
 | form
 | fin
 | piece (t:List Int) (n:Nat)
deriving DecidableEq
def xph (e:Int):St:=if e=3 then .short else .form
def xkP (l:List Int):St :=
 match l with
 | _ :: b :: _=>match xvm b with
  | some x=>.piece [x] 2
  | none=>if (xan l).2≠0 then xph (xan l).2 else if (xan l).1<55296∨57343<(xan l).1 then .piece (xa3 (xan l).1) 6 else if 56319<(xan l).1 then .form else
   if (xan (l.drop 6)).2≠0 then xph (xan (l.drop 6)).2 else if (xan (l.drop 6)).1<56320∨57343<(xan (l.drop 6)).1 then .form
   else .piece (xa3 (65536+1024*((xan l).1 - 55296)+(xan (l.drop 6)).1 - 56320)) 12
 | _=>.short
def xbh:List Int→St
 | []=>.short
 | b :: t=>if b=34 then .fin else if b=92 then xkP (b :: t) else if xaw (b :: t)=[]∨b<32 then .form else .piece (xaw (b :: t)) (xaw (b :: t)).length
def xaZ:Nat→List Int→Nat→List Int→List Int × Nat × Int
 | 0,l,p,_=>([],p+l.length,3)
 | f+1,l,p,out=>match xbh l with
  | .short=>([],p+l.length,3)
  | .form=>([],p,4)
  | .fin=>(out,p+1,0)
  | .piece t n=>xaZ f (l.drop n) (p+n) (out++t)
def xbg (l:List Int) (at_:Int):List Int × Nat × Int :=
 if at_<0∨(l.length:Int)<at_ then ([],0,2) else if at_=l.length then ([],at_.toNat,3) else if l.getD at_.toNat 0≠34 then ([],at_.toNat,4)
 else xaZ l.length (l.drop (at_.toNat+1)) (at_.toNat+1) []
theorem xrJ:∀ (f i:Nat) (c:Int) (l:List Int),(xaW f i c l).2=0→f≤l.length
 | 0,_,_,_,_=>Nat.zero_le _
 | f+1,i,c,[],h=>by rw[xaW] at h;cases h
 | f+1,i,c,b :: t,h=>by
  rw[xaW] at h
  split at h
  ·cases h
  ·have:=xrJ f _ _ t h
   rw[List.length_cons]
   omega
theorem xiq:∀ (f i:Nat) (c:Int) (l:List Int),(xaW f i c l).2=0∨(xaW f i c l).2=3∨(xaW f i c l).2=4
 | 0,_,_,_=>.inl rfl
 | f+1,i,c,[]=>.inr (.inl rfl)
 | f+1,i,c,b :: t=>by
  rw[xaW]
  split
  ·exact .inr (.inr rfl)
  ·exact xiq f _ _ t
theorem xeI:∀ (f i:Nat) (c:Int) (l x:List Int),f≤l.length→xaW f i c (l.take f++x)=xaW f i c l
 | 0,_,_,_,_,_=>by rw[xaW,xaW]
 | f+1,i,c,[],x,h=>by simp at h
 | f+1,i,c,b :: t,x,h=>by
  rw[List.take_succ_cons,List.cons_append,xaW,xaW]
  rw[List.length_cons] at h
  split
  ·rfl
  ·exact xeI f _ _ t x (by omega)
theorem xh3:∀ (f i:Nat) (c:Int) (l:List Int),l.length<f→(xaW f i c l).2=3∨(xaW f i c l).2=4
 | 0,_,_,_,h=>by omega
 | f+1,i,c,[],h=>.inl rfl
 | f+1,i,c,b :: t,h=>by
  rw[xaW]
  rw[List.length_cons] at h
  split
  ·exact .inr rfl
  ·exact xh3 f _ _ t (by omega)
theorem xq1 (c:Int):xfw c<16∧-1≤xfw c:=by
 unfold xfw
 split
 ·omega
 split
 ·omega
 split <;> omega
theorem xmE:∀ (f i:Nat) (c:Int) (l:List Int),0≤c→(xaW f i c l).2=0→0≤(xaW f i c l).1
 | 0,_,c,_,h0,_=>h0
 | f+1,i,c,[],h0,h=>by rw[xaW] at h;cases h
 | f+1,i,c,b :: t,h0,h=>by
  rw[xaW] at h ⊢
  split at h
  ·cases h
  ·rename_i hb
   rw[if_neg hb]
   refine xmE f _ _ t ?_ h
   split
   ·rename_i hi
    have:¬ xfw b<0:=fun hd=>hb (.inr (.inr ⟨hi,hd⟩))
    omega
   ·exact h0
theorem xrG:∀ (f i:Nat) (c:Int) (l:List Int) (m:Int),0≤c→c<m→(xaW f i c l).2=0→(xaW f i c l).1<m*16 ^ f
 | 0,_,c,_,m,h0,h1,_=>by rw[xaW];omega
 | f+1,i,c,[],m,h0,h1,h=>by rw[xaW] at h;cases h
 | f+1,i,c,b :: t,m,h0,h1,h=>by
  rw[xaW] at h ⊢
  split at h
  ·cases h
  ·rename_i hb
   rw[if_neg hb]
   have hd:=xq1 b
   have e:m*16 ^ (f+1)=(16*m)*16 ^ f:=by rw[Int.pow_succ];rw[Int.mul_comm (16 ^ f) 16,← Int.mul_assoc,Int.mul_comm m 16]
   rw[e]
   refine xrG f _ _ t (16*m) ?_ ?_ h
   ·split
    ·rename_i hi
     have:¬ xfw b<0:=fun hd=>hb (.inr (.inr ⟨hi,hd⟩))
     omega
    ·exact h0
   ·split <;> omega
theorem xla (l:List Int) (h:(xan l).2=0):0≤(xan l).1∧(xan l).1<65536:=by
 refine⟨xmE 6 0 0 l (by omega) h,?_⟩
 unfold xan at h ⊢
 match l,h with
 | [],h=>rw[xaW] at h;cases h
 | [b],h =>
  rw[xaW] at h
  split at h
  ·cases h
  ·rw[xaW] at h;cases h
 | b :: b1 :: t,h =>
  rw[xaW] at h ⊢
  split at h
  ·cases h
  rename_i h0
  rw[if_neg h0]
  rw[xaW] at h ⊢
  split at h
  ·cases h
  rename_i h1
  rw[if_neg h1]
  have e0:(if 1<0+1 then 16*(if 1<0 then 16*0+xfw b else 0)+xfw b1 else if 1<0 then 16*0+xfw b else 0)=0:=by simp
  rw[e0] at h ⊢
  have:=xrG 4 (0+1+1) 0 t 1 (by omega) (by omega) h
  omega
theorem xif {l:List Int} (h:(xan l).2=0):6≤l.length:=xrJ 6 0 0 l h
theorem xb9 (e:Int):xph e=.short∨xph e=.form:=by
 unfold xph
 split
 ·exact .inl rfl
 ·exact .inr rfl
theorem xsn {b x:Int} (h:xvm b=some x):xa3 x=[x]∧0≤x∧x<128:=by
 unfold xvm at h
 repeat' (split at h)
 all_goals first|(cases h;done)|(injection h with h;subst h;exact⟨by decide,by omega,by omega⟩)
theorem xdX (a b:Int) (t:List Int):xkP (a :: b :: t)=match xvm b with
  | some x=>.piece [x] 2
  | none=>if (xan (a :: b :: t)).2≠0 then xph (xan (a :: b :: t)).2 else if (xan (a :: b :: t)).1<55296∨57343<(xan (a :: b :: t)).1 then .piece (xa3 (xan (a :: b :: t)).1) 6 else if 56319<(xan (a :: b :: t)).1 then .form else
   if (xan ((a :: b :: t).drop 6)).2≠0 then xph (xan ((a :: b :: t).drop 6)).2 else if (xan ((a :: b :: t).drop 6)).1<56320∨57343<(xan ((a :: b :: t).drop 6)).1 then .form
   else .piece (xa3 (65536+1024*((xan (a :: b :: t)).1 - 55296)+(xan ((a :: b :: t).drop 6)).1 - 56320)) 12:=rfl
structure PieceOk (l:List Int) (t:List Int) (n:Nat):Prop where
 one:1≤n
 len:n≤l.length
 rune:∃ c,xa3 c=t
 ne:t≠[]
 more:∀ x,xbh (l.take n++x)=.piece t n
 cut:∀ k,k<n→xbh (l.take k)=.short∨xbh (l.take k)=.form
theorem xeq (t:List Int):xbh (92 :: t)=xkP (92 :: t):=rfl
theorem xwX (b:Int) (t:List Int) (h:xvm b=none) (hf:(xan (92 :: b :: t)).2=3∨(xan (92 :: b :: t)).2=4):xkP (92 :: b :: t)=.short∨xkP (92 :: b :: t)=.form:=by
 rw[xdX,h]
 simp only
 rw[if_pos (by omega)]
 exact xb9 _
theorem xbv {l:List Int} {k:Nat} (h:k≤l.length):(l.take k).length=k:=by rw[List.length_take];omega
theorem xjS (b:Int) (s:List Int) (t:List Int) (n:Nat) (h:xkP (92 :: b :: s)=.piece t n):PieceOk (92 :: b :: s) t n:=by
 rw[xdX] at h
 cases h2:xvm b with
 | some x =>
  rw[h2] at h
  simp only at h
  injection h with h3 h4
  subst h3 h4
  obtain⟨e1,e2,e3⟩:=xsn h2
  refine⟨by omega,by simp,⟨x,e1⟩,by simp,fun y=>?_,fun k hk=>?_⟩
  ·show xkP (92 :: b :: ([]++y))=_
   rw[xdX,h2]
  ·match k,hk with
   | 0,_=>exact .inl rfl
   | 1,_=>exact .inl rfl
 | none =>
  rw[h2] at h
  simp only at h
  by_cases h3:(xan (92 :: b :: s)).2=0
  ·rw[if_neg (by simpa using h3)] at h
   have l6:=xif h3
   have hv:=xla _ h3
   have cut6:∀ k,k<6→xbh ((92 :: b :: s).take k)=.short∨xbh ((92 :: b :: s).take k)=.form:=by
    intro k hk
    match k,hk with
    | 0,_=>exact .inl rfl
    | 1,_=>exact .inl rfl
    | k+2,hk =>
     rw[List.take_succ_cons,List.take_succ_cons,xeq]
     refine xwX b _ h2 ?_
     refine xh3 6 0 0 _ ?_
     simp only[List.length_cons,List.length_take]
     omega
   have more6:∀ y,xan ((92 :: b :: s).take 6++y)=xan (92 :: b :: s):=fun y=>xeI 6 0 0 _ y l6
   by_cases h4:(xan (92 :: b :: s)).1<55296∨57343<(xan (92 :: b :: s)).1
   ·rw[if_pos h4] at h
    injection h with h5 h6
    subst h5 h6
    refine⟨by omega,l6,⟨_,rfl⟩,fun e=>?_,fun y=>?_,cut6⟩
    ·have:=(xeL _).1 e
     omega
    ·have hm:=more6 y
     rw[List.take_succ_cons,List.take_succ_cons,List.cons_append,List.cons_append] at hm ⊢
     rw[xeq,xdX,h2]
     simp only
     rw[hm,if_neg (by simpa using h3),if_pos h4]
   ·rw[if_neg h4] at h
    by_cases h5:56319<(xan (92 :: b :: s)).1
    ·rw[if_pos h5] at h;cases h
    rw[if_neg h5] at h
    by_cases h6:(xan ((92 :: b :: s).drop 6)).2=0
    ·rw[if_neg (by simpa using h6)] at h
     by_cases h7:(xan ((92 :: b :: s).drop 6)).1<56320∨57343<(xan ((92 :: b :: s).drop 6)).1
     ·rw[if_pos h7] at h;cases h
     rw[if_neg h7] at h
     injection h with h8 h9
     subst h8 h9
     have l12:=xif h6
     rw[List.length_drop] at l12
     refine⟨by omega,by omega,⟨_,rfl⟩,fun e=>?_,fun y=>?_,fun k hk=>?_⟩
     ·have:=(xeL _).1 e
      omega
     ·have e12:(92 :: b :: s).take 12++y=(92 :: b :: s).take 6++(((92 :: b :: s).drop 6).take 6++y):=by
       rw[← List.append_assoc]
       congr 1
       rw[show (12:Nat)=6+6 from rfl,List.take_add]
      have hm:=more6 (((92 :: b :: s).drop 6).take 6++y)
      rw[← e12] at hm
      have hd:((92 :: b :: s).take 12++y).drop 6=((92 :: b :: s).drop 6).take 6++y:=by
       rw[e12]
       exact List.drop_left' (xbv l6)
      have hm2:xan (((92 :: b :: s).take 12++y).drop 6)=xan ((92 :: b :: s).drop 6):=by
       rw[hd]
       exact xeI 6 0 0 _ y (by rw[List.length_drop];omega)
      rw[List.take_succ_cons,List.take_succ_cons,List.cons_append,List.cons_append] at hm hm2 ⊢
      rw[xeq,xdX,h2]
      simp only
      rw[hm,hm2,if_neg (by simpa using h3),if_neg h4,if_neg h5,if_neg (by simpa using h6),if_neg h7]
     ·by_cases hk6:k<6
      ·exact cut6 k hk6
      ·have e12:(92 :: b :: s).take k=(92 :: b :: s).take 6++((92 :: b :: s).drop 6).take (k - 6):=by
        conv=>lhs;rw[show k=6+(k - 6) by omega,List.take_add]
       have hm:=more6 (((92 :: b :: s).drop 6).take (k - 6))
       rw[← e12] at hm
       have hd:((92 :: b :: s).take k).drop 6=((92 :: b :: s).drop 6).take (k - 6):=by
        rw[e12]
        exact List.drop_left' (xbv l6)
       have hc:(xan (((92 :: b :: s).take k).drop 6)).2=3∨(xan (((92 :: b :: s).take k).drop 6)).2=4:=by
        rw[hd]
        refine xh3 6 0 0 _ ?_
        rw[List.length_take]
        omega
       obtain⟨j,rfl⟩:∃ j,k=j+2:=⟨k - 2,by omega⟩
       rw[List.take_succ_cons,List.take_succ_cons] at hm hc ⊢
       rw[xeq,xdX,h2]
       simp only
       rw[hm,if_neg (by simpa using h3),if_neg h4,if_neg h5,if_pos (by omega)]
       exact xb9 _
    ·rw[if_pos h6] at h
     rcases xb9 (xan ((92 :: b :: s).drop 6)).2 with e|e <;> rw[e] at h <;> cases h
  ·rw[if_pos h3] at h
   rcases xb9 (xan (92 :: b :: s)).2 with e|e <;> rw[e] at h <;> cases h
theorem xtN (c:Int) (k:Nat) (hk:k<(xa3 c).length):xaw ((xa3 c).take k)=[]:=by
 by_cases h:xaw ((xa3 c).take k)=[]
 ·exact h
 exfalso
 obtain⟨d,t,h1,h2⟩:=xc4 _ h
 have e:xa3 c=xa3 d++(t++(xa3 c).drop k):=by
  conv=>lhs;rw[← List.take_append_drop k (xa3 c),h2,← h1,List.append_assoc]
 have hd:xa3 d≠[]:=by rw[h1];exact h
 have hr:=xfq d (t++(xa3 c).drop k) hd
 rw[← e] at hr
 have hc:xa3 c≠[]:=by intro e;rw[e] at hk;simp at hk
 have hr2:=xfq c [] hc
 rw[List.append_nil] at hr2
 rw[hr2] at hr
 have h3:=congrArg List.length e
 have h4:=congrArg List.length hr
 have h5:((xa3 c).drop k).length=(xa3 c).length - k:=List.length_drop
 rw[List.length_append,List.length_append] at h3
 omega
theorem xcM (l:List Int) (t:List Int) (n:Nat) (h:xbh l=.piece t n):PieceOk l t n:=by
 cases l with
 | nil=>cases h
 | cons b s =>
  rw[xbh] at h
  by_cases h1:b=34
  ·rw[if_pos h1] at h;cases h
  rw[if_neg h1] at h
  by_cases h2:b=92
  ·rw[if_pos h2] at h
   subst h2
   cases s with
   | nil=>cases h
   | cons b1 s=>exact xjS b1 s t n h
  rw[if_neg h2] at h
  by_cases h3:xaw (b :: s)=[]∨b<32
  ·rw[if_pos h3] at h;cases h
  rw[if_neg h3] at h
  injection h with h4 h5
  subst h4 h5
  have hne:xaw (b :: s)≠[]:=fun e=>h3 (.inl e)
  obtain⟨c,u,e1,e2⟩:=xc4 _ hne
  obtain⟨r,hr⟩:∃ r,xa3 c=b :: r:=by
   cases hc:xa3 c with
   | nil=>rw[← e1] at hne;exact absurd hc hne
   | cons x r =>
    rw[← e1,hc,List.cons_append] at e2
    injection e2 with e3 _
    exact⟨r,by rw[e3]⟩
  have htk:=xjK _ hne
  refine⟨?_,(xir _).1,⟨c,e1⟩,hne,fun x=>?_,fun k hk=>?_⟩
  ·have:=List.length_pos_iff.2 hne;omega
  ·rw[htk,← e1,hr,List.cons_append,xbh,if_neg h1,if_neg h2,← List.cons_append,← hr,xfq c x (by rw[e1];exact hne),if_neg (by rw[hr];intro hq;rcases hq with hq|hq;cases hq;exact h3 (.inr hq))]
  ·have hkl:(b :: s).take k=(xa3 c).take k:=by
    rw[e1,← htk,List.take_take,Nat.min_eq_left (by omega)]
   rw[hkl]
   have hrc:=xtN c k (by rw[e1];exact hk)
   cases k with
   | zero=>exact .inl rfl
   | succ k =>
    rw[hr,List.take_succ_cons] at hrc ⊢
    right
    rw[xbh,if_neg h1,if_neg h2,if_pos (.inl hrc)]
mutual
inductive Js
 | nul
 | bool (b:Bool)
 | num (n:Int)
 | str (s:List Int)
 | arr (l:Jl)
 | obj (l:Jl)
 | bad
inductive Jl
 | nil
 | cons (name:List Int) (v:Js) (l:Jl)
end
def Jl.length:Jl→Nat
 | .nil=>0
 | .cons _ _ l=>l.length+1
def xi6:Int:=9007199254740991
mutual
def xe4 (d:Nat):Js→Int
 | .nul=>0
 | .bool _=>0
 | .num n=>if xi6<n∨n < -xi6 then 11 else 0
 | .str s=>if xas s<0 then 4 else 0
 | .arr l=>if 4<d then 20 else if 64<l.length then 21 else xfQ false d [] l
 | .obj l=>if 4<d then 20 else if 64<l.length then 21 else xfQ true d [] l
 | .bad=>14
def xfQ (ob:Bool) (d:Nat) (names:List (List Int)):Jl→Int
 | .nil=>0
 | .cons n v l=>if ob=true∧xas n<0 then 4 else if ob=true∧n ∈ names then 22 else if xe4 (d+1) v≠0 then xe4 (d+1) v else xfQ ob d (names++[n]) l
end
def isB (b:Int):Bool:=b == 32 || b == 9 || b == 10 || b == 13
def xaa:List Int→Nat
 | []=>0
 | b :: t=>if isB b then xaa t+1 else 0
def isN (b:Int):Bool:=(48≤b && b≤57) || b == 43 || b == 45 || b == 46 || b == 101 || b == 69
def xb8:List Int→Nat
 | []=>0
 | b :: t=>if isN b then xb8 t+1 else 0
def isD (b:Int):Bool:=48≤b && b≤57
def xhE (l:List Int):Int:=l.foldl (fun n c=>10*n+(c - 48)) 0
def xaY:List Int→List Int
 | []=>[]
 | b :: t=>if b=45 then t else b :: t
def xfd:List Int→Bool
 | []=>false
 | b :: _=>b == 45
def xl8 (t:List Int):Prop:=xaY t=[]∨(xaY t).head?=some 48∧(1<(xaY t).length∨xfd t=true)∨¬ (xaY t).all isD=true
instance (t:List Int):Decidable (xl8 t):=by unfold xl8;infer_instance
def xhi (l:List Int):Js × Nat × Int :=
 if xl8 (l.take (xb8 l)) then (.nul,0,4) else if xi6<xhE (xaY (l.take (xb8 l))) then (.nul,0,11)
 else (.num (if xfd (l.take (xb8 l)) then - xhE (xaY (l.take (xb8 l))) else xhE (xaY (l.take (xb8 l)))),xb8 l,0)
def xb3:List Int→List Int→Nat→Nat × Int
 | [],_,i=>(i,0)
 | _ :: _,[],i=>(i,3)
 | c :: w,b :: t,i=>if b=c then xb3 w t (i+1) else (0,4)
def xcn (w:List Int) (v:Js) (l:List Int):Js × Nat × Int:=if (xb3 w l 0).2=0 then (v,(xb3 w l 0).1,0) else (.nul,(xb3 w l 0).1,(xb3 w l 0).2)
def xay:List Int→List Int × Nat × Int
 | []=>([],0,3)
 | b :: t=>if b=34 then xaZ (t.length+1) t 1 [] else ([],0,4)
def xbH (l:List Int):Int:=l.headD (-1)
mutual
def xai:Nat→Nat→List Int→Js × Nat × Int
 | 0,_,l=>(.nul,l.length,3)
 | _+1,_,[]=>(.nul,0,3)
 | f+1,d,b :: t =>
  if b=110 then xcn [110,117,108,108] .nul (b :: t)
  else if b=102 then xcn [102,97,108,115,101] (.bool false) (b :: t)
  else if b=116 then xcn [116,114,117,101] (.bool true) (b :: t)
  else if b=34 then (if (xay (b :: t)).2.2=0 then (.str (xay (b :: t)).1,(xay (b :: t)).2.1,0) else (.nul,(xay (b :: t)).2.1,(xay (b :: t)).2.2))
  else if b=91∨b=123 then
   (if 4<d then (.nul,0,20) else if xbH (t.drop (xaa t))=b+2 then (if b=91 then .arr .nil else .obj .nil,xaa t+2,0)
   else if (xaA f d (decide (b=123)) (b+2) [] 0 (t.drop (xaa t))).2.2≠0 then (.nul,xaa t+1+(xaA f d (decide (b=123)) (b+2) [] 0 (t.drop (xaa t))).2.1,(xaA f d (decide (b=123)) (b+2) [] 0 (t.drop (xaa t))).2.2)
   else (if b=91 then .arr (xaA f d (decide (b=123)) (b+2) [] 0 (t.drop (xaa t))).1 else .obj (xaA f d (decide (b=123)) (b+2) [] 0 (t.drop (xaa t))).1,xaa t+1+(xaA f d (decide (b=123)) (b+2) [] 0 (t.drop (xaa t))).2.1,0))
  else if b=45∨isD b=true then xhi (b :: t)
  else (.nul,0,4)
def xaA:Nat→Nat→Bool→Int→List (List Int)→Nat→List Int→Jl × Nat × Int
 | 0,_,_,_,_,_,l=>(.nil,l.length,3)
 | f+1,d,ob,fin,names,k,l =>
  if l≠[]∧64≤k then (.nil,0,21)
  else match xbk ob names l with
  | (name,at_,e)=>if e≠0 then (.nil,at_,e) else
   match xai f (d+1) (l.drop at_) with
   | (v,n,e2)=>if e2≠0 then (.nil,at_+n,e2) else
    (let m:=at_+n+xaa (l.drop (at_+n))
    if l.drop m=[] then (.nil,m,3) else if xbH (l.drop m)=fin then (.cons name v .nil,m+1,0) else if xbH (l.drop m)≠44 then (.nil,m,4) else
    (let q:=m+1+xaa (l.drop (m+1))
    match xaA f d ob fin (names++[name]) (k+1) (l.drop q) with
    | (r,j,e3)=>if e3≠0 then (.nil,q+j,e3) else (.cons name v r,q+j,0)))
def xbk (ob:Bool) (names:List (List Int)) (l:List Int):List Int × Nat × Int :=
 if ob=false then ([],0,0) else
 match xay l with
 | (name,n,e)=>if e≠0 then ([],n,e) else if name ∈ names then ([],0,22) else
  (let m:=n+xaa (l.drop n)
  if l.drop m=[] then ([],m,3) else if xbH (l.drop m)≠58 then ([],m,4) else (name,m+1+xaa (l.drop (m+1)),0))
end
def xeg (l:List Int):Nat:=2*l.length+1
def xhn (s:List Int):Js × Nat × Int :=
 if 4096<s.length then (.nul,0,5) else
 match xai (xeg s) 1 (s.drop (xaa s)) with
 | (v,n,e)=>if e≠0 then (.nul,xaa s+n,e) else
  (let m:=xaa s+n+xaa (s.drop (xaa s+n))
  if m<s.length then (.nul,m,4) else (v,m,0))
end Go.Proofs.YtjinnigjfopbcaaGreatDoor
namespace Go.Proofs.YtjinnigjfopbcaaGreatDoor
set_option linter.unusedVariables false
set_option linter.unusedSimpArgs false
open Go.RowKit Go.ChangeShapes Go.WideShapes Go.Deep
set_option maxRecDepth 20000
mutual
inductive Nt
 | mk (kind n:Int) (s:ByteArray) (nv:Value) (names:List ByteArray) (kv:Value) (kids:Nl)
inductive Nl
 | nil
 | cons (h:Nt) (t:Nl)
end
instance:Inhabited Nt:=⟨.mk 0 0 ByteArray.empty (.slice none 0 0) [] (.slice none 0 0) .nil⟩
def Nl.len:Nl→Nat
 | .nil=>0
 | .cons _ t=>t.len+1
def Nl.at?:Nl→Nat→Option Nt
 | .nil,_=>none
 | .cons h _,0=>some h
 | .cons _ t,i+1=>t.at? i
def xwf:Nt→List Value
 | .mk k n s nv _ kv _=>[.int .u8 k,.int .i64 n,.string s,nv,kv]
def xfZ (w:World) (v:Value) (l:List ByteArray):Prop :=
 ∃ a cap,v=.slice a l.length cap∧l.length≤cap∧cap≤maxLen∧∀ k s,l[k]?=some s→∃ g off,a=some ⟨g,off,none⟩∧g<w.heap.size∧w.cell? ⟨g,off+k,none⟩=some (.string s)∧s.size≤maxLen
def xmd (w:World) (a:Option Addr) (i:Nat) (v:Nt):Prop :=
 ∃ g off,a=some ⟨g,off,none⟩∧g<w.heap.size∧∀ j,j<5→w.cell? ⟨g,off+i*5+j,none⟩=(xwf v)[j]?
mutual
def Nt.In (w:World):Nt→Prop
 | .mk k n s nv names kv kids=>(0≤k∧k<256)∧(-9223372036854775808≤n∧n<9223372036854775808)∧s.size≤maxLen∧xfZ w nv names∧∃ a cap,kv=.slice a kids.len cap∧kids.len≤cap∧cap≤maxLen∧Nl.In w a 0 kids
def Nl.In (w:World) (a:Option Addr) (i:Nat):Nl→Prop
 | .nil=>True
 | .cons h t=>xmd w a i h∧Nt.In w h∧Nl.In w a (i+1) t
end
theorem xfZ.below {w w':World} {v:Value} {l:List ByteArray} (h:xfZ w v l) (hb:Below w.heap.size w w'):xfZ w' v l:=by
 obtain⟨a,cap,rfl,h1,h2,hc⟩:=h
 refine⟨a,cap,rfl,h1,h2,fun k s hk=>?_⟩
 obtain⟨g,off,e,hg,hc,hs⟩:=hc k s hk
 exact⟨g,off,e,Nat.lt_of_lt_of_le hg hb.size,(hb.cell hg).trans hc,hs⟩
theorem xmd.below {w w':World} {a:Option Addr} {i:Nat} {v:Nt} (h:xmd w a i v) (hb:Below w.heap.size w w'):xmd w' a i v:=by
 obtain⟨g,off,e,hg,hc⟩:=h
 exact⟨g,off,e,Nat.lt_of_lt_of_le hg hb.size,fun j hj=>(hb.cell hg).trans (hc j hj)⟩
mutual
theorem Nt.In.below {w w':World} (hb:Below w.heap.size w w'):∀ {v:Nt},v.In w→v.In w'
 | .mk k n s nv names kv kids,h=>by
  rw[Nt.In] at h ⊢
  obtain⟨h1,h2,h3,h4,a,cap,h5,h6,h7,h8⟩:=h
  exact⟨h1,h2,h3,h4.below hb,a,cap,h5,h6,h7,Nl.In.below hb h8⟩
theorem Nl.In.below {w w':World} (hb:Below w.heap.size w w'):∀ {l:Nl} {a:Option Addr} {i:Nat},l.In w a i→l.In w' a i
 | .nil,_,_,_=>by rw[Nl.In];trivial
 | .cons h t,a,i,e=>by
  rw[Nl.In] at e ⊢
  exact⟨e.1.below hb,Nt.In.below hb e.2.1,Nl.In.below hb e.2.2⟩
end
end Go.Proofs.YtjinnigjfopbcaaGreatDoor
namespace Go.Proofs.YtjinnigjfopbcaaGreatDoor
set_option linter.unusedVariables false
set_option linter.unusedSimpArgs false
set_option maxRecDepth 20000
def Nl.drop:Nl→Nat→Nl
 | l,0=>l
 | .nil,_+1=>.nil
 | .cons _ t,i+1=>t.drop i
theorem Nl.drop_zero (l:Nl):l.drop 0=l:=by cases l <;> rfl
end Go.Proofs.YtjinnigjfopbcaaGreatDoor
namespace Go.Proofs.YtjinnigjfopbcaaGreatDoor
set_option linter.unusedVariables false
set_option linter.unusedSimpArgs false
open Go.RowKit
set_option maxRecDepth 20000
mutual
def xaq (S:Nat→Prop) (w:World):Js→Value→Prop
 | .nul,x=>x=.nilIface
 | .bool b,x=>x=.iface 4 (.bool b)
 | .num n,x=>x=.iface 3 (.int .i64 n)
 | .str s,x=>∃ t:ByteArray,x=.iface 9 (.string t)∧bI t=s∧s.length≤5000
 | .arr l,x=>∃ a cap,x=.iface 397 (.slice a l.length cap)∧l.length≤cap∧cap≤maxLen∧xf7 S w a 0 l
 | .obj l,x=>∃ a cap,x=.iface 157 (.slice a l.length cap)∧l.length≤cap∧cap≤maxLen∧xea S w a 0 l
 | .bad,x=>x=.iface 100000 (.float .f64 4609434218613702656)
def xf7 (S:Nat→Prop) (w:World) (a:Option Addr) (i:Nat):Jl→Prop
 | .nil=>True
 | .cons n v l=>(∃ g off y,a=some ⟨g,off,none⟩∧S g∧g<w.heap.size∧w.cell? ⟨g,off+i,none⟩=some y∧xaq S w v y)∧xf7 S w a (i+1) l
def xea (S:Nat→Prop) (w:World) (a:Option Addr) (i:Nat):Jl→Prop
 | .nil=>True
 | .cons n v l=>(∃ g off y t,a=some ⟨g,off,none⟩∧S g∧g<w.heap.size∧w.cell? ⟨g,off+i*2,none⟩=some (.string t)∧bI t=n∧n.length≤5000∧w.cell? ⟨g,off+i*2+1,none⟩=some y∧xaq S w v y)∧xea S w a (i+1) l
end
mutual
theorem xaq.keep {S S':Nat→Prop} {w w':World} (hS:∀ b,S b→b<w.heap.size→S' b) (hs:w.heap.size≤w'.heap.size) (hk:∀ b,S b→b<w.heap.size→w'.heap[b]?=w.heap[b]?):∀ (v:Js) (x:Value),xaq S w v x→xaq S' w' v x
 | .nul,x,h=>by rw[xaq] at h ⊢;exact h
 | .bool b,x,h=>by rw[xaq] at h ⊢;exact h
 | .num n,x,h=>by rw[xaq] at h ⊢;exact h
 | .str s,x,h=>by rw[xaq] at h ⊢;exact h
 | .arr l,x,h=>by
  rw[xaq] at h ⊢
  obtain⟨a,cap,h1,h2,h3,h4⟩:=h
  exact⟨a,cap,h1,h2,h3,xf7.keep hS hs hk l a 0 h4⟩
 | .obj l,x,h=>by
  rw[xaq] at h ⊢
  obtain⟨a,cap,h1,h2,h3,h4⟩:=h
  exact⟨a,cap,h1,h2,h3,xea.keep hS hs hk l a 0 h4⟩
 | .bad,x,h=>by rw[xaq] at h ⊢;exact h
theorem xf7.keep {S S':Nat→Prop} {w w':World} (hS:∀ b,S b→b<w.heap.size→S' b) (hs:w.heap.size≤w'.heap.size) (hk:∀ b,S b→b<w.heap.size→w'.heap[b]?=w.heap[b]?):∀ (l:Jl) (a:Option Addr) (i:Nat),xf7 S w a i l→xf7 S' w' a i l
 | .nil,a,i,h=>by rw[xf7];trivial
 | .cons n v l,a,i,h=>by
  rw[xf7] at h ⊢
  obtain⟨⟨g,off,y,h1,h2,h3,h4,h5⟩,h6⟩:=h
  exact⟨⟨g,off,y,h1,hS g h2 h3,Nat.lt_of_lt_of_le h3 hs,(World.cell?_of_block (a:=⟨g,off+i,none⟩) (hk g h2 h3)).trans h4,xaq.keep hS hs hk v y h5⟩,xf7.keep hS hs hk l a (i+1) h6⟩
theorem xea.keep {S S':Nat→Prop} {w w':World} (hS:∀ b,S b→b<w.heap.size→S' b) (hs:w.heap.size≤w'.heap.size) (hk:∀ b,S b→b<w.heap.size→w'.heap[b]?=w.heap[b]?):∀ (l:Jl) (a:Option Addr) (i:Nat),xea S w a i l→xea S' w' a i l
 | .nil,a,i,h=>by rw[xea];trivial
 | .cons n v l,a,i,h=>by
  rw[xea] at h ⊢
  obtain⟨⟨g,off,y,t,h1,h2,h3,h4,h7,h8,h5,h9⟩,h6⟩:=h
  exact⟨⟨g,off,y,t,h1,hS g h2 h3,Nat.lt_of_lt_of_le h3 hs,(World.cell?_of_block (a:=⟨g,off+i*2,none⟩) (hk g h2 h3)).trans h4,h7,h8,(World.cell?_of_block (a:=⟨g,off+i*2+1,none⟩) (hk g h2 h3)).trans h5,xaq.keep hS hs hk v y h9⟩,xea.keep hS hs hk l a (i+1) h6⟩
end
theorem xaq.below {S:Nat→Prop} {w w':World} {v:Js} {x:Value} (h:xaq S w v x) (hb:Below w.heap.size w w'):xaq S w' v x:=xaq.keep (fun _ e _=>e) hb.size (fun b _ hlt=>hb.block b hlt) v x h
theorem xaq.mono {S S':Nat→Prop} {w:World} {v:Js} {x:Value} (h:xaq S w v x) (hS:∀ b,S b→S' b):xaq S' w v x:=xaq.keep (fun b e _=>hS b e) (Nat.le_refl _) (fun _ _ _=>rfl) v x h
def Jl.at?:Jl→Nat→Option (List Int × Js)
 | .nil,_=>none
 | .cons n v _,0=>some (n,v)
 | .cons _ _ l,i+1=>l.at? i
def Jl.drop:Jl→Nat→Jl
 | l,0=>l
 | .nil,_+1=>.nil
 | .cons _ _ l,i+1=>l.drop i
def Jl.names:Jl→List (List Int)
 | .nil=>[]
 | .cons n _ l=>n :: l.names
theorem Jl.drop_zero (l:Jl):l.drop 0=l:=by cases l <;> rfl
theorem Jl.lt_at:∀ (l:Jl) (k:Nat),k<l.length→∃ n v,l.at? k=some (n,v)
 | .nil,_,h=>absurd h (Nat.not_lt_zero _)
 | .cons n v t,0,_=>⟨n,v,rfl⟩
 | .cons _ _ t,k+1,e=>Jl.lt_at t k (Nat.lt_of_succ_lt_succ e)
theorem Jl.drop_at:∀ (l:Jl) (i:Nat) (n:List Int) (v:Js),l.at? i=some (n,v)→l.drop i=.cons n v (l.drop (i+1))
 | .nil,_,_,_,h=>by cases h
 | .cons n' v' t,0,n,v,h=>by
  obtain⟨rfl,rfl⟩:n'=n∧v'=v:=by simpa[Jl.at?] using h
  simp only[Jl.drop,Jl.drop_zero]
 | .cons n' v' t,i+1,n,v,h=>by
  have:=Jl.drop_at t i n v h
  simpa only[Jl.drop] using this
theorem Jl.drop_len:∀ l:Jl,l.drop l.length=.nil
 | .nil=>rfl
 | .cons _ _ t=>by simpa only[Jl.length,Jl.drop] using Jl.drop_len t
theorem Jl.names_at:∀ (l:Jl) (i:Nat) (n:List Int) (v:Js),l.at? i=some (n,v)→l.names[i]?=some n
 | .nil,_,_,_,h=>by cases h
 | .cons n' v' t,0,n,v,h=>by
  obtain⟨rfl,rfl⟩:n'=n∧v'=v:=by simpa[Jl.at?] using h
  rfl
 | .cons n' v' t,i+1,n,v,h=>by simpa[Jl.names] using Jl.names_at t i n v h
theorem xf7.at {S:Nat→Prop} {w:World} {a:Option Addr}:∀ (l:Jl) (i k:Nat) (n:List Int) (v:Js),xf7 S w a i l→l.at? k=some (n,v)→∃ g off y,a=some ⟨g,off,none⟩∧S g∧g<w.heap.size∧w.cell? ⟨g,off+(i+k),none⟩=some y∧xaq S w v y
 | .nil,_,_,_,_,_,h=>by cases h
 | .cons n' v' t,i,0,n,v,hr,h=>by
  rw[xf7] at hr
  obtain⟨rfl,rfl⟩:n'=n∧v'=v:=by simpa[Jl.at?] using h
  exact hr.1
 | .cons n' v' t,i,k+1,n,v,hr,h=>by
  rw[xf7] at hr
  have:=xf7.at t (i+1) k n v hr.2 h
  rwa[show i+1+k=i+(k+1) by omega] at this
theorem xf7.of {S:Nat→Prop} {w:World} {a:Option Addr}:∀ (l:Jl) (i:Nat),(∀ k n v,l.at? k=some (n,v)→∃ g off y,a=some ⟨g,off,none⟩∧S g∧g<w.heap.size∧w.cell? ⟨g,off+(i+k),none⟩=some y∧xaq S w v y)→xf7 S w a i l
 | .nil,_,_=>by rw[xf7];trivial
 | .cons n v t,i,h=>by
  rw[xf7]
  exact⟨h 0 n v rfl,xf7.of t (i+1) fun k n v e=>by
   have:=h (k+1) n v e
   rwa[show i+(k+1)=i+1+k by omega] at this⟩
theorem xea.at {S:Nat→Prop} {w:World} {a:Option Addr}:∀ (l:Jl) (i k:Nat) (n:List Int) (v:Js),xea S w a i l→l.at? k=some (n,v)→∃ g off y t,a=some ⟨g,off,none⟩∧S g∧g<w.heap.size∧w.cell? ⟨g,off+(i+k)*2,none⟩=some (.string t)∧bI t=n∧n.length≤5000∧w.cell? ⟨g,off+(i+k)*2+1,none⟩=some y∧xaq S w v y
 | .nil,_,_,_,_,_,h=>by cases h
 | .cons n' v' t,i,0,n,v,hr,h=>by
  rw[xea] at hr
  obtain⟨rfl,rfl⟩:n'=n∧v'=v:=by simpa[Jl.at?] using h
  exact hr.1
 | .cons n' v' t,i,k+1,n,v,hr,h=>by
  rw[xea] at hr
  have:=xea.at t (i+1) k n v hr.2 h
  rwa[show i+1+k=i+(k+1) by omega] at this
theorem xea.of {S:Nat→Prop} {w:World} {a:Option Addr}:∀ (l:Jl) (i:Nat),(∀ k n v,l.at? k=some (n,v)→∃ g off y t,a=some ⟨g,off,none⟩∧S g∧g<w.heap.size∧w.cell? ⟨g,off+(i+k)*2,none⟩=some (.string t)∧bI t=n∧n.length≤5000∧w.cell? ⟨g,off+(i+k)*2+1,none⟩=some y∧xaq S w v y)→xea S w a i l
 | .nil,_,_=>by rw[xea];trivial
 | .cons n v t,i,h=>by
  rw[xea]
  exact⟨h 0 n v rfl,xea.of t (i+1) fun k n v e=>by
   have:=h (k+1) n v e
   rwa[show i+(k+1)=i+1+k by omega] at this⟩
mutual
theorem Js.ind {P:Js→Prop} (hnul:P .nul) (hbool:∀ b,P (.bool b)) (hnum:∀ n,P (.num n)) (hstr:∀ s,P (.str s)) (harr:∀ l,(∀ i n v,l.at? i=some (n,v)→P v)→P (.arr l)) (hobj:∀ l,(∀ i n v,l.at? i=some (n,v)→P v)→P (.obj l)) (hbad:P .bad):∀ v:Js,P v
 | .nul=>hnul
 | .bool b=>hbool b
 | .num n=>hnum n
 | .str s=>hstr s
 | .arr l=>harr l (Jl.ind hnul hbool hnum hstr harr hobj hbad l)
 | .obj l=>hobj l (Jl.ind hnul hbool hnum hstr harr hobj hbad l)
 | .bad=>hbad
theorem Jl.ind {P:Js→Prop} (hnul:P .nul) (hbool:∀ b,P (.bool b)) (hnum:∀ n,P (.num n)) (hstr:∀ s,P (.str s)) (harr:∀ l,(∀ i n v,l.at? i=some (n,v)→P v)→P (.arr l)) (hobj:∀ l,(∀ i n v,l.at? i=some (n,v)→P v)→P (.obj l)) (hbad:P .bad):∀ (l:Jl) (i:Nat) (n:List Int) (v:Js),l.at? i=some (n,v)→P v
 | .nil,_,_,_,h=>by cases h
 | .cons n' v' t,0,n,v,h=>by
  obtain⟨rfl,rfl⟩:n'=n∧v'=v:=by simpa[Jl.at?] using h
  exact Js.ind hnul hbool hnum hstr harr hobj hbad v'
 | .cons n' v' t,i+1,n,v,h=>Jl.ind hnul hbool hnum hstr harr hobj hbad t i n v h
end
def aB:Nat→Prop:=fun _=>True
def PlR (x:List Int) (ns:List (List Int)) (r:Int):Prop:=(r=-1∧x ∉ ns)∨∃ k:Nat,r=k∧ns[k]?=some x∧∀ j,j<k→ns[j]?≠some x
theorem PlR.neg {x:List Int} {ns:List (List Int)} {r:Int} (h:PlR x ns r):(0≤r↔x ∈ ns):=by
 rcases h with ⟨rfl,h⟩|⟨k,rfl,h,_⟩
 ·exact⟨fun e=>by omega,fun e=>absurd e h⟩
 ·exact⟨fun _=>List.mem_of_getElem? h,fun _=>by omega⟩
end Go.Proofs.YtjinnigjfopbcaaGreatDoor
namespace Go.Proofs.YtjinnigjfopbcaaGreatDoor
set_option linter.unusedVariables false
set_option linter.unusedSimpArgs false
set_option maxRecDepth 20000
theorem xsA (x:List Int):xbh (34 :: x)=.fin:=by rw[xbh,if_pos rfl]
theorem xaC (f:Nat) (l:List Int) (p:Nat) (out:List Int):xaZ (f+1) l p out=match xbh l with
  | .short=>([],p+l.length,3)
  | .form=>([],p,4)
  | .fin=>(out,p+1,0)
  | .piece t n=>xaZ f (l.drop n) (p+n) (out++t):=rfl
theorem xdR:∀ (f g:Nat) (l:List Int) (p:Nat) (out:List Int),l.length≤f→l.length≤g→xaZ f l p out=xaZ g l p out
 | 0,0,_,_,_,_,_=>rfl
 | 0,g+1,l,p,out,hf,_=>by
  obtain rfl:l=[]:=List.eq_nil_of_length_eq_zero (by omega)
  rfl
 | f+1,0,l,p,out,_,hg=>by
  obtain rfl:l=[]:=List.eq_nil_of_length_eq_zero (by omega)
  rfl
 | f+1,g+1,l,p,out,hf,hg=>by
  rw[xaC,xaC]
  cases hs:xbh l with
  | short=>rfl
  | form=>rfl
  | fin=>rfl
  | piece t n =>
   have hp:=xcM l t n hs
   have h1:=hp.one
   have h2:=hp.len
   exact xdR f g _ _ _ (by rw[List.length_drop];omega) (by rw[List.length_drop];omega)
theorem xkG:∀ (f:Nat) (l:List Int) (p:Nat) (out:List Int),l.length≤f→(xaZ f l p out).2.2≠0→(xaZ f l p out).1=[]∧(xaZ f l p out).2.1≤p+l.length∧((xaZ f l p out).2.2=3→(xaZ f l p out).2.1=p+l.length)
 | 0,l,p,out,_,_=>⟨rfl,Nat.le_refl _,fun _=>rfl⟩
 | f+1,l,p,out,hf,h=>by
  rw[xaC] at h ⊢
  cases hs:xbh l with
  | short=>exact⟨rfl,Nat.le_refl _,fun _=>rfl⟩
  | form=>exact⟨rfl,Nat.le_add_right _ _,fun e=>by cases e⟩
  | fin=>rw[hs] at h;exact absurd rfl h
  | piece t n =>
   rw[hs] at h
   have hp:=xcM l t n hs
   have h1:=hp.one
   have h2:=hp.len
   obtain⟨a,b,c⟩:=xkG f (l.drop n) (p+n) (out++t) (by rw[List.length_drop];omega) h
   rw[List.length_drop] at b c
   refine⟨a,by simp only;omega,fun e=>?_⟩
   have:=c e
   simp only
   omega
theorem xuw {l:List Int} (h:xbh l=.fin):∃ t,l=34 :: t:=by
 cases l with
 | nil=>cases h
 | cons b s =>
  rw[xbh] at h
  by_cases h1:b=34
  ·exact⟨s,by rw[h1]⟩
  rw[if_neg h1] at h
  by_cases h2:b=92
  ·rw[if_pos h2] at h
   subst h2
   cases s with
   | nil=>cases h
   | cons b1 s =>
    rw[xdX] at h
    split at h
    ·cases h
    split at h
    ·rcases xb9 (xan (92 :: b1 :: s)).2 with e|e <;> rw[e] at h <;> cases h
    split at h
    ·cases h
    split at h
    ·cases h
    split at h
    ·rcases xb9 (xan ((92 :: b1 :: s).drop 6)).2 with e|e <;> rw[e] at h <;> cases h
    split at h <;> cases h
  rw[if_neg h2] at h
  split at h <;> cases h
theorem xhY:∀ (f:Nat) (l:List Int) (p:Nat) (out:List Int),l.length≤f→(xaZ f l p out).2.2=0 →
  ∃ n t k,(xaZ f l p out)=(out++t,p+n,0)∧1≤n∧n≤l.length∧Val t k∧(∀ x g,(l.take n++x).length≤g→xaZ g (l.take n++x) p out=(out++t,p+n,0)) ∧
   (∀ j g,j<n→(l.take j).length≤g→(xaZ g (l.take j) p out).1=[]∧((xaZ g (l.take j) p out).2.2=3∧(xaZ g (l.take j) p out).2.1=p+j∨(xaZ g (l.take j) p out).2.2=4))
 | 0,l,p,out,_,h=>by cases h
 | f+1,l,p,out,hf,h=>by
  rw[xaC] at h ⊢
  cases hs:xbh l with
  | short=>rw[hs] at h;cases h
  | form=>rw[hs] at h;cases h
  | fin =>
   obtain⟨u,rfl⟩:=xuw hs
   refine⟨1,[],0,by rw[List.append_nil],Nat.le_refl _,by simp,.nil,fun x g hg=>?_,fun j g hj hg=>?_⟩
   ·cases g with
    | zero=>simp at hg
    | succ g =>
     have e:List.take 1 (34 :: u)++x=34 :: x:=rfl
     rw[e,xaC,xsA,List.append_nil]
   ·obtain rfl:j=0:=by omega
    rw[List.take_zero]
    cases g with
    | zero=>exact⟨rfl,.inl ⟨rfl,rfl⟩⟩
    | succ g=>exact⟨rfl,.inl ⟨rfl,rfl⟩⟩
  | piece t n =>
   rw[hs] at h
   have hp:=xcM l t n hs
   have h1:=hp.one
   have h2:=hp.len
   obtain⟨c,hc⟩:=hp.rune
   obtain⟨m,u,k,e1,e2,e3,e4,e5,e6⟩:=xhY f (l.drop n) (p+n) (out++t) (by rw[List.length_drop];omega) h
   rw[List.length_drop] at e3
   have hsplit:∀ y,l.take (n+m)++y=l.take n++((l.drop n).take m++y):=fun y=>by rw[List.take_add,List.append_assoc]
   refine⟨n+m,t++u,k+1,by simp only;rw[e1,List.append_assoc,Nat.add_assoc],by omega,by omega,by rw[← hc];exact .cons c u k (by rw[hc];exact hp.ne) e4,fun x g hg=>?_,fun j g hj hg=>?_⟩
   ·rw[hsplit] at hg ⊢
    cases g with
    | zero=>rw[List.length_append,List.length_take] at hg;omega
    | succ g =>
     rw[xaC,hp.more]
     simp only
     rw[List.drop_left' (xbv h2),e5 x g (by rw[List.length_append,xbv h2] at hg;omega),List.append_assoc,Nat.add_assoc]
   ·by_cases hjn:j<n
    ·cases g with
     | zero =>
      rw[List.length_take] at hg
      obtain rfl:j=0:=by omega
      exact⟨rfl,.inl ⟨rfl,by simp[xaZ]⟩⟩
     | succ g =>
      rw[xaC]
      rcases hp.cut j hjn with e|e <;> rw[e]
      ·refine⟨rfl,.inl ⟨rfl,?_⟩⟩
       simp only
       rw[List.length_take]
       omega
      ·exact⟨rfl,.inr rfl⟩
    ·have ej:l.take j=l.take n++(l.drop n).take (j - n):=by
      conv=>lhs;rw[show j=n+(j - n) by omega,List.take_add]
     rw[ej] at hg ⊢
     cases g with
     | zero=>rw[List.length_append,xbv h2] at hg;omega
     | succ g =>
      rw[xaC,hp.more]
      simp only
      rw[List.drop_left' (xbv h2)]
      have:=e6 (j - n) g (by omega) (by rw[List.length_append,xbv h2] at hg;omega)
      rw[show p+n+(j - n)=p+j by omega] at this
      exact this
theorem xmj (d:Int) (h:0≤d∧d<16):xfw (xy4 d)=d∧48≤xy4 d∧xy4 d<128:=by
 unfold xy4 xfw
 split <;> (repeat' split) <;> omega
theorem xqq (c:Int) (h:0≤c) (h2:c<128):∀ b ∈ xuV c,32≤b∧b<128:=by
 intro b hb
 unfold xuV at hb
 have h1:=xmj (c % 16) (by omega)
 repeat' (split at hb)
 all_goals simp at hb
 all_goals try omega
 rename_i h9
 have h3:=xmj (c / 16) (by omega)
 omega
theorem xis (a b:List Int):xdp (a++b)=xdp a++xdp b:=by unfold xdp;rw[List.flatMap_append]
theorem xlG {l:List Int} {n:Nat} (h:Val l n):∀ b ∈ xdp l,32≤b∧b<256:=by
 induction h with
 | nil=>intro b hb;cases hb
 | cons c l n h1 h2 ih =>
  intro b hb
  rw[xis] at hb
  rcases List.mem_append.1 hb with hb|hb
  ·obtain⟨y,hy,hby⟩:=List.mem_flatMap.1 hb
   have hy2:=xgJ c y hy
   unfold xpJ at hby
   split at hby
   ·have:=xqq y (by omega) (by assumption) b hby;omega
   ·simp at hby;omega
  ·exact ih b hb
end Go.Proofs.YtjinnigjfopbcaaGreatDoor
namespace Go.Proofs.YtjinnigjfopbcaaGreatDoor
set_option linter.unusedVariables false
set_option linter.unusedSimpArgs false
open Go.RowKit
set_option maxRecDepth 20000
theorem xn1 (f:Nat) (l:List Int) (h:l.length≤f):xbW f l=xas l:=by
 by_cases hp:0≤xas l
 ·obtain⟨n,h1,h2⟩:=xmw hp
  rw[h2,xgZ f l n h h1]
 ·have h1:=xtw (l:=l) (by omega)
  by_cases hf:0≤xbW f l
  ·obtain⟨n,h2,h3⟩:=xgL f l hf
   rw[xmR h2] at h1
   omega
  ·have:=xes f l
   omega
theorem xkg:xas []=0:=rfl
theorem xfi {l:List Int} (hl:l≠[]):xas l=if xaw l=[] then -1 else if xas (l.drop (xaw l).length)<0 then -1 else xas (l.drop (xaw l).length)+1:=by
 cases l with
 | nil=>exact absurd rfl hl
 | cons b t =>
  have e:xas (b :: t)=xbW (t.length+1) (b :: t):=rfl
  rw[e,xbW,if_neg hl]
  by_cases hr:xaw (b :: t)=[]
  ·rw[if_pos hr,if_pos hr]
  ·rw[if_neg hr,if_neg hr,xn1 t.length _ (by have:=List.length_pos_iff.2 hr;rw[List.length_drop,List.length_cons];omega)]
def xuT (n:Nat) (c:Int):Int:=if c<0 then -1 else n+c
theorem xuJ (s:ByteArray) (k:Nat) (h:k<s.size):(bI s).drop k=((s[k]'h).toNat:Int) :: (bI s).drop (k+1):=by
 have hk:k<(bI s).length:=by rw[xah];exact h
 rw[List.drop_eq_getElem_cons hk]
 congr 1
 simp[bI]
 rfl
theorem xra (b:Int):(xpJ b).length≤6:=by
 unfold xpJ xuV
 repeat' split
 all_goals simp
theorem xhF:∀ l:List Int,(xdp l).length≤6*l.length
 | []=>by simp[xdp]
 | b :: l=>by
  have h1:=xra b
  have h2:=xhF l
  have e:xdp (b :: l)=xpJ b++xdp l:=rfl
  rw[e,List.length_append,List.length_cons]
  omega
theorem xmU (s:ByteArray) (k:Nat) (h:k<s.size):(bI s)[k]?=some ((s[k]'h).toNat:Int):=by
 have h1:=xuJ s k h
 have hk:k<(bI s).length:=by rw[xah];exact h
 rw[List.drop_eq_getElem_cons hk] at h1
 injection h1 with h2 _
 rw[List.getElem?_eq_getElem hk,h2]
theorem xrz (s:ByteArray):∀ b ∈ bI s,0≤b∧b<256:=by
 intro b hb
 unfold bI at hb
 obtain⟨c,_,rfl⟩:=List.mem_map.1 hb
 have:=c.toNat_lt
 omega
theorem xqu (l:List Int) (h:∀ b ∈ l,0≤b∧b<256):bI (str l)=l:=by
 unfold bI
 rw[xbF,List.map_map]
 conv=>rhs;rw[← List.map_id l]
 refine List.map_congr_left (fun c hc=>?_)
 have:=h c hc
 simp
 omega
theorem xvH {s t:ByteArray} (h:bI s=bI t):s=t:=by rw[← xmQ s,h,xmQ]
theorem xca (s:ByteArray) (a b:Nat) (h:a≤b):bI (s.extract a b)=((bI s).drop a).take (b - a):=by
 unfold bI
 rw[ByteArray.data_extract,Array.toList_extract,List.extract_eq_take_drop,List.map_take,List.map_drop]
theorem xBj {c:Int} (h0:0≤c) (h1:c<128):xa3 c=[c]:=by
 unfold xa3;rw[if_neg (by omega),if_pos h1]
theorem xBh {c:Int} (h0:128≤c) (h1:c<2048):xa3 c=[192+c / 64,128+c % 64]:=by
 unfold xa3;rw[if_neg (by omega),if_neg (by omega),if_pos h1]
theorem xBe {c:Int} (h0:2048≤c) (h1:c<65536) (h2:¬ (55296≤c∧c≤57343)):xa3 c=[224+c / 4096,128+c / 64 % 64,128+c % 64]:=by
 unfold xa3;rw[if_neg (by omega),if_neg (by omega),if_neg (by omega),if_pos h1]
theorem xAZ {c:Int} (h0:65536≤c) (h1:c≤1114111):xa3 c=[240+c / 262144,128+c / 4096 % 64,128+c / 64 % 64,128+c % 64]:=by
 unfold xa3;rw[if_neg (by omega),if_neg (by omega),if_neg (by omega),if_neg (by omega)]
theorem xvR (s:ByteArray) (k:Nat) (h:k<s.size):(bI s)[k]?=some ((s.get! k).toNat:Int):=by
 rw[xmU s k h]
 have e:s.get! k=s[k]'h:=by
  have h':k<s.data.size:=h
  show s.data[k]! = s.data[k]'h'
  rw[getElem!_pos s.data k h']
 rw[e]
theorem xbR (s:ByteArray) (i k:Nat) (b:Int) (h:((bI s).drop i)[k]?=some b):i+k<s.size∧((s.get! (i+k)).toNat:Int)=b:=by
 rw[List.getElem?_drop] at h
 have hl:=(List.getElem?_eq_some_iff.1 h).1
 rw[xah] at hl
 refine⟨hl,?_⟩
 rw[xvR s (i+k) hl] at h
 injection h
def xpg (x0 x1 x2 x3:Nat) (p1 p2 p3:Bool):Nat × Nat :=
 if x0<128 then (x0,1)
 else if x0 / 32 == 6 && (p1 && x1 / 64 == 2) then (if x0 % 32*64+x1 % 64 ≥ 128 then (x0 % 32*64+x1 % 64,2) else (65533,1))
 else if x0 / 16 == 14 && (p1 && x1 / 64 == 2) && (p2 && x2 / 64 == 2) then
  (if decide (x0 % 16*4096+x1 % 64*64+x2 % 64 ≥ 2048) && Utf8.valid ((x0 % 16*4096+x1 % 64*64+x2 % 64:Nat):Int) then (x0 % 16*4096+x1 % 64*64+x2 % 64,3) else (65533,1))
 else if x0 / 8 == 30 && (p1 && x1 / 64 == 2) && (p2 && x2 / 64 == 2) && (p3 && x3 / 64 == 2) then
  (if decide (x0 % 8*262144+x1 % 64*4096+x2 % 64*64+x3 % 64 ≥ 65536) && Utf8.valid ((x0 % 8*262144+x1 % 64*4096+x2 % 64*64+x3 % 64:Nat):Int) then (x0 % 8*262144+x1 % 64*4096+x2 % 64*64+x3 % 64,4) else (65533,1))
 else (65533,1)
theorem xjs (s:ByteArray) (i:Nat):Utf8.decode s i=xpg (s.get! i).toNat (s.get! (i+1)).toNat (s.get! (i+2)).toNat (s.get! (i+3)).toNat (decide (i+1<s.size)) (decide (i+2<s.size)) (decide (i+3<s.size)):=by
 simp only[Utf8.decode,xpg,Nat.add_zero,Utf8.runeError]
theorem bt {a:Nat} {b:Nat} (h:a=b):(a == b)=true:=by rw[h];simp
theorem bf {a:Nat} {b:Nat} (h:a≠b):(a == b)=false:=by simpa using h
theorem xzZ {x0:Nat} (x1 x2 x3:Nat) (p1 p2 p3:Bool) (h:x0<128):xpg x0 x1 x2 x3 p1 p2 p3=(x0,1):=by unfold xpg;rw[if_pos h]
theorem xAp {x0 x1:Nat} (x2 x3:Nat) (p2 p3:Bool) (h0:¬ x0<128) (h:x0 / 32=6) (h1:x1 / 64=2) (hc:x0 % 32*64+x1 % 64 ≥ 128):xpg x0 x1 x2 x3 true p2 p3=(x0 % 32*64+x1 % 64,2):=by
 unfold xpg
 rw[if_neg h0,bt h,bt h1,if_pos (by simp),if_pos hc]
theorem xAw {x0 x1 x2:Nat} (x3:Nat) (p3:Bool) (h0:¬ x0<128) (h:x0 / 16=14) (h1:x1 / 64=2) (h2:x2 / 64=2) (hc:x0 % 16*4096+x1 % 64*64+x2 % 64 ≥ 2048) (hv:Utf8.valid ((x0 % 16*4096+x1 % 64*64+x2 % 64:Nat):Int)=true):xpg x0 x1 x2 x3 true true p3=(x0 % 16*4096+x1 % 64*64+x2 % 64,3):=by
 unfold xpg
 rw[if_neg h0,bf (show x0 / 32≠6 by omega),Bool.false_and,if_neg (by simp),bt h,bt h1,bt h2,if_pos (by simp),hv,decide_eq_true hc,if_pos (by simp)]
theorem xAA {x0 x1 x2 x3:Nat} (h0:¬ x0<128) (h:x0 / 8=30) (h1:x1 / 64=2) (h2:x2 / 64=2) (h3:x3 / 64=2) (hc:x0 % 8*262144+x1 % 64*4096+x2 % 64*64+x3 % 64 ≥ 65536) (hv:Utf8.valid ((x0 % 8*262144+x1 % 64*4096+x2 % 64*64+x3 % 64:Nat):Int)=true):xpg x0 x1 x2 x3 true true true=(x0 % 8*262144+x1 % 64*4096+x2 % 64*64+x3 % 64,4):=by
 unfold xpg
 rw[if_neg h0,bf (show x0 / 32≠6 by omega),Bool.false_and,if_neg (by simp),bf (show x0 / 16≠14 by omega),Bool.false_and,Bool.false_and,if_neg (by simp),bt h,bt h1,bt h2,bt h3,if_pos (by simp),hv,decide_eq_true hc,if_pos (by simp)]
theorem xns {c:Int} (h0:0≤c) (h1:c≤1114111) (h2:¬ (55296≤c∧c≤57343)):Utf8.valid c=true:=by
 unfold Utf8.valid
 by_cases h:c<55296
 ·rw[decide_eq_true h0,decide_eq_true (show c<0xD800 by omega)];rfl
 ·rw[decide_eq_true (show (0xE000:Int)≤c by omega),decide_eq_true (show c≤0x10FFFF by omega)];simp
theorem xj7 (s:ByteArray) (i:Nat) (c:Int) (t:List Int) (h:xa3 c≠[]) (hl:(bI s).drop i=xa3 c++t):Utf8.decode s i=(c.toNat,(xa3 c).length):=by
 rw[xjs]
 rcases xbf c with h'|⟨h1,h2,h'⟩|⟨h1,h2,h'⟩|⟨h1,h2,h3,h'⟩|⟨h1,h2,h'⟩
 ·exact absurd h' h
 ·rw[h'] at hl ⊢
  obtain⟨a1,a2⟩:=xbR s i 0 c (by rw[hl];rfl)
  rw[Nat.add_zero] at a2
  rw[xzZ _ _ _ _ _ _ (by omega)]
  exact Prod.ext (by simp only;omega) rfl
 ·rw[h'] at hl ⊢
  obtain⟨a1,a2⟩:=xbR s i 0 _ (by rw[hl];rfl)
  obtain⟨b1,b2⟩:=xbR s i 1 _ (by rw[hl];rfl)
  rw[Nat.add_zero] at a2
  rw[decide_eq_true b1,xAp _ _ _ _ (by omega) (by omega) (by omega) (by omega)]
  exact Prod.ext (by simp only;omega) rfl
 ·rw[h'] at hl ⊢
  obtain⟨a1,a2⟩:=xbR s i 0 _ (by rw[hl];rfl)
  obtain⟨b1,b2⟩:=xbR s i 1 _ (by rw[hl];rfl)
  obtain⟨c1,c2⟩:=xbR s i 2 _ (by rw[hl];rfl)
  rw[Nat.add_zero] at a2
  rw[decide_eq_true b1,decide_eq_true c1,xAw _ _ (by omega) (by omega) (by omega) (by omega) (by omega) (xns (by omega) (by omega) (by omega))]
  exact Prod.ext (by simp only;omega) rfl
 ·rw[h'] at hl ⊢
  obtain⟨a1,a2⟩:=xbR s i 0 _ (by rw[hl];rfl)
  obtain⟨b1,b2⟩:=xbR s i 1 _ (by rw[hl];rfl)
  obtain⟨c1,c2⟩:=xbR s i 2 _ (by rw[hl];rfl)
  obtain⟨d1,d2⟩:=xbR s i 3 _ (by rw[hl];rfl)
  rw[Nat.add_zero] at a2
  rw[decide_eq_true b1,decide_eq_true c1,decide_eq_true d1,xAA (by omega) (by omega) (by omega) (by omega) (by omega) (by omega) (xns (by omega) (by omega) (by omega))]
  exact Prod.ext (by simp only;omega) rfl
theorem xnk {c:Int} (h:Utf8.valid c=true):(0≤c∧c<55296)∨(57344≤c∧c≤1114111):=by
 unfold Utf8.valid at h
 simp at h
 omega
theorem xpF (x0 x1 x2 x3:Nat) (p1 p2 p3:Bool) (h0:x0<256) (h1:x1<256) (h2:x2<256) (h3:x3<256) :
  xpg x0 x1 x2 x3 p1 p2 p3=(65533,1)∨(∃ c,xa3 c=[(x0:Int)])∨(p1=true∧∃ c,xa3 c=[(x0:Int),(x1:Int)])∨(p1=true∧p2=true∧∃ c,xa3 c=[(x0:Int),(x1:Int),(x2:Int)])∨(p1=true∧p2=true∧p3=true∧∃ c,xa3 c=[(x0:Int),(x1:Int),(x2:Int),(x3:Int)]):=by
 unfold xpg
 by_cases c0:x0<128
 ·right;left
  exact⟨x0,xBj (by omega) (by omega)⟩
 rw[if_neg c0]
 split
 ·rename_i c1
  rw[Bool.and_eq_true,Bool.and_eq_true] at c1
  obtain⟨g0,g1,g2⟩:=c1
  replace g0:=eq_of_beq g0
  replace g2:=eq_of_beq g2
  by_cases c2:x0 % 32*64+x1 % 64 ≥ 128
  ·right;right;left
   refine⟨g1,((x0 % 32*64+x1 % 64:Nat):Int),?_⟩
   rw[xBh (by omega) (by omega)]
   simp only[List.cons.injEq,and_true]
   omega
  ·left;rw[if_neg c2]
 split
 ·rename_i c1
  rw[Bool.and_eq_true,Bool.and_eq_true,Bool.and_eq_true,Bool.and_eq_true] at c1
  obtain⟨⟨g0,g1,g2⟩,g3,g4⟩:=c1
  replace g0:=eq_of_beq g0
  replace g2:=eq_of_beq g2
  replace g4:=eq_of_beq g4
  split
  ·rename_i c2
   rw[Bool.and_eq_true] at c2
   have k1:=of_decide_eq_true c2.1
   have k2:=xnk c2.2
   right;right;right;left
   refine⟨g1,g3,((x0 % 16*4096+x1 % 64*64+x2 % 64:Nat):Int),?_⟩
   rw[xBe (by omega) (by omega) (by omega)]
   simp only[List.cons.injEq,and_true]
   omega
  ·exact .inl rfl
 split
 ·rename_i c1
  rw[Bool.and_eq_true,Bool.and_eq_true,Bool.and_eq_true,Bool.and_eq_true,Bool.and_eq_true,Bool.and_eq_true] at c1
  obtain⟨⟨⟨g0,g1,g2⟩,g3,g4⟩,g5,g6⟩:=c1
  replace g0:=eq_of_beq g0
  replace g2:=eq_of_beq g2
  replace g4:=eq_of_beq g4
  replace g6:=eq_of_beq g6
  split
  ·rename_i c2
   rw[Bool.and_eq_true] at c2
   have k1:=of_decide_eq_true c2.1
   have k2:=xnk c2.2
   right;right;right;right
   refine⟨g1,g3,g5,((x0 % 8*262144+x1 % 64*4096+x2 % 64*64+x3 % 64:Nat):Int),?_⟩
   rw[xAZ (by omega) (by omega)]
   simp only[List.cons.injEq,and_true]
   omega
  ·exact .inl rfl
 exact .inl rfl
theorem xk8 (s:ByteArray) (i:Nat) (hi:i<s.size):Utf8.decode s i=(65533,1)∨∃ c t,xa3 c≠[]∧(bI s).drop i=xa3 c++t:=by
 have hsp:∀ k (h:k<s.size),(bI s).drop k=((s.get! k).toNat:Int) :: (bI s).drop (k+1):=fun k h=>by
  have h1:=xvR s k h
  have hk:k<(bI s).length:=by rw[xah];exact h
  rw[List.drop_eq_getElem_cons hk]
  rw[List.getElem?_eq_getElem hk] at h1
  injection h1 with h1
  rw[h1]
 have l0:=hsp i hi
 rw[xjs]
 rcases xpF (s.get! i).toNat (s.get! (i+1)).toNat (s.get! (i+2)).toNat (s.get! (i+3)).toNat (decide (i+1<s.size)) (decide (i+2<s.size)) (decide (i+3<s.size)) (s.get! i).toNat_lt (s.get! (i+1)).toNat_lt (s.get! (i+2)).toNat_lt (s.get! (i+3)).toNat_lt with h|⟨c,h⟩|⟨p1,c,h⟩|⟨p1,p2,c,h⟩|⟨p1,p2,p3,c,h⟩
 ·exact .inl h
 ·exact .inr ⟨c,_,by rw[h];simp,by rw[h,l0];rfl⟩
 ·exact .inr ⟨c,_,by rw[h];simp,by rw[h,l0,hsp (i+1) (of_decide_eq_true p1)];rfl⟩
 ·exact .inr ⟨c,_,by rw[h];simp,by rw[h,l0,hsp (i+1) (of_decide_eq_true p1),hsp (i+2) (of_decide_eq_true p2)];rfl⟩
 ·exact .inr ⟨c,_,by rw[h];simp,by rw[h,l0,hsp (i+1) (of_decide_eq_true p1),hsp (i+2) (of_decide_eq_true p2),hsp (i+3) (of_decide_eq_true p3)];rfl⟩
theorem xbL (s:ByteArray) (i:Nat) (hi:i<s.size):(xaw ((bI s).drop i)=[]∧Utf8.decode s i=(65533,1))∨∃ c,xa3 c=xaw ((bI s).drop i)∧xaw ((bI s).drop i)≠[]∧Utf8.decode s i=(c.toNat,(xaw ((bI s).drop i)).length):=by
 by_cases h:xaw ((bI s).drop i)=[]
 ·left
  refine⟨h,?_⟩
  rcases xk8 s i hi with h1|⟨c,t,h1,h2⟩
  ·exact h1
  ·rw[h2,xfq c t h1] at h
   exact absurd h h1
 ·right
  obtain⟨c,t,h1,h2⟩:=xc4 _ h
  refine⟨c,h1,h,?_⟩
  rw[← h1]
  exact xj7 s i c t (by rw[h1];exact h) (by rw[h1];exact h2)
end Go.Proofs.YtjinnigjfopbcaaGreatDoor
