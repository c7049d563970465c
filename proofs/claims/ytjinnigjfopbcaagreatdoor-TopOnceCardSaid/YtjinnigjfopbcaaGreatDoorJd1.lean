/- dJa dJb dLa dNa dNb dPa dPx dJr dPy dJh dJj dJw dJz dNm dPl dJp dPm dPo dNq dJe dJq dPp dPq dJc dJk dNc. -/
import Derived.Test.YtjinnigjfopbcaaGreatDoorJs
import Derived.Deep.Slices
import Derived.Lib.Strings
import Derived.Test.YtjinnigjfopbcaaGreatDoorRs
import Derived.Test.YtjinnigjfopbcaaGreatDoorRt
import Derived.Lib.AppendIntMem
import Derived.Test.YtjinnigjfopbcaaGreatDoorJb5
namespace Go.Proofs.YtjinnigjfopbcaaGreatDoor
set_option linter.unusedVariables false
set_option linter.unusedSimpArgs false
set_option maxRecDepth 20000
def xe3 (c:Int):List Int :=
 if c<0∨1114111<c∨(55296≤c∧c≤57343) then [] else if c<128 then [c] else if c<2048 then [192+c / 64,128+c % 64]
 else if c<65536 then [224+c / 4096,128+c / 64 % 64,128+c % 64] else [240+c / 262144,128+c / 4096 % 64,128+c / 64 % 64,128+c % 64]
def xny (b0 b1 b2:Int):List Int→List Int
 | []=>[]
 | b3 :: _=>if xe3 (64*(64*(64*(b0 % 8)+b1 % 64)+b2 % 64)+b3 % 64)=[b0,b1,b2,b3] then [b0,b1,b2,b3] else []
def xkw (b0 b1:Int):List Int→List Int
 | []=>[]
 | b2 :: t=>if xe3 (64*(64*(b0 % 16)+b1 % 64)+b2 % 64)=[b0,b1,b2] then [b0,b1,b2] else xny b0 b1 b2 t
def xhm (b0:Int):List Int→List Int
 | []=>[]
 | b1 :: t=>if xe3 (64*(b0 % 32)+b1 % 64)=[b0,b1] then [b0,b1] else xkw b0 b1 t
def xbB:List Int→List Int
 | []=>[]
 | b0 :: t=>if xe3 b0=[b0] then [b0] else xhm b0 t
theorem xdA (c:Int):xe3 c=[]∨(0≤c∧c<128∧xe3 c=[c])∨(128≤c∧c<2048∧xe3 c=[192+c / 64,128+c % 64])∨(2048≤c∧c<65536∧¬ (55296≤c∧c≤57343)∧xe3 c=[224+c / 4096,128+c / 64 % 64,128+c % 64]) ∨
  (65536≤c∧c≤1114111∧xe3 c=[240+c / 262144,128+c / 4096 % 64,128+c / 64 % 64,128+c % 64]):=by
 unfold xe3
 by_cases h0:c<0∨1114111<c∨(55296≤c∧c≤57343)
 ·left;rw[if_pos h0]
 rw[if_neg h0]
 by_cases h1:c<128
 ·right;left;rw[if_pos h1];exact⟨by omega,h1,rfl⟩
 rw[if_neg h1]
 by_cases h2:c<2048
 ·right;right;left;rw[if_pos h2];exact⟨by omega,h2,rfl⟩
 rw[if_neg h2]
 by_cases h3:c<65536
 ·right;right;right;left;rw[if_pos h3];exact⟨by omega,h3,by omega,rfl⟩
 rw[if_neg h3]
 right;right;right;right
 exact⟨by omega,by omega,rfl⟩
theorem xgL (c b0:Int) (h0:128≤b0):xe3 c≠[b0]:=by
 rcases xdA c with h|⟨h1,h2,h⟩|⟨h1,h2,h⟩|⟨h1,h2,_,h⟩|⟨h1,h2,h⟩ <;> rw[h] <;> simp
 omega
theorem xjO (c b0 b1:Int) (h:xe3 c=[b0,b1]):194≤b0∧b0≤223∧128≤b1∧b1<192∧c=64*(b0 % 32)+b1 % 64:=by
 rcases xdA c with h'|⟨h1,h2,h'⟩|⟨h1,h2,h'⟩|⟨h1,h2,_,h'⟩|⟨h1,h2,h'⟩ <;> rw[h'] at h <;> simp at h
 omega
theorem xqt (c b0 b1 b2:Int) (h:xe3 c=[b0,b1,b2]):224≤b0∧b0≤239∧128≤b1∧b1<192∧128≤b2∧b2<192∧c=64*(64*(b0 % 16)+b1 % 64)+b2 % 64:=by
 rcases xdA c with h'|⟨h1,h2,h'⟩|⟨h1,h2,h'⟩|⟨h1,h2,_,h'⟩|⟨h1,h2,h'⟩ <;> rw[h'] at h <;> simp at h
 omega
theorem xuG (c:Int) (t:List Int) (h:xe3 c≠[]):xbB (xe3 c++t)=xe3 c:=by
 rcases xdA c with h'|⟨h1,h2,h'⟩|⟨h1,h2,h'⟩|⟨h1,h2,h3,h'⟩|⟨h1,h2,h'⟩
 ·exact absurd h' h
 ·rw[h',List.singleton_append,xbB,if_pos h']
 ·rw[h']
  have e:64*((192+c / 64) % 32)+(128+c % 64) % 64=c:=by omega
  rw[List.cons_append,List.cons_append,List.nil_append,xbB,if_neg (xgL _ _ (by omega)),xhm,e,if_pos h']
 ·rw[h']
  have e:64*(64*((224+c / 4096) % 16)+(128+c / 64 % 64) % 64)+(128+c % 64) % 64=c:=by omega
  rw[List.cons_append,List.cons_append,List.cons_append,List.nil_append,xbB,if_neg (xgL _ _ (by omega)),xhm,if_neg (fun hq=>by have:=xjO _ _ _ hq;omega),xkw,e,if_pos h']
 ·rw[h']
  have e:64*(64*(64*((240+c / 262144) % 8)+(128+c / 4096 % 64) % 64)+(128+c / 64 % 64) % 64)+(128+c % 64) % 64=c:=by omega
  rw[List.cons_append,List.cons_append,List.cons_append,List.cons_append,List.nil_append,xbB,if_neg (xgL _ _ (by omega)),xhm,if_neg (fun hq=>by have:=xjO _ _ _ hq;omega),xkw,if_neg (fun hq=>by have:=xqt _ _ _ _ hq;omega),xny,e,if_pos h']
theorem xuF (l:List Int) (h:xbB l≠[]):∃ c t,xe3 c=xbB l∧l=xbB l++t:=by
 cases l with
 | nil=>exact absurd rfl h
 | cons b0 t =>
  rw[xbB] at h ⊢
  split
  ·exact⟨b0,t,by assumption,rfl⟩
  rename_i n0
  rw[if_neg n0] at h
  cases t with
  | nil=>exact absurd rfl h
  | cons b1 t =>
   rw[xhm] at h ⊢
   split
   ·exact⟨_,t,by assumption,rfl⟩
   rename_i n1
   rw[if_neg n1] at h
   cases t with
   | nil=>exact absurd rfl h
   | cons b2 t =>
    rw[xkw] at h ⊢
    split
    ·exact⟨_,t,by assumption,rfl⟩
    rename_i n2
    rw[if_neg n2] at h
    cases t with
    | nil=>exact absurd rfl h
    | cons b3 t =>
     rw[xny] at h ⊢
     split
     ·exact⟨_,t,by assumption,rfl⟩
     rename_i n3
     rw[if_neg n3] at h
     exact absurd rfl h
inductive Val:List Int→Nat→Prop
 | nil:Val [] 0
 | cons (c:Int) (l:List Int) (n:Nat):xe3 c≠[]→Val l n→Val (xe3 c++l) (n+1)
def xbx:Nat→List Int→Int
 | 0,l=>if l=[] then 0 else -1
 | f+1,l=>if l=[] then 0 else if xbB l=[] then -1 else if xbx f (l.drop (xbB l).length)<0 then -1 else xbx f (l.drop (xbB l).length)+1
def xbi (l:List Int):Int:=xbx l.length l
theorem xfD:∀ (f:Nat) (l:List Int),-1≤xbx f l
 | 0,l=>by rw[xbx];split <;> omega
 | f+1,l=>by
  have:=xfD f (l.drop (xbB l).length)
  rw[xbx]
  split
  ·omega
  split
  ·omega
  split <;> omega
theorem xpm {l:List Int} {n:Nat} (h:Val l n) (hl:l≠[]):∃ c m k,xe3 c≠[]∧l=xe3 c++m∧n=k+1∧Val m k:=by
 cases h with
 | nil=>exact absurd rfl hl
 | cons c m k h1 h2=>exact⟨c,m,k,h1,rfl,rfl,h2⟩
theorem xfm:∀ (f:Nat) (l:List Int) (n:Nat),l.length≤f→Val l n→xbx f l=n
 | 0,l,n,hf,h=>by
  have:l=[]:=List.eq_nil_of_length_eq_zero (by omega)
  subst this
  cases hn:n with
  | zero=>rfl
  | succ k =>
   subst hn
   generalize hl:([]:List Int)=l at h
   cases h with
   | cons c m k h1 h2=>rcases List.append_eq_nil_iff.1 hl.symm with ⟨h3,_⟩;exact absurd h3 h1
 | f+1,l,n,hf,h=>by
  by_cases hl:l=[]
  ·subst hl
   rw[xbx,if_pos rfl]
   generalize hl:([]:List Int)=l at h
   cases h with
   | nil=>rfl
   | cons c m k h1 h2=>rcases List.append_eq_nil_iff.1 hl.symm with ⟨h3,_⟩;exact absurd h3 h1
  ·obtain⟨c,m,k,h1,rfl,rfl,h2⟩:=xpm h hl
   rw[xbx,if_neg hl,xuG c m h1,if_neg h1,List.drop_left]
   have hp:0<(xe3 c).length:=List.length_pos_iff.2 h1
   rw[List.length_append] at hf
   rw[xfm f m k (by omega) h2,if_neg (by omega)]
   push_cast
   rfl
theorem xfO:∀ (f:Nat) (l:List Int),0≤xbx f l→∃ n,Val l n∧xbx f l=n
 | 0,l,h=>by
  rw[xbx] at h ⊢
  split at h
  ·rename_i hl;subst hl;exact⟨0,.nil,rfl⟩
  ·omega
 | f+1,l,h=>by
  rw[xbx] at h ⊢
  by_cases hl:l=[]
  ·subst hl;rw[if_pos rfl];exact⟨0,.nil,rfl⟩
  rw[if_neg hl] at h ⊢
  by_cases hr:xbB l=[]
  ·rw[if_pos hr] at h;omega
  rw[if_neg hr] at h ⊢
  split at h
  ·omega
  rename_i hc
  obtain⟨n,h1,h2⟩:=xfO f (l.drop (xbB l).length) (by omega)
  rw[if_neg hc,h2]
  obtain⟨c,t,h3,h4⟩:=xuF l hr
  refine⟨n+1,?_,by push_cast;rfl⟩
  have h5:l.drop (xbB l).length=t:=by
   have e:=congrArg (List.drop (xbB l).length) h4
   rw[List.drop_left' rfl] at e
   exact e
  rw[h5] at h1
  rw[h4,← h3]
  exact .cons c t n (by rw[h3];exact hr) h1
theorem xrm {l:List Int} {n:Nat} (h:Val l n):xbi l=n:=xfm _ l n (Nat.le_refl _) h
theorem xpB {l:List Int} (h:0≤xbi l):∃ n,Val l n∧xbi l=n:=xfO l.length l h
theorem xqS {l:List Int} (h:xbi l<0):xbi l=-1:=by have:=xfD l.length l;unfold xbi at h ⊢;omega
def xwX (d:Int):Int:=if d<10 then 48+d else 87+d
def xuY (c:Int):List Int :=
 if c=34 then [92,34] else if c=92 then [92,92] else if c=8 then [92,98] else if c=9 then [92,116] else if c=10 then [92,110] else if c=12 then [92,102] else if c=13 then [92,114]
 else if c<32 then [92,117,48,48,xwX (c / 16),xwX (c % 16)] else [c]
def xpV (b:Int):List Int:=if b<128 then xuY b else [b]
def xf7 (l:List Int):List Int:=l.flatMap xpV
def xj8 (l:List Int):List Int × Int:=if xbi l<0 then ([],4) else (34 :: xf7 l++[34],0)
def xw2 (c:Int):Int:=if 48≤c∧c≤57 then c - 48 else if 97≤c∧c≤102 then c - 87 else if 65≤c∧c≤70 then c - 55 else -1
def xwG (i:Nat) (b:Int):Prop:=(i=0∧b≠92)∨(i=1∧b≠117)∨(1<i∧xw2 b<0)
instance (i:Nat) (b:Int):Decidable (xwG i b):=by unfold xwG;infer_instance
def xuV:Nat→Nat→Int→List Int→Int × Int
 | 0,_,c,_=>(c,0)
 | _+1,_,_,[]=>(0,3)
 | f+1,i,c,b :: t=>if xwG i b then (0,4) else xuV f (i+1) (if 1<i then 16*c+xw2 b else c) t
def xeQ (l:List Int):Int × Int:=xuV 6 0 0 l
def xxb (b:Int):Option Int :=
 if b=34 then some 34 else if b=92 then some 92 else if b=47 then some 47 else if b=98 then some 8 else if b=102 then some 12 else if b=110 then some 10 else if b=114 then some 13 else if b=116 then some 9 else none
inductive St
 | short
 | form
 | fin
 | piece (t:List Int) (n:Nat)
deriving DecidableEq
def xwS (e:Int):St:=if e=3 then .short else .form
def xxe (l:List Int):St :=
 match l with
 | _ :: b :: _=>match xxb b with
  | some x=>.piece [x] 2
  | none=>if (xeQ l).2≠0 then xwS (xeQ l).2 else if (xeQ l).1<55296∨57343<(xeQ l).1 then .piece (xe3 (xeQ l).1) 6 else if 56319<(xeQ l).1 then .form else
   if (xeQ (l.drop 6)).2≠0 then xwS (xeQ (l.drop 6)).2 else if (xeQ (l.drop 6)).1<56320∨57343<(xeQ (l.drop 6)).1 then .form
   else .piece (xe3 (65536+1024*((xeQ l).1 - 55296)+(xeQ (l.drop 6)).1 - 56320)) 12
 | _=>.short
def xok:List Int→St
 | []=>.short
 | b :: t=>if b=34 then .fin else if b=92 then xxe (b :: t) else if xbB (b :: t)=[]∨b<32 then .form else .piece (xbB (b :: t)) (xbB (b :: t)).length
def xiJ:Nat→List Int→Nat→List Int→List Int × Nat × Int
 | 0,l,p,_=>([],p+l.length,3)
 | f+1,l,p,out=>match xok l with
  | .short=>([],p+l.length,3)
  | .form=>([],p,4)
  | .fin=>(out,p+1,0)
  | .piece t n=>xiJ f (l.drop n) (p+n) (out++t)
mutual
inductive Js
 | nul
 | bool (b:Bool)
 | num (n:Int)
 | str (s:List Int)
 | arr (l:Jl)
 | obj (l:Jl)
 | bad
inductive Jl
 | nil
 | cons (name:List Int) (v:Js) (l:Jl)
end
def Jl.length:Jl→Nat
 | .nil=>0
 | .cons _ _ l=>l.length+1
def xxa:Int:=9007199254740991
def isB (b:Int):Bool:=b == 32 || b == 9 || b == 10 || b == 13
def xaM:List Int→Nat
 | []=>0
 | b :: t=>if isB b then xaM t+1 else 0
def isN (b:Int):Bool:=(48≤b && b≤57) || b == 43 || b == 45 || b == 46 || b == 101 || b == 69
def xjw:List Int→Nat
 | []=>0
 | b :: t=>if isN b then xjw t+1 else 0
def isD (b:Int):Bool:=48≤b && b≤57
def xwH (l:List Int):Int:=l.foldl (fun n c=>10*n+(c - 48)) 0
def xjd:List Int→List Int
 | []=>[]
 | b :: t=>if b=45 then t else b :: t
def xv4:List Int→Bool
 | []=>false
 | b :: _=>b == 45
def xwB (t:List Int):Prop:=xjd t=[]∨(xjd t).head?=some 48∧(1<(xjd t).length∨xv4 t=true)∨¬ (xjd t).all isD=true
instance (t:List Int):Decidable (xwB t):=by unfold xwB;infer_instance
def xw6 (l:List Int):Js × Nat × Int :=
 if xwB (l.take (xjw l)) then (.nul,0,4) else if xxa<xwH (xjd (l.take (xjw l))) then (.nul,0,11)
 else (.num (if xv4 (l.take (xjw l)) then - xwH (xjd (l.take (xjw l))) else xwH (xjd (l.take (xjw l)))),xjw l,0)
def xmv:List Int→List Int→Nat→Nat × Int
 | [],_,i=>(i,0)
 | _ :: _,[],i=>(i,3)
 | c :: w,b :: t,i=>if b=c then xmv w t (i+1) else (0,4)
def xuy (w:List Int) (v:Js) (l:List Int):Js × Nat × Int:=if (xmv w l 0).2=0 then (v,(xmv w l 0).1,0) else (.nul,(xmv w l 0).1,(xmv w l 0).2)
def xl3:List Int→List Int × Nat × Int
 | []=>([],0,3)
 | b :: t=>if b=34 then xiJ (t.length+1) t 1 [] else ([],0,4)
def xqo (l:List Int):Int:=l.headD (-1)
mutual
def xr0:Nat→Nat→List Int→Js × Nat × Int
 | 0,_,l=>(.nul,l.length,3)
 | _+1,_,[]=>(.nul,0,3)
 | f+1,d,b :: t =>
  if b=110 then xuy [110,117,108,108] .nul (b :: t)
  else if b=102 then xuy [102,97,108,115,101] (.bool false) (b :: t)
  else if b=116 then xuy [116,114,117,101] (.bool true) (b :: t)
  else if b=34 then (if (xl3 (b :: t)).2.2=0 then (.str (xl3 (b :: t)).1,(xl3 (b :: t)).2.1,0) else (.nul,(xl3 (b :: t)).2.1,(xl3 (b :: t)).2.2))
  else if b=91∨b=123 then
   (if 4<d then (.nul,0,20) else if xqo (t.drop (xaM t))=b+2 then (if b=91 then .arr .nil else .obj .nil,xaM t+2,0)
   else if (xfu f d (decide (b=123)) (b+2) [] 0 (t.drop (xaM t))).2.2≠0 then (.nul,xaM t+1+(xfu f d (decide (b=123)) (b+2) [] 0 (t.drop (xaM t))).2.1,(xfu f d (decide (b=123)) (b+2) [] 0 (t.drop (xaM t))).2.2)
   else (if b=91 then .arr (xfu f d (decide (b=123)) (b+2) [] 0 (t.drop (xaM t))).1 else .obj (xfu f d (decide (b=123)) (b+2) [] 0 (t.drop (xaM t))).1,xaM t+1+(xfu f d (decide (b=123)) (b+2) [] 0 (t.drop (xaM t))).2.1,0))
  else if b=45∨isD b=true then xw6 (b :: t)
  else (.nul,0,4)
def xfu:Nat→Nat→Bool→Int→List (List Int)→Nat→List Int→Jl × Nat × Int
 | 0,_,_,_,_,_,l=>(.nil,l.length,3)
 | f+1,d,ob,fin,names,k,l =>
  if l≠[]∧64≤k then (.nil,0,21)
  else match xwr ob names l with
  | (name,at_,e)=>if e≠0 then (.nil,at_,e) else
   match xr0 f (d+1) (l.drop at_) with
   | (v,n,e2)=>if e2≠0 then (.nil,at_+n,e2) else
    (let m:=at_+n+xaM (l.drop (at_+n))
    if l.drop m=[] then (.nil,m,3) else if xqo (l.drop m)=fin then (.cons name v .nil,m+1,0) else if xqo (l.drop m)≠44 then (.nil,m,4) else
    (let q:=m+1+xaM (l.drop (m+1))
    match xfu f d ob fin (names++[name]) (k+1) (l.drop q) with
    | (r,j,e3)=>if e3≠0 then (.nil,q+j,e3) else (.cons name v r,q+j,0)))
def xwr (ob:Bool) (names:List (List Int)) (l:List Int):List Int × Nat × Int :=
 if ob=false then ([],0,0) else
 match xl3 l with
 | (name,n,e)=>if e≠0 then ([],n,e) else if name ∈ names then ([],0,22) else
  (let m:=n+xaM (l.drop n)
  if l.drop m=[] then ([],m,3) else if xqo (l.drop m)≠58 then ([],m,4) else (name,m+1+xaM (l.drop (m+1)),0))
end
def xwx (l:List Int):Nat:=2*l.length+1
def xt5 (s:List Int):Js × Nat × Int :=
 if 4096<s.length then (.nul,0,5) else
 match xr0 (xwx s) 1 (s.drop (xaM s)) with
 | (v,n,e)=>if e≠0 then (.nul,xaM s+n,e) else
  (let m:=xaM s+n+xaM (s.drop (xaM s+n))
  if m<s.length then (.nul,m,4) else (v,m,0))
end Go.Proofs.YtjinnigjfopbcaaGreatDoor
namespace Go.Proofs.YtjinnigjfopbcaaGreatDoor
set_option linter.unusedVariables false
set_option linter.unusedSimpArgs false
open Go.RowKit Go.ChangeShapes Go.WideShapes Go.Deep
set_option maxRecDepth 20000
mutual
inductive Nt
 | mk (kind n:Int) (s:ByteArray) (nv:Value) (names:List ByteArray) (kv:Value) (kids:Nl)
inductive Nl
 | nil
 | cons (h:Nt) (t:Nl)
end
instance:Inhabited Nt:=⟨.mk 0 0 ByteArray.empty (.slice none 0 0) [] (.slice none 0 0) .nil⟩
def Nl.len:Nl→Nat
 | .nil=>0
 | .cons _ t=>t.len+1
def xtV:Nt→List Value
 | .mk k n s nv _ kv _=>[.int .u8 k,.int .i64 n,.string s,nv,kv]
def xe0 (w:World) (v:Value) (l:List ByteArray):Prop :=
 ∃ a cap,v=.slice a l.length cap∧l.length≤cap∧cap≤maxLen∧∀ k s,l[k]?=some s→∃ g off,a=some ⟨g,off,none⟩∧g<w.heap.size∧w.cell? ⟨g,off+k,none⟩=some (.string s)∧s.size≤maxLen
def xjQ (w:World) (a:Option Addr) (i:Nat) (v:Nt):Prop :=
 ∃ g off,a=some ⟨g,off,none⟩∧g<w.heap.size∧∀ j,j<5→w.cell? ⟨g,off+i*5+j,none⟩=(xtV v)[j]?
mutual
def Nt.In (w:World):Nt→Prop
 | .mk k n s nv names kv kids=>(0≤k∧k<256)∧(-9223372036854775808≤n∧n<9223372036854775808)∧s.size≤maxLen∧xe0 w nv names∧∃ a cap,kv=.slice a kids.len cap∧kids.len≤cap∧cap≤maxLen∧Nl.In w a 0 kids
def Nl.In (w:World) (a:Option Addr) (i:Nat):Nl→Prop
 | .nil=>True
 | .cons h t=>xjQ w a i h∧Nt.In w h∧Nl.In w a (i+1) t
end
theorem xe0.below {w w':World} {v:Value} {l:List ByteArray} (h:xe0 w v l) (hb:Below w.heap.size w w'):xe0 w' v l:=by
 obtain⟨a,cap,rfl,h1,h2,hc⟩:=h
 refine⟨a,cap,rfl,h1,h2,fun k s hk=>?_⟩
 obtain⟨g,off,e,hg,hc,hs⟩:=hc k s hk
 exact⟨g,off,e,Nat.lt_of_lt_of_le hg hb.size,(hb.cell hg).trans hc,hs⟩
theorem xjQ.below {w w':World} {a:Option Addr} {i:Nat} {v:Nt} (h:xjQ w a i v) (hb:Below w.heap.size w w'):xjQ w' a i v:=by
 obtain⟨g,off,e,hg,hc⟩:=h
 exact⟨g,off,e,Nat.lt_of_lt_of_le hg hb.size,fun j hj=>(hb.cell hg).trans (hc j hj)⟩
mutual
theorem Nt.In.below {w w':World} (hb:Below w.heap.size w w'):∀ {v:Nt},v.In w→v.In w'
 | .mk k n s nv names kv kids,h=>by
  rw[Nt.In] at h ⊢
  obtain⟨h1,h2,h3,h4,a,cap,h5,h6,h7,h8⟩:=h
  exact⟨h1,h2,h3,h4.below hb,a,cap,h5,h6,h7,Nl.In.below hb h8⟩
theorem Nl.In.below {w w':World} (hb:Below w.heap.size w w'):∀ {l:Nl} {a:Option Addr} {i:Nat},l.In w a i→l.In w' a i
 | .nil,_,_,_=>by rw[Nl.In];trivial
 | .cons h t,a,i,e=>by
  rw[Nl.In] at e ⊢
  exact⟨e.1.below hb,Nt.In.below hb e.2.1,Nl.In.below hb e.2.2⟩
end
end Go.Proofs.YtjinnigjfopbcaaGreatDoor
namespace Go.Proofs.YtjinnigjfopbcaaGreatDoor
set_option linter.unusedVariables false
set_option linter.unusedSimpArgs false
set_option maxRecDepth 20000
def Nl.drop:Nl→Nat→Nl
 | l,0=>l
 | .nil,_+1=>.nil
 | .cons _ t,i+1=>t.drop i
theorem Nl.drop_zero (l:Nl):l.drop 0=l:=by cases l <;> rfl
end Go.Proofs.YtjinnigjfopbcaaGreatDoor
namespace Go.Proofs.YtjinnigjfopbcaaGreatDoor
set_option linter.unusedVariables false
set_option linter.unusedSimpArgs false
open Go.RowKit
set_option maxRecDepth 20000
def Jl.drop:Jl→Nat→Jl
 | l,0=>l
 | .nil,_+1=>.nil
 | .cons _ _ l,i+1=>l.drop i
theorem Jl.drop_zero (l:Jl):l.drop 0=l:=by cases l <;> rfl
end Go.Proofs.YtjinnigjfopbcaaGreatDoor
namespace Go.Proofs.YtjinnigjfopbcaaGreatDoor
set_option linter.unusedVariables false
set_option linter.unusedSimpArgs false
open Go.RowKit
set_option maxRecDepth 20000
set_option maxHeartbeats 4000000
def xwd (B:Nat) (W:World):Prop:=QTab W∧6<B∧3<B
theorem QTab.low {W:World} (h:QTab W) (B:Nat) (hB:W.heap.size≤B):xwd B W:=by
 obtain⟨h1,ev,h2,h3⟩:=h
 refine⟨⟨h1,ev,h2,h3⟩,?_,?_⟩
 ·refine Nat.lt_of_lt_of_le ?_ hB
  unfold Lib.TabIs World.var? at h1
  rw[gPow] at h1
  simp only[Option.bind_some] at h1
  rcases Nat.lt_or_ge 6 W.heap.size with h'|h'
  ·exact h'
  ·rw[Array.getElem?_eq_none h'] at h1;cases h1
 ·exact Nat.lt_of_lt_of_le (World.block_lt_of_cell? _ _ h2) hB
theorem xwd.below {B:Nat} {W W':World} (h:xwd B W) (hb:Below B W W'):xwd B W':=by
 obtain⟨⟨h1,ev,h2,h3⟩,h4,h5⟩:=h
 refine⟨⟨?_,ev,(hb.cell (p:=⟨3,0,none⟩) h5).trans h2,h3⟩,h4,h5⟩
 unfold Lib.TabIs World.var? at h1 ⊢
 rw[gPow] at h1 ⊢
 simp only[Option.bind_some] at h1 ⊢
 rw[hb.block _ h4]
 exact h1
def xwe (out add out':List Int):Prop:=out'.length≤(out++add).length∧((∀ b ∈ out,0≤b∧b<256)→∀ b ∈ out',0≤b∧b<256)∧(out'=out++add∨4096<out'.length∧4096<(out++add).length)
theorem xwe.trans {a b c d e:List Int} (h:xwe a b c) (g:xwe c d e):xwe a (b++d) e:=by
 obtain⟨h1,h2,h3⟩:=h
 obtain⟨g1,g2,g3⟩:=g
 rw[List.length_append] at h1 g1
 refine⟨by simp only[List.length_append];omega,fun x=>g2 (h2 x),?_⟩
 rcases h3 with rfl|⟨h3,h4⟩
 ·rcases g3 with rfl|⟨g3,g4⟩
  ·exact .inl (by rw[List.append_assoc])
  ·exact .inr ⟨g3,by rw[← List.append_assoc];exact g4⟩
 ·rw[List.length_append] at h4
  refine .inr ⟨?_,by simp only[List.length_append];omega⟩
  rcases g3 with rfl|⟨g3,g4⟩
  ·rw[List.length_append];omega
  ·exact g3
end Go.Proofs.YtjinnigjfopbcaaGreatDoor
namespace Go.Proofs.YtjinnigjfopbcaaGreatDoor
set_option linter.unusedVariables false
set_option linter.unusedSimpArgs false
open Go.RowKit
set_option maxRecDepth 20000
abbrev OK (B:Nat) (W W':World):Prop:=Lib.OthersKept 5 (some B) W W'
def Bd (B:Nat) (out:List Int) (W:World):Prop:=Lib.IsBuilderF 254 5 B B (out.map (Value.int .u8)) W
theorem Bd.lt {B:Nat} {out:List Int} {W:World} (h:Bd B out W):B<W.heap.size:=by
 rcases h with h|h <;> exact h.lt
theorem Bd.alloc {B:Nat} {out:List Int} {W:World} (h:Bd B out W) (o:Obj):Bd B out (W.alloc o):=Lib.IsBuilderF.alloc h o
theorem xvB (s p:ByteArray) (w:World):Calls Tryz.prog 280 #[.string s,.string p] w fun e w'=>e=.returned (.bool (Lib.hasPrefix s.data.toList p.data.toList))∧w'=w:=Any.strings_HasPrefix hpL s p w
end Go.Proofs.YtjinnigjfopbcaaGreatDoor
namespace Go.Proofs.YtjinnigjfopbcaaGreatDoor
set_option linter.unusedVariables false
set_option linter.unusedSimpArgs false
open Go.RowKit
set_option maxRecDepth 20000
set_option maxHeartbeats 4000000
theorem OK.obj {B:Nat} {W W':World} (h:OK B W W') {k:Nat} {cs:Array Value} {T:TypeId} {fz:Nat × Nat} (hk:W.heap[k]?=some (.cells cs T fz)) (hB:k≠B) (hT:T≠5):W'.heap[k]?=some (.cells cs T fz) :=
 h k _ hk (fun e=>hB (by injection e)) (fun c f e=>hT (by injection e))
end Go.Proofs.YtjinnigjfopbcaaGreatDoor
namespace Go.Proofs.YtjinnigjfopbcaaGreatDoor
set_option linter.unusedVariables false
set_option linter.unusedSimpArgs false
open Go.RowKit
set_option maxRecDepth 20000
theorem xkT (f:Nat) (l:List Int) (h:l.length≤f):xbx f l=xbi l:=by
 by_cases hp:0≤xbi l
 ·obtain⟨n,h1,h2⟩:=xpB hp
  rw[h2,xfm f l n h h1]
 ·have h1:=xqS (l:=l) (by omega)
  by_cases hf:0≤xbx f l
  ·obtain⟨n,h2,h3⟩:=xfO f l hf
   rw[xrm h2] at h1
   omega
  ·have:=xfD f l
   omega
theorem xoD:xbi []=0:=rfl
theorem xlg {l:List Int} (hl:l≠[]):xbi l=if xbB l=[] then -1 else if xbi (l.drop (xbB l).length)<0 then -1 else xbi (l.drop (xbB l).length)+1:=by
 cases l with
 | nil=>exact absurd rfl hl
 | cons b t =>
  have e:xbi (b :: t)=xbx (t.length+1) (b :: t):=rfl
  rw[e,xbx,if_neg hl]
  by_cases hr:xbB (b :: t)=[]
  ·rw[if_pos hr,if_pos hr]
  ·rw[if_neg hr,if_neg hr,xkT t.length _ (by have:=List.length_pos_iff.2 hr;rw[List.length_drop,List.length_cons];omega)]
theorem xmD (b:Int):(xpV b).length≤6:=by
 unfold xpV xuY
 repeat' split
 all_goals simp
theorem xfY:∀ l:List Int,(xf7 l).length≤6*l.length
 | []=>by simp[xf7]
 | b :: l=>by
  have h1:=xmD b
  have h2:=xfY l
  have e:xf7 (b :: l)=xpV b++xf7 l:=rfl
  rw[e,List.length_append,List.length_cons]
  omega
theorem xuH (s:ByteArray) (k:Nat) (hk:k<s.size):(bI s).drop k≠[]:=by
 intro e
 have:=congrArg List.length e
 rw[List.length_drop,xdN] at this
 simp at this
 omega
structure QInv (s:ByteArray) (k:Nat) (out:List Int):Prop where
 le:k≤s.size
 cnt:xbi (bI s)<0↔xbi ((bI s).drop k)<0
 out_:out=34 :: xf7 ((bI s).take k)
theorem QInv.zero (s:ByteArray):QInv s 0 ([]++[34]):=⟨Nat.zero_le _,by rw[List.drop_zero],by rw[List.take_zero];rfl⟩
theorem QInv.len {s:ByteArray} {k:Nat} {out:List Int} (h:QInv s k out):out.length≤6*s.size+1:=by
 have h1:=xfY ((bI s).take k)
 have h2:((bI s).take k).length≤s.size:=by rw[List.length_take,xdN];omega
 rw[h.out_,List.length_cons]
 omega
theorem QInv.bad {s:ByteArray} {k:Nat} {out:List Int} (h:QInv s k out) (hk:k<s.size) (hl:xbB ((bI s).drop k)=[]):xj8 (bI s)=([],4):=by
 have h1:xbi (bI s)<0:=h.cnt.2 (by rw[xlg (xuH s k hk),if_pos hl];decide)
 unfold xj8
 rw[if_pos h1]
theorem QInv.fin {s:ByteArray} {k:Nat} {out:List Int} (h:QInv s k out) (hk:¬ k<s.size):xj8 (bI s)=(out++[34],0):=by
 have e:k=s.size:=by have:=h.le;omega
 have h1:¬ xbi (bI s)<0:=by
  rw[h.cnt,List.drop_of_length_le (by rw[xdN];omega),xoD]
  decide
 unfold xj8
 rw[if_neg h1,h.out_,List.take_of_length_le (by rw[xdN];omega)]
mutual
def xbD (S:Nat→Prop) (w:World):Js→Value→Prop
 | .nul,x=>x=.nilIface
 | .bool b,x=>x=.iface 4 (.bool b)
 | .num n,x=>x=.iface 3 (.int .i64 n)
 | .str s,x=>∃ t:ByteArray,x=.iface 9 (.string t)∧bI t=s∧s.length≤5000
 | .arr l,x=>∃ a cap,x=.iface 397 (.slice a l.length cap)∧l.length≤cap∧cap≤maxLen∧xpA S w a 0 l
 | .obj l,x=>∃ a cap,x=.iface 157 (.slice a l.length cap)∧l.length≤cap∧cap≤maxLen∧xq2 S w a 0 l
 | .bad,x=>x=.iface 100000 (.float .f64 4609434218613702656)
def xpA (S:Nat→Prop) (w:World) (a:Option Addr) (i:Nat):Jl→Prop
 | .nil=>True
 | .cons n v l=>(∃ g off y,a=some ⟨g,off,none⟩∧S g∧g<w.heap.size∧w.cell? ⟨g,off+i,none⟩=some y∧xbD S w v y)∧xpA S w a (i+1) l
def xq2 (S:Nat→Prop) (w:World) (a:Option Addr) (i:Nat):Jl→Prop
 | .nil=>True
 | .cons n v l=>(∃ g off y t,a=some ⟨g,off,none⟩∧S g∧g<w.heap.size∧w.cell? ⟨g,off+i*2,none⟩=some (.string t)∧bI t=n∧n.length≤5000∧w.cell? ⟨g,off+i*2+1,none⟩=some y∧xbD S w v y)∧xq2 S w a (i+1) l
end
mutual
theorem xbD.keep {S S':Nat→Prop} {w w':World} (hS:∀ b,S b→b<w.heap.size→S' b) (hs:w.heap.size≤w'.heap.size) (hk:∀ b,S b→b<w.heap.size→w'.heap[b]?=w.heap[b]?):∀ (v:Js) (x:Value),xbD S w v x→xbD S' w' v x
 | .nul,x,h=>by rw[xbD] at h ⊢;exact h
 | .bool b,x,h=>by rw[xbD] at h ⊢;exact h
 | .num n,x,h=>by rw[xbD] at h ⊢;exact h
 | .str s,x,h=>by rw[xbD] at h ⊢;exact h
 | .arr l,x,h=>by
  rw[xbD] at h ⊢
  obtain⟨a,cap,h1,h2,h3,h4⟩:=h
  exact⟨a,cap,h1,h2,h3,xpA.keep hS hs hk l a 0 h4⟩
 | .obj l,x,h=>by
  rw[xbD] at h ⊢
  obtain⟨a,cap,h1,h2,h3,h4⟩:=h
  exact⟨a,cap,h1,h2,h3,xq2.keep hS hs hk l a 0 h4⟩
 | .bad,x,h=>by rw[xbD] at h ⊢;exact h
theorem xpA.keep {S S':Nat→Prop} {w w':World} (hS:∀ b,S b→b<w.heap.size→S' b) (hs:w.heap.size≤w'.heap.size) (hk:∀ b,S b→b<w.heap.size→w'.heap[b]?=w.heap[b]?):∀ (l:Jl) (a:Option Addr) (i:Nat),xpA S w a i l→xpA S' w' a i l
 | .nil,a,i,h=>by rw[xpA];trivial
 | .cons n v l,a,i,h=>by
  rw[xpA] at h ⊢
  obtain⟨⟨g,off,y,h1,h2,h3,h4,h5⟩,h6⟩:=h
  exact⟨⟨g,off,y,h1,hS g h2 h3,Nat.lt_of_lt_of_le h3 hs,(World.cell?_of_block (a:=⟨g,off+i,none⟩) (hk g h2 h3)).trans h4,xbD.keep hS hs hk v y h5⟩,xpA.keep hS hs hk l a (i+1) h6⟩
theorem xq2.keep {S S':Nat→Prop} {w w':World} (hS:∀ b,S b→b<w.heap.size→S' b) (hs:w.heap.size≤w'.heap.size) (hk:∀ b,S b→b<w.heap.size→w'.heap[b]?=w.heap[b]?):∀ (l:Jl) (a:Option Addr) (i:Nat),xq2 S w a i l→xq2 S' w' a i l
 | .nil,a,i,h=>by rw[xq2];trivial
 | .cons n v l,a,i,h=>by
  rw[xq2] at h ⊢
  obtain⟨⟨g,off,y,t,h1,h2,h3,h4,h7,h8,h5,h9⟩,h6⟩:=h
  exact⟨⟨g,off,y,t,h1,hS g h2 h3,Nat.lt_of_lt_of_le h3 hs,(World.cell?_of_block (a:=⟨g,off+i*2,none⟩) (hk g h2 h3)).trans h4,h7,h8,(World.cell?_of_block (a:=⟨g,off+i*2+1,none⟩) (hk g h2 h3)).trans h5,xbD.keep hS hs hk v y h9⟩,xq2.keep hS hs hk l a (i+1) h6⟩
end
theorem xbD.below {S:Nat→Prop} {w w':World} {v:Js} {x:Value} (h:xbD S w v x) (hb:Below w.heap.size w w'):xbD S w' v x:=xbD.keep (fun _ e _=>e) hb.size (fun b _ hlt=>hb.block b hlt) v x h
theorem xbD.mono {S S':Nat→Prop} {w:World} {v:Js} {x:Value} (h:xbD S w v x) (hS:∀ b,S b→S' b):xbD S' w v x:=xbD.keep (fun b e _=>hS b e) (Nat.le_refl _) (fun _ _ _=>rfl) v x h
abbrev Its:=List (List Int × Js)
def szI (pr:Bool):Nat:=if pr then 2 else 1
def tyI (pr:Bool):TypeId:=if pr then 404 else 20
def xgl (pr:Bool) (S:Nat→Prop) (w:World) (p:List Int × Js) (cs:List Value):Prop :=
 ∃ x,xbD S w p.2 x∧if pr=true then ∃ t:ByteArray,cs=[.string t,x]∧bI t=p.1∧p.1.length≤5000 else cs=[x]
theorem xgl.len {pr:Bool} {S:Nat→Prop} {w:World} {p:List Int × Js} {cs:List Value} (h:xgl pr S w p cs):cs.length=szI pr:=by
 obtain⟨x,_,h⟩:=h
 cases pr
 ·simp at h;rw[h];rfl
 ·simp at h;obtain⟨t,rfl,_⟩:=h;rfl
theorem xgl.keep {pr:Bool} {S S':Nat→Prop} {w w':World} {p:List Int × Js} {cs:List Value} (hS:∀ b,S b→b<w.heap.size→S' b) (hs:w.heap.size≤w'.heap.size) (hk:∀ b,S b→b<w.heap.size→w'.heap[b]?=w.heap[b]?) (h:xgl pr S w p cs):xgl pr S' w' p cs:=by
 obtain⟨x,hx,h⟩:=h
 exact⟨x,xbD.keep hS hs hk _ _ hx,h⟩
def xlx (pr:Bool) (B:Nat) (X:Nat→Prop) (vs:Its) (l:Value) (w:World):Prop :=
 ∃ xs:List Value,w.ownsRow B (tyI pr) (szI pr) l vs.length xs∧∀ j p,vs[j]?=some p→xgl pr (fun b=>X b∧l.ownBlock≠some b) w p ((xs.drop (j*szI pr)).take (szI pr))
theorem xsL {pr:Bool} {B:Nat} {X:Nat→Prop} {vs:Its} {l:Value} {w:World} (h:xlx pr B X vs l w):∀ b,l.ownBlock=some b→B≤b∧b<w.heap.size:=by
 obtain⟨xs,h1,_⟩:=h
 exact World.ownsRow.lt h1
theorem xnr {pr:Bool} {B:Nat} {X:Nat→Prop} {vs:Its} {l:Value} {w w':World} (h:xlx pr B X vs l w) (hs:w.heap.size≤w'.heap.size) (hr:∀ b,l.ownBlock=some b→w'.heap[b]?=w.heap[b]?) (hk:∀ b,X b→l.ownBlock≠some b→b<w.heap.size→w'.heap[b]?=w.heap[b]?):xlx pr B X vs l w':=by
 obtain⟨xs,h1,h2⟩:=h
 refine⟨xs,?_,fun j p hp=>(h2 j p hp).keep (fun _ e _=>e) hs (fun b hb hlt=>hk b hb.1 hb.2 hlt)⟩
 obtain⟨g1,g2⟩:=h1
 refine⟨g1,?_⟩
 rcases g2 with g2|⟨g,cap,cur,hv,hg,hh,r⟩
 ·exact .inl g2
 ·refine .inr ⟨g,cap,cur,hv,hg,?_,r⟩
  rw[hr g (by rw[hv];rfl)];exact hh
theorem xlA {pr:Bool} {B:Nat} {X:Nat→Prop} {vs:Its} {l:Value} {w w':World} (h:xlx pr B X vs l w) (hb:Below w.heap.size w w'):xlx pr B X vs l w' :=
 xnr h hb.size (fun b e=>hb.block b (xsL h b e).2) (fun b _ _ hlt=>hb.block b hlt)
theorem bf {a:Nat} {b:Nat} (h:a≠b):(a == b)=false:=by simpa using h
end Go.Proofs.YtjinnigjfopbcaaGreatDoor
namespace Go.Proofs.YtjinnigjfopbcaaGreatDoor
set_option linter.unusedVariables false
set_option linter.unusedSimpArgs false
open Go.RowKit
set_option maxRecDepth 20000
set_option maxHeartbeats 2000000
def BEq (l:List Int) (n k:Nat):Prop:=n≤k∧k≤l.length∧k+xaM (l.drop k)=n+xaM (l.drop n)
def xwR (R:(List Int × Js) × Nat × Int) (l:List Int) (q:Nat) (I:Its→World→Prop) (vs:Its) (e:Ending) (W':World):Prop :=
 ∃ vs' k,e=.returned (.tuple #[.int .i64 ((q+k:Nat):Int),.int .i64 R.2.2])∧I vs' W'∧(R.2.2=0→vs'=vs++[R.1]∧BEq l R.2.1 k)∧(R.2.2≠0→k=R.2.1)
structure Ls (pr:Bool) (bs bd B bl:Nat) (s:ByteArray) (d:Nat) (w0:World) (vs:Its) (W:World):Prop where
 ex:∃ l,W.cell? ⟨bl,0,none⟩=some l∧xlx pr B (fun b=>B≤b∧b≠bl) vs l W∧l.ownBlock≠some bl
 free:W.frozen? ⟨bl,0,none⟩=false
 cs:W.cell? ⟨bs,0,none⟩=some (.string s)
 cd:W.cell? ⟨bd,0,none⟩=some (.int .i64 d)
 ord:w0.heap.size≤bs∧bs<B∧w0.heap.size≤bd∧bd<B∧B≤bl∧bl<W.heap.size
 bel:Below w0.heap.size w0 W
theorem Ls.below {pr:Bool} {bs bd B bl:Nat} {s:ByteArray} {d:Nat} {w0:World} {vs:Its} {W W':World} (h:Ls pr bs bd B bl s d w0 vs W) (hb:Below W.heap.size W W'):Ls pr bs bd B bl s d w0 vs W':=by
 obtain⟨⟨l,h1,h2,h3⟩,hf,hs,hd,⟨o1,o2,o3,o4,o5,o6⟩,hbl⟩:=h
 refine⟨⟨l,(hb.cell (p:=⟨bl,0,none⟩) o6).trans h1,xlA h2 hb,h3⟩,(World.frozen?_of_block (a:=⟨bl,0,none⟩) (hb.block bl o6)).trans hf,(hb.cell (p:=⟨bs,0,none⟩) (by show bs<_;omega)).trans hs,(hb.cell (p:=⟨bd,0,none⟩) (by show bd<_;omega)).trans hd,⟨o1,o2,o3,o4,o5,Nat.lt_of_lt_of_le o6 hb.size⟩,hbl.trans (hb.mono hbl.size)⟩
end Go.Proofs.YtjinnigjfopbcaaGreatDoor
namespace Go.Proofs.YtjinnigjfopbcaaGreatDoor
set_option linter.unusedVariables false
set_option linter.unusedSimpArgs false
open Go.RowKit
set_option maxRecDepth 20000
set_option maxHeartbeats 4000000
theorem xwR.bad {R:(List Int × Js) × Nat × Int} {l:List Int} {q:Nat} {I:Its→World→Prop} {vs:Its} {W':World} {k:Nat} {e:Int} (hI:I vs W') (h:R=(([],.nul),k,e)) (he:e≠0):xwR R l q I vs (.returned (.tuple #[.int .i64 ((q+k:Nat):Int),.int .i64 e])) W':=by
 subst h
 exact⟨vs,k,rfl,hI,fun x=>absurd x he,fun _=>rfl⟩
end Go.Proofs.YtjinnigjfopbcaaGreatDoor
namespace Go.Proofs.YtjinnigjfopbcaaGreatDoor
set_option linter.unusedVariables false
set_option linter.unusedSimpArgs false
open Go.RowKit
set_option maxRecDepth 20000
def xsb:TypeDesc→Bool
 | .interface _=>false
 | _=>true
theorem xlE (X T:TypeId) (v:Value) (d:TypeDesc) (hu:Tryz.prog.underlying T=some d) (hd:xsb d=true) (w:World) :
  (Instr.typeAssert (.iface T v) X T true).run Tryz.prog w=.ok (.tuple #[v,.bool true]) w:=by
 unfold Instr.typeAssert
 rw[Sem.run_bind,run_underlying hu w]
 cases d <;> simp_all [xsb]
theorem xlS (s:ByteArray) (a b:Nat) (h:a≤b):bI (s.extract a b)=((bI s).drop a).take (b - a):=by
 unfold bI
 rw[ByteArray.data_extract,Array.toList_extract,List.extract_eq_take_drop,List.map_take,List.map_drop]
theorem toNat_inj {a b:UInt8} (h:(a.toNat:Int)=(b.toNat:Int)):a=b:=UInt8.toNat_inj.1 (by omega)
theorem xuC (p l:List UInt8):p.isPrefixOf l=true↔∃ t,l.map (fun c=>(c.toNat:Int))=p.map (fun c=>(c.toNat:Int))++t:=by
 rw[List.isPrefixOf_iff_prefix]
 constructor
 ·rintro⟨t,rfl⟩
  exact⟨t.map (fun c=>(c.toNat:Int)),by rw[List.map_append]⟩
 ·rintro⟨t,h⟩
  have e:=congrArg (List.take p.length) h
  rw[List.take_left' (by rw[List.length_map]),← List.map_take] at e
  refine⟨l.drop p.length,?_⟩
  have e2:l.take p.length=p:=List.map_inj_right (f:=fun c:UInt8=>(c.toNat:Int)) (fun x y h=>toNat_inj h) |>.1 e
  conv=>lhs;arg 1;rw[← e2]
  exact List.take_append_drop _ _
def uI (l:List UInt8):List Int:=l.map (fun c=>(c.toNat:Int))
theorem xw7 (s:ByteArray):bI s=uI s.data.toList:=rfl
theorem xv0 (f g:UInt8→Bool) (h:∀ n,n<256→f (UInt8.ofNat n)=g (UInt8.ofNat n)) (c:UInt8):f c=g c:=by
 have:=h c.toNat c.toNat_lt
 rwa[UInt8.ofNat_toNat] at this
theorem xiq (f:List Int→Nat) (p:Int→Bool) (q:UInt8→Bool) (h0:f []=0) (h1:∀ b t,f (b :: t)=if p b then f t+1 else 0) (hq:∀ c:UInt8,q c=p (c.toNat:Int)) :
  ∀ l:List UInt8,(l.dropWhile q).length+f (uI l)=l.length
 | []=>by simp[uI,h0]
 | c :: t=>by
  have ih:=xiq f p q h0 h1 hq t
  unfold uI at ih ⊢
  rw[List.map_cons,h1,← hq,List.dropWhile_cons]
  cases q c
  ·simp
  ·simp only[if_true,List.length_cons];omega
theorem xlQ (l:List UInt8):(Lib.trimLeftS l [32,9,10,13]).length+xaM (uI l)=l.length :=
 xiq xaM isB _ rfl (fun b t=>by rw[xaM]) (xv0 _ (fun c=>isB (c.toNat:Int)) (by decide +kernel)) l
theorem xwp (p l:List UInt8):Lib.hasPrefix l p=decide (uI p <+: uI l):=by
 have:Lib.hasPrefix l p=p.isPrefixOf l:=rfl
 rw[this]
 have h:=xuC p l
 rw[Bool.eq_iff_iff,h,decide_eq_true_iff]
 exact⟨fun⟨t,e⟩=>⟨t,e.symm⟩,fun⟨t,e⟩=>⟨t,e.symm⟩⟩
end Go.Proofs.YtjinnigjfopbcaaGreatDoor
namespace Go.Proofs.YtjinnigjfopbcaaGreatDoor
set_option linter.unusedVariables false
set_option linter.unusedSimpArgs false
open Go.RowKit
set_option maxRecDepth 20000
set_option maxHeartbeats 2000000
theorem xwo:(Tryz.prog.info? (tlL_ren.t 116)).map (fun i=>(i.zero,i.size))=some (some (.agg (Array.replicate 256 (.bool false))),256):=by kernel_rfl
theorem xrH (s:ByteArray) (w:World):Calls Tryz.prog 234 #[.string s,.string { data:=#[32,9,10,13] }] w fun e w'=>(∃ r:ByteArray,e=.returned (.string r)∧r.size+xaM (bI s)=s.size)∧Below w.heap.size w w':=by
 refine(Any.strings_TrimLeft_laid tlL xwo s ⟨#[32,9,10,13]⟩ w (by decide) (ascii_of_all (by decide))).mono ?_
 rintro e w' ⟨rfl,hb⟩
 refine⟨⟨_,rfl,?_⟩,hb⟩
 have:=xlQ s.data.toList
 rw[Array.length_toList] at this
 rw[xw7]
 show (List.toArray _).size+_=s.data.size
 rw[List.size_toArray]
 exact this
theorem xsU (s p:ByteArray) (w:World):Calls Tryz.prog 280 #[.string s,.string p] w fun e w'=>e=.returned (.bool (decide (bI p <+: bI s)))∧w'=w:=by
 have:=xvB s p w
 rw[xwp] at this
 exact this
theorem xo9 (s:ByteArray) (p:Nat) (w:World) (hp:p≤s.size) (hs:s.size≤10000):Calls Tryz.prog 153 #[.string s,.int .i64 p] w fun e w'=>e=.returned (.int .i64 ((p+xaM ((bI s).drop p):Nat):Int))∧Below w.heap.size w w':=by
 have HT:=lH (fun W=>xrH (s.extract p s.size) W)
 have hbe:bI (s.extract p s.size)=(bI s).drop p:=by
  rw[xlS _ _ _ hp,List.take_of_length_le (by rw[List.length_drop,xdN];exact Nat.le_refl _)]
 have hsz:(s.extract p s.size).size=s.size - p:=by rw[ByteArray.size_extract];omega
 rw[hbe,hsz] at HT
 have n1:(p:Int)≤(s.size:Int):=by omega
 clear hbe hsz
 go_enter Tryz.func153,Tryz.ntmps153
 go_wp2_with fail
 refine(HT.out _).mono ?_
 rintro e w1 ⟨⟨r,rfl,hr⟩,hb⟩
 have hw:IntKind.i64.wrap ((s.size:Int) - (r.size:Int))=((p+xaM ((bI s).drop p):Nat):Int):=by rw[IntKind.wrap_i64] <;> omega
 clear hr
 go_wp2_with fail
 go_ret
 exact⟨rfl,hb⟩
end Go.Proofs.YtjinnigjfopbcaaGreatDoor
namespace Go.Proofs.YtjinnigjfopbcaaGreatDoor
set_option linter.unusedVariables false
set_option linter.unusedSimpArgs false
set_option maxRecDepth 20000
theorem xf3 (f:Nat) (l:List Int) (p:Nat) (out:List Int):xiJ (f+1) l p out=match xok l with
  | .short=>([],p+l.length,3)
  | .form=>([],p,4)
  | .fin=>(out,p+1,0)
  | .piece t n=>xiJ f (l.drop n) (p+n) (out++t):=rfl
end Go.Proofs.YtjinnigjfopbcaaGreatDoor
namespace Go.Proofs.YtjinnigjfopbcaaGreatDoor
set_option linter.unusedVariables false
set_option linter.unusedSimpArgs false
open Go.RowKit
set_option maxRecDepth 20000
structure TInv (s:ByteArray) (R:List Int × Nat × Int) (p:Nat) (out:List Int):Prop where
 le:p≤s.size
 run:R=xiJ s.size ((bI s).drop p) p out
 len:out.length≤4*p
 byte:∀ b ∈ out,0≤b∧b<256
theorem TInv.short {s:ByteArray} {R:List Int × Nat × Int} {p:Nat} {out:List Int} (h:TInv s R p out) (hs:xok ((bI s).drop p)=.short):R=([],s.size,3):=by
 have hp:=h.le
 have e:p+((bI s).drop p).length=s.size:=by rw[List.length_drop,xdN];omega
 rw[h.run]
 cases hf:s.size with
 | zero=>rw[xiJ,← hf,e]
 | succ f =>
  rw[xf3,hs]
  show ([],p+_,3)=_
  rw[e,hf]
theorem TInv.pos {s:ByteArray} {R:List Int × Nat × Int} {p:Nat} {out:List Int} (h:TInv s R p out) (hp:p<s.size):∃ f,s.size=f+1∧R=match xok ((bI s).drop p) with
  | .short=>([],p+((bI s).drop p).length,3)
  | .form=>([],p,4)
  | .fin=>(out,p+1,0)
  | .piece t n=>xiJ f (((bI s).drop p).drop n) (p+n) (out++t):=by
 obtain⟨f,hf⟩:∃ f,s.size=f+1:=⟨s.size - 1,by omega⟩
 refine⟨f,hf,?_⟩
 have:=h.run
 rw[hf,xf3] at this
 exact this
theorem TInv.form {s:ByteArray} {R:List Int × Nat × Int} {p:Nat} {out:List Int} (h:TInv s R p out) (hp:p<s.size) (hs:xok ((bI s).drop p)=.form):R=([],p,4):=by
 obtain⟨f,_,hr⟩:=h.pos hp
 rw[hs] at hr;exact hr
def xos (w:World) (b:Nat) (k n:Int) (s:ByteArray) (nv kv:Value):Prop:=w.cell? ⟨b,0,none⟩=some (.int .u8 k)∧w.cell? ⟨b,1,none⟩=some (.int .i64 n)∧w.cell? ⟨b,2,none⟩=some (.string s)∧w.cell? ⟨b,3,none⟩=some nv∧w.cell? ⟨b,4,none⟩=some kv
theorem xos.made (w:World) (k n:Int) (s:ByteArray) (nv kv:Value) (T:TypeId):xos (w.alloc (.cells #[.int .u8 k,.int .i64 n,.string s,nv,kv] T)) w.heap.size k n s nv kv:=by
 refine⟨?_,?_,?_,?_,?_⟩ <;> rw[World.cell?_alloc_mark] <;> rfl
theorem cell_kept {w w':World} {a:Addr} {v:Value} (hb:Below w.heap.size w w') (h:w.cell? a=some v):w'.cell? a=some v:=(hb.cell (World.block_lt_of_cell? _ _ h)).trans h
theorem xos.later {w w':World} {b:Nat} {k n:Int} {s:ByteArray} {nv kv:Value} (h:xos w b k n s nv kv) (hb:Below w.heap.size w w'):xos w' b k n s nv kv :=
 ⟨cell_kept hb h.1,cell_kept hb h.2.1,cell_kept hb h.2.2.1,cell_kept hb h.2.2.2.1,cell_kept hb h.2.2.2.2⟩
end Go.Proofs.YtjinnigjfopbcaaGreatDoor
