/- aEp aEr aEc aKa aLa aEg aKb aKk aLb aLn aM aT aLz aLg aKh aMa. -/
import Derived.Test.YtjkgkmmkehnggaaGreatDoorYs
import Derived.Lib.Hide
import Derived.WalkSpells
import Derived.WalkLawsBesides
import Derived.Handy
import Derived.Deep.RegionHeld3
import Derived.Deep.DeepCutAuto
import Derived.BigQuiet
import Derived.Laws.AppendOwnNone
import Derived.Test.YtjkgkmmkehnggaaGreatDoorRows
import Derived.Lib.AppendZeros
namespace Go.Proofs.YtjkgkmmkehnggaaGreatDoor
set_option linter.unusedVariables false
set_option linter.unusedSimpArgs false
section
variable {α:Type} [DecidableEq α]
def ded:List α→List α
 | []=>[]
 | p :: r=>if p ∈ r then ded r else p :: ded r
theorem xfj (x:α) (l:List α):x ∈ ded l↔x ∈ l:=by
 induction l with
 | nil=>exact Iff.rfl
 | cons p r ih =>
  unfold ded
  split
  ·rename_i hp
   rw[ih,List.mem_cons]
   exact⟨.inr,fun h=>h.elim (fun h=>h ▸ hp) id⟩
  ·rw[List.mem_cons,List.mem_cons,ih]
theorem xgx (l:List α):(ded l).Nodup:=by
 induction l with
 | nil=>exact List.nodup_nil
 | cons p r ih =>
  unfold ded
  split
  ·exact ih
  ·rename_i hp
   exact List.nodup_cons.2 ⟨fun h=>hp ((xfj p r).1 h),ih⟩
theorem xcQ {a b:List α} (ha:a.Nodup) (hs:∀ x ∈ a,x ∈ b):a.length≤b.length:=by
 induction a generalizing b with
 | nil=>simp
 | cons p r ih =>
  obtain⟨h1,h2⟩:=List.nodup_cons.1 ha
  have hp:p ∈ b:=hs p (List.mem_cons_self ..)
  have:=ih (b:=b.erase p) h2 (fun x hx=>(List.mem_erase_of_ne (fun(e:x=p)=>h1 (e ▸ hx))).2 (hs x (List.mem_cons_of_mem _ hx)))
  rw[List.length_erase_of_mem hp] at this
  have h0:0<b.length:=List.length_pos_of_mem hp
  rw[List.length_cons]
  omega
def unl (l:List α):Nat:=(ded l).length
theorem xm4 {a b:List α} (h:∀ x ∈ a,x ∈ b):unl a≤unl b:=xcQ (xgx a) (fun x hx=>(xfj x b).2 (h x ((xfj x a).1 hx)))
theorem xsU {a b:List α} (h:∀ x,x ∈ a↔x ∈ b):unl a=unl b:=Nat.le_antisymm (xm4 fun x hx=>(h x).1 hx) (xm4 fun x hx=>(h x).2 hx)
theorem xx1:unl ([]:List α)=0:=rfl
theorem xi8 (p:α) (r:List α):unl (p :: r)=if p ∈ r then unl r else unl r+1:=by
 unfold unl
 rw[ded]
 split <;> simp
theorem xwn (l:List α) (p:α):unl (l++[p])=if p ∈ l then unl l else unl l+1:=by
 rw[← xi8]
 exact xsU (fun x=>by simp only[List.mem_append,List.mem_cons,List.not_mem_nil,or_false];exact or_comm)
theorem xra {l:List α} (h:l.Nodup):unl l=l.length:=by
 refine Nat.le_antisymm (xcQ (xgx l) fun x hx=>(xfj x l).1 hx) (xcQ h fun x hx=>(xfj x l).2 hx)
theorem xiU (a b:List α):unl (a++b)≤unl a+unl b:=by
 induction a with
 | nil=>simp[xx1]
 | cons p r ih =>
  rw[List.cons_append,xi8,xi8]
  by_cases h:p ∈ r
  ·rw[if_pos (List.mem_append_left _ h),if_pos h];exact ih
  ·rw[if_neg h]
   split <;> omega
theorem xA4 (a b:List α):unl (a++b)≤unl a+unl b∧unl a≤unl (a++b)∧unl b≤unl (a++b)∧unl (a++b++a)=unl (a++b) :=
 ⟨xiU a b,xm4 fun x hx=>List.mem_append_left _ hx,xm4 fun x hx=>List.mem_append_right _ hx,xsU fun x=>by
  simp only[List.mem_append]
  exact⟨fun h=>h.elim id .inl,.inl⟩⟩
theorem xyr (l:List α):unl l≤l.length:=xcQ (xgx l) fun x hx=>(xfj x l).1 hx
end
structure En where
 id:Int
 off:Int
 ln:Int
 rn:Int
deriving DecidableEq
def xdW:En:=⟨0,0,0,0⟩
theorem En.eq_iff (a b:En):a=b↔(a.id=b.id∧a.off=b.off∧a.ln=b.ln∧a.rn=b.rn):=by
 cases a;cases b;simp
def xa1 (e:En):Prop:=(0≤e.id∧e.id≤18446744073709551615)∧(0≤e.off∧e.off≤18446744073709551615)∧(0≤e.ln∧e.ln≤4294967295)∧(0≤e.rn∧e.rn≤4294967295)
def cnN:Int:=6004799503160661
def wdN (e:En):Int:=if e.rn=0 then 1 else e.rn
def ckN (e:En):Int :=
 if e.ln=0 then 2 else
 if cnN≤e.id∨cnN<e.id+wdN e then 8 else
 if 1099511627776<e.off∨1099511627776<e.off+e.ln then 8 else 0
def laN (e:En):Int:=if ckN e=0 then e.id+wdN e - 1 else 0
theorem xhL (e:En) (h:0≤e.rn):1≤wdN e:=by unfold wdN;split <;> omega
theorem xhl (e:En) (h:ckN e=0):e.ln≠0∧e.id+wdN e≤6004799503160661∧e.id<6004799503160661∧e.off+e.ln≤1099511627776∧e.off≤1099511627776:=by
 unfold ckN cnN at h
 split at h
 ·omega
 split at h
 ·omega
 split at h
 ·omega
 omega
theorem xn5 (e:En) (hm:xa1 e) (h:ckN e=0):e.id≤laN e∧laN e≤6004799503160660:=by
 have:=xhL e hm.2.2.2.1
 have:=xhl e h
 unfold laN
 rw[if_pos h]
 omega
def xcX:Int→List En→Int
 | _,[]=>0
 | p,e :: l=>if ckN e≠0 then ckN e else if e.id≤p then 10 else xcX (laN e) l
def xa2 (l:List En):Int:=if 4096<l.length then 21 else xcX (-1) l
theorem xbO (p:Int) (a b:List En) (h:xcX p a=0):xcX p (a++b)=xcX (a.foldl (fun _ e=>laN e) p) b:=by
 induction a generalizing p with
 | nil=>rfl
 | cons e l ih =>
  rw[xcX] at h
  rw[List.cons_append,xcX]
  split at h
  ·contradiction
  ·rename_i hc
   rw[if_neg hc]
   split at h
   ·omega
   ·rename_i ho
    rw[if_neg ho]
    exact ih (laN e) h
theorem xeu (p:Int) (a b:List En) (h:xcX p (a++b)=0):xcX p a=0:=by
 induction a generalizing p with
 | nil=>rfl
 | cons e l ih =>
  rw[List.cons_append,xcX] at h
  rw[xcX]
  split at h
  ·contradiction
  ·rename_i hc
   rw[if_neg hc]
   split at h
   ·omega
   ·rename_i ho
    rw[if_neg ho]
    exact ih (laN e) h
theorem xjQ (p q:Int) (l:List En) (h:xcX p l=0) (hq:q≤p):xcX q l=0:=by
 cases l with
 | nil=>rfl
 | cons e l =>
  rw[xcX] at h ⊢
  split at h
  ·contradiction
  ·rename_i hc
   rw[if_neg hc]
   split at h
   ·omega
   ·rename_i ho
    rw[if_neg (by omega)]
    exact h
theorem xbZ (p:Int) (e:En) (l:List En) (h:xcX p (e :: l)=0):ckN e=0∧p<e.id∧xcX (laN e) l=0:=by
 rw[xcX] at h
 split at h
 ·contradiction
 ·rename_i hc
  split at h
  ·omega
  ·rename_i ho
   exact⟨Classical.not_not.1 hc,by omega,h⟩
theorem xfr (p:Int) (l:List En) (hm:∀ e ∈ l,xa1 e) (h:xcX p l=0) (e:En) (he:e ∈ l):p<e.id∧ckN e=0:=by
 induction l generalizing p with
 | nil=>simp at he
 | cons f l ih =>
  obtain⟨h1,h2,h3⟩:=xbZ p f l h
  rcases List.mem_cons.1 he with rfl|he
  ·exact⟨h2,h1⟩
  ·have:=ih (laN f) (fun x hx=>hm x (List.mem_cons_of_mem _ hx)) h3 he
   have hl:=xn5 f (hm f (List.mem_cons_self ..)) h1
   exact⟨by omega,this.2⟩
def xlW (l:List En):Int:=(l.map fun e=>if ckN e=0 then e.rn else 0).sum
theorem xtu (l:List En) (e:En):xlW (l++[e])=xlW l+(if ckN e=0 then e.rn else 0):=by simp[xlW]
def enN (l:List En):Int:=l.foldl (fun n e=>if ckN e=0 then max n (e.off+e.ln) else n) 0
def xhu (l:List En):List (Int × Int):=(l.filter fun e=>decide (ckN e=0) && decide (0<e.rn)).map fun e=>(e.off,e.ln)
def conN (l:List En):Nat:=unl (xhu l)
theorem xkk (l:List En) (q:Int × Int):q ∈ xhu l↔∃ e ∈ l,ckN e=0∧0<e.rn∧e.off=q.1∧e.ln=q.2:=by
 simp only[xhu,List.mem_map,List.mem_filter,Bool.and_eq_true,decide_eq_true_eq]
 constructor
 ·rintro⟨e,⟨h1,h2,h3⟩,rfl⟩
  exact⟨e,h1,h2,h3,rfl,rfl⟩
 ·rintro⟨e,h1,h2,h3,h4,h5⟩
  exact⟨e,⟨h1,h2,h3⟩,Prod.ext h4 h5⟩
end Go.Proofs.YtjkgkmmkehnggaaGreatDoor
namespace Go.Proofs.YtjkgkmmkehnggaaGreatDoor
set_option linter.unusedVariables false
set_option linter.unusedSimpArgs false
open Go.RowKit
set_option maxRecDepth 20000
theorem xbS {w:World} {a:Addr} {v:Value} (h:w.cell? a=some v):a.block<w.heap.size:=by
 rcases Nat.lt_or_ge a.block w.heap.size with h'|h'
 ·exact h'
 ·simp[World.cell?,Array.getElem?_eq_none h'] at h
theorem xaa {w w':World} {a:Addr} {v:Value} (hb:Below w.heap.size w w') (h:w.cell? a=some v):w'.cell? a=some v:=(hb.cell (p:=a) (xbS h)).trans h
def cE (e:En):List Value:=[.int .u64 e.id,.int .u64 e.off,.int .u32 e.ln,.int .u32 e.rn]
def xaw:List En→List Value
 | []=>[]
 | t :: l=>.int .u64 t.id :: .int .u64 t.off :: .int .u32 t.ln :: .int .u32 t.rn :: xaw l
theorem xbt (l:List En):(xaw l).length=l.length*4:=by
 induction l with
 | nil=>rfl
 | cons t l ih=>simp only[xaw,List.length_cons,ih];omega
theorem xbX (l m:List En):xaw (l++m)=xaw l++xaw m:=by
 induction l with
 | nil=>rfl
 | cons t l ih=>simp only[List.cons_append,xaw,ih]
theorem xcI (e:En):xaw [e]=cE e:=rfl
theorem xeY (l:List En) (n:Nat) (t:En) (h:l[n]?=some t):(xaw l)[n*4]?=some (.int .u64 t.id)∧(xaw l)[n*4+1]?=some (.int .u64 t.off)∧(xaw l)[n*4+2]?=some (.int .u32 t.ln)∧(xaw l)[n*4+3]?=some (.int .u32 t.rn):=by
 induction l generalizing n with
 | nil=>simp at h
 | cons u l ih =>
  cases n with
  | zero=>simp only[List.getElem?_cons_zero,Option.some.injEq] at h;subst h;exact⟨rfl,rfl,rfl,rfl⟩
  | succ n =>
   have:=ih n (by simpa using h)
   rw[show (n+1)*4=n*4+1+1+1+1 from by omega]
   simpa[xaw] using this
theorem xc3 (l:List En):∀ u ∈ xaw l,u.oneCell'=true:=by
 induction l with
 | nil=>intro u hu;simp[xaw] at hu
 | cons t l ih =>
  intro u hu
  simp only[xaw,List.mem_cons] at hu
  rcases hu with rfl|rfl|rfl|rfl|hu
  ·rfl
  ·rfl
  ·rfl
  ·rfl
  ·exact ih u hu
def xam (w:World) (v:Value) (l:List En):Prop :=
 ∃ a cap,v=.slice a l.length cap∧l.length≤cap∧cap≤maxLen∧∀ (k:Nat) (t:En),l[k]?=some t→∃ g off,a=some ⟨g,off,none⟩∧g<w.heap.size∧w.cell? ⟨g,off+k*4,none⟩=some (.int .u64 t.id)∧w.cell? ⟨g,off+k*4+1,none⟩=some (.int .u64 t.off)∧w.cell? ⟨g,off+k*4+2,none⟩=some (.int .u32 t.ln)∧w.cell? ⟨g,off+k*4+3,none⟩=some (.int .u32 t.rn)
theorem xam.below {w w':World} {v:Value} {l:List En} (h:xam w v l) (hb:Below w.heap.size w w'):xam w' v l:=by
 obtain⟨a,cap,hv,h1,h2,hc⟩:=h
 refine⟨a,cap,hv,h1,h2,fun k t ht=>?_⟩
 obtain⟨g,off,ha,hg,c0,c1,c2,c3⟩:=hc k t ht
 exact⟨g,off,ha,Nat.lt_of_lt_of_le hg hb.size,xaa hb c0,xaa hb c1,xaa hb c2,xaa hb c3⟩
theorem xiG (w:World):xam w (.slice none 0 0) []:=⟨none,0,rfl,Nat.le_refl _,by unfold maxLen;omega,fun k t h=>by simp at h⟩
def xa5 (w:World) (B:Nat) (E:TypeId) (v:Value) (l:List En):Prop:=w.ownsRow B E 4 v l.length (xaw l)
theorem xbw (w:World) (B:Nat) (E:TypeId):xa5 w B E (.slice none 0 0) []:=World.ownsRow_nil _ _ _ _
theorem xa5.lt {w:World} {B:Nat} {E:TypeId} {v:Value} {l:List En} (h:xa5 w B E v l):∀ k,v.ownBlock=some k→B≤k∧k<w.heap.size:=World.ownsRow.lt h
theorem xa5.below {w w':World} {B:Nat} {E:TypeId} {v:Value} {l:List En} (h:xa5 w B E v l) (hb:Below w.heap.size w w'):xa5 w' B E v l:=by
 have hlt:=h.lt
 obtain⟨h1,h2⟩:=h
 refine⟨h1,?_⟩
 rcases h2 with h2|⟨g,cap,cur,hv,hg,hh,r⟩
 ·exact .inl h2
 ·refine .inr ⟨g,cap,cur,hv,hg,?_,r⟩
  rw[hb.block g (hlt g (by rw[hv];rfl)).2];exact hh
theorem xa5.mono {w:World} {B B':Nat} {E:TypeId} {v:Value} {l:List En} (h:xa5 w B E v l) (hb:B'≤B):xa5 w B' E v l:=by
 obtain⟨h1,h2⟩:=h
 refine⟨h1,?_⟩
 rcases h2 with h2|⟨g,cap,cur,hv,hg,r⟩
 ·exact .inl h2
 ·exact .inr ⟨g,cap,cur,hv,Nat.le_trans hb hg,r⟩
theorem xa5.form {w:World} {B:Nat} {E:TypeId} {v:Value} {l:List En} (h:xa5 w B E v l) :
  (v=.slice none 0 0∧l=[])∨∃ g cap,v=.slice (some ⟨g,0,none⟩) l.length cap∧B≤g∧g<w.heap.size∧l.length≤cap∧cap≤maxLen∧(∀ j,j<l.length*4→w.cell? ⟨g,j,none⟩=(xaw l)[j]?)∧∀ j,w.frozen? ⟨g,j,none⟩=false:=by
 have hlt:=h.lt
 have h':=h
 obtain⟨h1,h2⟩:=h
 rcases h2 with ⟨rfl,hn⟩|⟨g,cap,cur,rfl,hg,hh,hle,hm,_⟩
 ·exact .inl ⟨rfl,List.eq_nil_of_length_eq_zero hn⟩
 ·exact .inr ⟨g,cap,rfl,hg,(hlt g rfl).2,hle,hm,fun j hj=>World.ownsRow.cellAt h' j hj,fun j=>World.ownsRow.frozenAt h' j⟩
theorem xa5.ensAt {w:World} {B:Nat} {E:TypeId} {v:Value} {l:List En} (h:xa5 w B E v l):xam w v l:=by
 rcases h.form with ⟨rfl,rfl⟩|⟨g,cap,rfl,hB,hg,hle,hm,hc,_⟩
 ·exact xiG w
 ·refine⟨_,cap,rfl,hle,hm,fun k t ht=>⟨g,0,rfl,hg,?_⟩⟩
  have hk:k<l.length:=(List.getElem?_eq_some_iff.1 ht).1
  obtain⟨f0,f1,f2,f3⟩:=xeY l k t ht
  exact⟨by rw[Nat.zero_add,hc _ (by omega)];exact f0,by rw[Nat.zero_add,hc _ (by omega)];exact f1,by rw[Nat.zero_add,hc _ (by omega)];exact f2,by rw[Nat.zero_add,hc _ (by omega)];exact f3⟩
theorem xcn {w:World} {B n:Nat} {E:TypeId} {v:Value} {xs:List Value} {l:List En} (h:w.ownsRow B E 4 v n xs) (hn:n=l.length) (hx:xs=xaw l):xa5 w B E v l:=by
 subst hn;subst hx;exact h
def xaT (l:List En):Prop:=∀ e ∈ l,xa1 e
theorem xfI {w w':World} {g o1 o2 o3 o4:Nat} {v1 v2 v3 v4:Value} (hb:Below w.heap.size w w') (h:w.cell? ⟨g,o1,none⟩=some v1∧w.cell? ⟨g,o2,none⟩=some v2∧w.cell? ⟨g,o3,none⟩=some v3∧w.cell? ⟨g,o4,none⟩=some v4):w'.cell? ⟨g,o1,none⟩=some v1∧w'.cell? ⟨g,o2,none⟩=some v2∧w'.cell? ⟨g,o3,none⟩=some v3∧w'.cell? ⟨g,o4,none⟩=some v4:=⟨xaa hb h.1,xaa hb h.2.1,xaa hb h.2.2.1,xaa hb h.2.2.2⟩
theorem xAE {w w' w1:World} {g o1 o2 o3 o4:Nat} {v1 v2 v3 v4:Value} (hb:Below w'.heap.size w' w1) (h:(w'.cell? ⟨g,o1,none⟩=some v1∧w'.cell? ⟨g,o2,none⟩=some v2∧w'.cell? ⟨g,o3,none⟩=some v3∧w'.cell? ⟨g,o4,none⟩=some v4)∧Below w.heap.size w w'):(w1.cell? ⟨g,o1,none⟩=some v1∧w1.cell? ⟨g,o2,none⟩=some v2∧w1.cell? ⟨g,o3,none⟩=some v3∧w1.cell? ⟨g,o4,none⟩=some v4)∧Below w.heap.size w w1:=⟨xfI hb h.1,h.2.trans (hb.mono h.2.size)⟩
theorem xhV {w w' w1:World} {g o1 o2 o3 o4 g' p1 p2 p3 p4:Nat} {v1 v2 v3 v4 u1 u2 u3 u4:Value} (hb:Below w'.heap.size w' w1) (h:(w'.cell? ⟨g,o1,none⟩=some v1∧w'.cell? ⟨g,o2,none⟩=some v2∧w'.cell? ⟨g,o3,none⟩=some v3∧w'.cell? ⟨g,o4,none⟩=some v4)∧(w'.cell? ⟨g',p1,none⟩=some u1∧w'.cell? ⟨g',p2,none⟩=some u2∧w'.cell? ⟨g',p3,none⟩=some u3∧w'.cell? ⟨g',p4,none⟩=some u4)∧Below w.heap.size w w'):(w1.cell? ⟨g,o1,none⟩=some v1∧w1.cell? ⟨g,o2,none⟩=some v2∧w1.cell? ⟨g,o3,none⟩=some v3∧w1.cell? ⟨g,o4,none⟩=some v4)∧(w1.cell? ⟨g',p1,none⟩=some u1∧w1.cell? ⟨g',p2,none⟩=some u2∧w1.cell? ⟨g',p3,none⟩=some u3∧w1.cell? ⟨g',p4,none⟩=some u4)∧Below w.heap.size w w1:=⟨xfI hb h.1,xfI hb h.2.1,h.2.2.trans (hb.mono h.2.2.size)⟩
def xz8 (l:List En) (i:Nat):Int:=if i=0 then -1 else laN (l.getD (i - 1) xdW)
theorem xdE (l:List En) (i:Nat) (e:En) (h:l[i]?=some e):l.take (i+1)=l.take i++[e]:=by
 rw[List.take_add_one,h];rfl
theorem xmL (l:List En) (i:Nat) (hi:i≤l.length):(l.take i).foldl (fun _ e=>laN e) (-1)=xz8 l i:=by
 cases i with
 | zero=>rfl
 | succ j =>
  have h:l[j]?=some (l.getD j xdW):=by rw[List.getD_eq_getElem?_getD,List.getElem?_eq_getElem (by omega)];rfl
  rw[xdE l j _ h,List.foldl_append]
  unfold xz8
  rw[if_neg (by omega),Nat.add_sub_cancel]
  rfl
theorem xyR (l:List En) (i:Nat) (e:En) (h:l[i]?=some e) (h0:xcX (-1) (l.take i)=0):xcX (-1) l=(if ckN e≠0 then ckN e else if e.id≤xz8 l i then 10 else xcX (laN e) (l.drop (i+1)))∧(ckN e=0→¬ e.id≤xz8 l i→xcX (-1) (l.take (i+1))=0):=by
 have hi:i<l.length:=(List.getElem?_eq_some_iff.1 h).1
 have hd:l.drop i=e :: l.drop (i+1):=by
  rw[List.drop_eq_getElem_cons hi]
  rw[List.getElem?_eq_getElem hi] at h
  rw[Option.some.inj h]
 refine⟨?_,fun hc ho=>?_⟩
 ·conv=>lhs;rw[← List.take_append_drop i l]
  rw[xbO _ _ _ h0,xmL l i (by omega),hd,xcX]
 ·rw[xdE l i e h,xbO _ _ _ h0,xmL l i (by omega),xcX,if_neg (fun f=>f hc),if_neg ho]
  rfl
theorem xh0 {w:World} {v:Value} {l:List En} (h:xam w v l) (i:Nat) (hi:i<l.length):∃ g off cap,v=.slice (some ⟨g,off,none⟩) l.length cap∧l.length≤cap∧g<w.heap.size∧∀ k e,l[k]?=some e→(w.cell? ⟨g,off+k*4,none⟩=some (.int .u64 e.id)∧w.cell? ⟨g,off+k*4+1,none⟩=some (.int .u64 e.off)∧w.cell? ⟨g,off+k*4+2,none⟩=some (.int .u32 e.ln)∧w.cell? ⟨g,off+k*4+3,none⟩=some (.int .u32 e.rn)):=by
 obtain⟨a,cap,hv,h1,h2,hc⟩:=h
 obtain⟨e,he⟩:∃ e,l[i]?=some e:=⟨_,List.getElem?_eq_getElem hi⟩
 obtain⟨g,off,rfl,hg,_⟩:=hc i e he
 refine⟨g,off,cap,hv,h1,hg,fun k f hf=>?_⟩
 obtain⟨g',off',ha,hg',r⟩:=hc k f hf
 obtain⟨rfl,rfl⟩:g=g'∧off=off':=by simpa using ha
 exact r
end Go.Proofs.YtjkgkmmkehnggaaGreatDoor
namespace Go.Proofs.YtjkgkmmkehnggaaGreatDoor
set_option linter.unusedVariables false
set_option linter.unusedSimpArgs false
def totF:List ByteArray→Nat
 | []=>0
 | t :: l=>t.size+totF l
def xb7:List ByteArray→ByteArray
 | []=>ByteArray.empty
 | t :: l=>t++xb7 l
def xaK (s:ByteArray):List ByteArray→Nat→Option Nat
 | [],_=>none
 | t :: l,n=>if t=s then some n else xaK s l (n+t.size)
def xB4 (o:Option Nat):Nat:=o.getD 0
def xDp (o:Option Nat) (s:ByteArray):Nat:=if o.isSome then s.size else 0
def eV (l:List ByteArray) (s:ByteArray):Nat:=if s.size=0 then 2 else if 65536<s.size then 5 else if (xaK s l 0).isSome then 0 else if 2048≤l.length then 7 else 0
def xdb (l:List ByteArray) (s:ByteArray):Bool:=decide (eV l s=0) && (xaK s l 0).isNone
def xcp (l:List ByteArray) (s:ByteArray):List ByteArray:=if xdb l s then l++[s] else l
def offA (l:List ByteArray) (s:ByteArray):Nat:=if xdb l s then totF l else if eV l s=0 then xB4 (xaK s l 0) else 0
def lenA (l:List ByteArray) (s:ByteArray):Nat:=if eV l s=0 then s.size else 0
structure GoodP (l:List ByteArray):Prop where
 pos:∀ t ∈ l,0<t.size
 short:∀ t ∈ l,t.size≤65536
 once:l.Nodup
 few:l.length≤2048
theorem xkg:GoodP []:=⟨by simp,by simp,by simp,by simp⟩
theorem xda (a b:List ByteArray):totF (a++b)=totF a+totF b:=by
 induction a with
 | nil=>simp[totF]
 | cons t l ih=>rw[List.cons_append,totF,totF,ih];omega
theorem xi5 (s:ByteArray):totF [s]=s.size:=by simp[totF]
theorem xrW (l:List ByteArray) (k:Nat):totF (l.take k)≤totF l:=by
 have h:=xda (l.take k) (l.drop k)
 rw[List.take_append_drop] at h
 omega
theorem xor (l:List ByteArray) (M:Nat) (h:∀ t ∈ l,t.size≤M):totF l≤l.length*M:=by
 induction l with
 | nil=>simp[totF]
 | cons t l ih =>
  have h1:=h t (by simp)
  have h2:=ih (fun x hx=>h x (by simp[hx]))
  rw[totF,List.length_cons,Nat.succ_mul]
  omega
theorem GoodP.tot {l:List ByteArray} (h:GoodP l):totF l≤134217728:=by
 have h1:=xor l 65536 h.short
 have h2:=h.few
 omega
theorem xAf (l:List ByteArray) (t:ByteArray) (h:t ∈ l):t.size≤totF l:=by
 induction l with
 | nil=>simp at h
 | cons x l ih =>
  rw[totF]
  rcases List.mem_cons.1 h with rfl|h
  ·omega
  ·have:=ih h;omega
theorem xdB (l:List ByteArray):(xb7 l).size=totF l:=by
 induction l with
 | nil=>simp[xb7,totF]
 | cons t l ih=>rw[xb7,totF,ByteArray.size_append,ih]
theorem xsv {α:Type} (l:List α) (k:Nat) (t:α) (h:l[k]?=some t):l.drop k=t :: l.drop (k+1):=by
 obtain⟨hk,rfl⟩:=List.getElem?_eq_some_iff.1 h
 exact List.drop_eq_getElem_cons hk
theorem xbV (s:ByteArray) (l:List ByteArray):∀ n,(xaK s l n).isSome=true↔s ∈ l:=by
 induction l with
 | nil=>simp[xaK]
 | cons t l ih =>
  intro n
  rw[xaK]
  by_cases h:t=s
  ·simp[h]
  ·rw[if_neg h,ih]
   simp[h,Ne.symm h]
theorem xdQ (s:ByteArray) (l:List ByteArray) (n:Nat):xaK s l n=none↔s ∉ l:=by
 rw[← xbV s l n]
 cases xaK s l n <;> simp
theorem xdr (s:ByteArray) (a b:List ByteArray):∀ n,xaK s (a++b) n=match xaK s a n with|some k=>some k|none=>xaK s b (n+totF a):=by
 induction a with
 | nil=>intro n;simp[xaK,totF]
 | cons t l ih =>
  intro n
  rw[List.cons_append,xaK,xaK]
  by_cases h:t=s
  ·simp[h]
  ·rw[if_neg h,if_neg h,ih,totF]
   rw[Nat.add_assoc]
theorem xev (s:ByteArray) (l:List ByteArray):∀ n k,xaK s l n=some k→n≤k∧k+s.size≤n+totF l:=by
 induction l with
 | nil=>intro n k h;simp[xaK] at h
 | cons t l ih =>
  intro n k h
  rw[xaK] at h
  rw[totF]
  by_cases e:t=s
  ·rw[if_pos e] at h;injection h with h;subst e;omega
  ·rw[if_neg e] at h;have:=ih _ _ h;omega
theorem xt0 (l:List ByteArray) (k:Nat) (t:ByteArray) (h:l[k]?=some t) (hn:l.Nodup) (n:Nat):xaK t l n=some (n+totF (l.take k)):=by
 have e:l=l.take k++t :: l.drop (k+1):=by rw[← xsv l k t h,List.take_append_drop]
 have hnot:t ∉ l.take k:=by
  rw[e] at hn
  intro hm
  exact(List.nodup_append.1 hn).2.2 t hm t (by simp) rfl
 conv=>lhs;rw[e]
 rw[xdr,(xdQ t _ n).2 hnot]
 simp[xaK]
theorem xxi (l:List ByteArray) (s:ByteArray):eV l s=0↔0<s.size∧s.size≤65536∧(s ∈ l∨l.length<2048):=by
 unfold eV
 have:=xbV s l 0
 by_cases h1:s.size=0
 ·simp[h1]
 ·rw[if_neg h1]
  by_cases h2:65536<s.size
  ·rw[if_pos h2];simp;omega
  ·rw[if_neg h2]
   by_cases h3:(xaK s l 0).isSome=true
   ·rw[if_pos h3];simp only[true_iff];exact⟨by omega,by omega,.inl (this.1 h3)⟩
   ·rw[if_neg h3]
    have h4:s ∉ l:=fun h=>h3 (this.2 h)
    by_cases h5:2048≤l.length
    ·rw[if_pos h5];simp[h4];omega
    ·rw[if_neg h5];simp;omega
theorem xe8 (l:List ByteArray) (s:ByteArray):xdb l s=true↔0<s.size∧s.size≤65536∧s ∉ l∧l.length<2048:=by
 unfold xdb
 rw[Bool.and_eq_true,decide_eq_true_eq,xxi,Option.isNone_iff_eq_none,xdQ]
 constructor
 ·rintro⟨⟨h1,h2,h3⟩,h4⟩;exact⟨h1,h2,h4,h3.resolve_left h4⟩
 ·rintro⟨h1,h2,h3,h4⟩;exact⟨⟨h1,h2,.inr h4⟩,h3⟩
theorem GoodP.add {l:List ByteArray} (h:GoodP l) (s:ByteArray):GoodP (xcp l s):=by
 unfold xcp
 split
 ·rename_i hn
  obtain⟨h1,h2,h3,h4⟩:=(xe8 l s).1 hn
  refine⟨?_,?_,?_,by simp;omega⟩
  ·intro t ht;rcases List.mem_append.1 ht with ht|ht
   ·exact h.pos t ht
   ·rw[List.mem_singleton.1 ht];exact h1
  ·intro t ht;rcases List.mem_append.1 ht with ht|ht
   ·exact h.short t ht
   ·rw[List.mem_singleton.1 ht];exact h2
  ·rw[List.nodup_append]
   refine⟨h.once,by simp,fun a ha b hb=>?_⟩
   rw[List.mem_singleton.1 hb]
   intro e
   exact h3 (e ▸ ha)
 ·exact h
theorem xuV (l:List ByteArray) (s:ByteArray):l.length≤(xcp l s).length∧(xcp l s).length≤l.length+1:=by
 unfold xcp;split <;> simp
abbrev It:=Nat × ByteArray
def xb9 (id:Nat):List It→Option ByteArray
 | []=>none
 | t :: l=>if t.1=id then some t.2 else xb9 id l
def xdt (id:Nat) (l:List It):List It:=l.filter (fun t=>decide (t.1≠id))
def xhh (id:Nat) (l:List It):List It:=l.takeWhile (fun t=>decide (t.1<id))
def xid (id:Nat) (l:List It):List It:=l.dropWhile (fun t=>decide (t.1<id))
def xhg (id:Nat) (s:ByteArray) (l:List It):List It:=xhh id (xdt id l)++(id,s) :: xid id (xdt id l)
def putE (l:List It) (id:Nat) (s:ByteArray):Nat:=if 6004799503160661≤id then 8 else if s.size=0 then 2 else if 65536<s.size then 5 else if (xb9 id l).isNone && decide (2048≤l.length) then 7 else 0
def xdi (l:List It) (id:Nat) (s:ByteArray):List It:=if putE l id s=0 then xhg id s l else l
def xar:List It→Nat
 | []=>0
 | t :: l=>t.2.size+xar l
def ofR:List It→List It→List It→List It × Nat
 | _,acc,[]=>(acc,0)
 | seen,acc,t :: r=>if (xb9 t.1 seen).isSome then ([],22) else if putE acc t.1 t.2≠0 then ([],putE acc t.1 t.2) else ofR (seen++[t]) (xhg t.1 t.2 acc) r
def ofI (l:List It):List It × Nat:=ofR [] [] l
def xhC (l:List It):Prop:=l.Pairwise (fun a b=>a.1<b.1)
structure GoodC (l:List It):Prop where
 rise:xhC l
 low:∀ t ∈ l,t.1<6004799503160661
 pos:∀ t ∈ l,0<t.2.size
 short:∀ t ∈ l,t.2.size≤65536
 few:l.length≤2048
theorem xjy:GoodC []:=⟨List.Pairwise.nil,by simp,by simp,by simp,by simp⟩
theorem xbE (a b:List It):xar (a++b)=xar a+xar b:=by
 induction a with
 | nil=>simp[xar]
 | cons t l ih=>rw[List.cons_append,xar,xar,ih];omega
theorem xlX (l:List It) (k:Nat):xar (l.take k)≤xar l:=by
 have h:=xbE (l.take k) (l.drop k)
 rw[List.take_append_drop] at h
 omega
theorem xlG (l:List It) (k:Nat) (t:It) (h:l[k]?=some t):xar (l.take (k+1))=xar (l.take k)+t.2.size:=by
 rw[List.take_add_one,h,xbE]
 simp[xar]
theorem xeP {α:Type} (l:List α) (k:Nat) (t:α) (h:l[k]?=some t):l.drop k=t :: l.drop (k+1):=by
 obtain⟨hk,rfl⟩:=List.getElem?_eq_some_iff.1 h
 exact List.drop_eq_getElem_cons hk
theorem xez {α:Type} (l:List α) (k:Nat) (t:α) (h:l[k]?=some t):l.take (k+1)=l.take k++[t]:=by
 rw[List.take_add_one,h];rfl
theorem xg0 (id:Nat) (l:List It):xb9 id l=none↔∀ t ∈ l,t.1≠id:=by
 induction l with
 | nil=>simp[xb9]
 | cons t l ih =>
  rw[xb9]
  by_cases h:t.1=id
  ·rw[if_pos h];simp[h]
  ·rw[if_neg h,ih];simp[h]
theorem xtm (id:Nat) (l:List It) (k:Nat) (t:It) (h:l[k]?=some t):xdt id (l.take (k+1))=if t.1=id then xdt id (l.take k) else xdt id (l.take k)++[t]:=by
 unfold xdt
 rw[xez l k t h,List.filter_append]
 by_cases e:t.1=id
 ·rw[if_pos e];simp[e]
 ·rw[if_neg e];simp[e]
theorem xe1 (id:Nat) (l:List It):(xdt id l).length≤l.length:=List.length_filter_le _ _
theorem xph (id:Nat) (l:List It):xar (xdt id l)≤xar l:=by
 unfold xdt
 induction l with
 | nil=>simp[xar]
 | cons t l ih =>
  rw[List.filter_cons]
  split
  ·rw[xar,xar];omega
  ·rw[xar];omega
theorem xc8 (id:Nat) (l:List It):xhh id l++xid id l=l:=List.takeWhile_append_dropWhile
end Go.Proofs.YtjkgkmmkehnggaaGreatDoor
namespace Go.Proofs.YtjkgkmmkehnggaaGreatDoor
set_option linter.unusedVariables false
set_option linter.unusedSimpArgs false
open Go.RowKit
set_option maxRecDepth 20000
theorem xao {P:Program} {t:TypeId} {z:Option Value} {s b:Nat} (h:(P.info? t).map (fun i=>(i.zero,i.size,i.bytes))=some (z,s,b)):∃ i,P.info? t=some i∧i.zero=z∧i.size=s∧i.bytes=b:=by
 cases hi:P.info? t with
 | none=>rw[hi] at h;cases h
 | some i =>
  rw[hi] at h
  simp only[Option.map_some,Option.some.injEq,Prod.mk.injEq] at h
  exact⟨i,rfl,h.1,h.2.1,h.2.2⟩
theorem xaH {k:IntKind} {a b:Int} (h:a=b):Ending.returned (.int k a)=.returned (.int k b):=by rw[h]
theorem xbx {w:World} {a:Addr} {v:Value} (h:w.cell? a=some v):a.block<w.heap.size:=by
 rcases Nat.lt_or_ge a.block w.heap.size with h'|h'
 ·exact h'
 ·simp[World.cell?,Array.getElem?_eq_none h'] at h
theorem xap {w w':World} {a:Addr} {v:Value} (hb:Below w.heap.size w w') (h:w.cell? a=some v):w'.cell? a=some v:=(hb.cell (p:=a) (xbx h)).trans h
def xsN (w:World) (v:Value) (xs:List Value):Prop:=∃ a cap,v=.slice a xs.length cap∧xs.length≤cap∧cap≤maxLen∧∀ k t,xs[k]?=some t→∃ g off,a=some ⟨g,off,none⟩∧g<w.heap.size∧w.cell? ⟨g,off+k,none⟩=some t
theorem xh3 (w:World):xsN w (.slice none 0 0) []:=⟨none,0,rfl,Nat.le_refl _,by simp,fun k t h=>by simp at h⟩
def xhn (w:World) (B:Nat) (E:TypeId) (v:Value) (xs:List Value):Prop:=w.ownsRow B E 1 v xs.length xs
theorem xuG (w:World) (B:Nat) (E:TypeId):xhn w B E (.slice none 0 0) []:=World.ownsRow_nil _ _ _ _
theorem xhn.lt {w:World} {B:Nat} {E:TypeId} {v:Value} {xs:List Value} (h:xhn w B E v xs):∀ k,v.ownBlock=some k→B≤k∧k<w.heap.size:=World.ownsRow.lt h
theorem xhn.keep {w w':World} {B:Nat} {E:TypeId} {v:Value} {xs:List Value} (h:xhn w B E v xs) (hk:∀ k,v.ownBlock=some k→w'.heap[k]?=w.heap[k]?):xhn w' B E v xs:=by
 obtain⟨h1,h2⟩:=h
 refine⟨h1,?_⟩
 rcases h2 with h2|⟨g,cap,cur,hv,hg,hh,r⟩
 ·exact .inl h2
 ·refine .inr ⟨g,cap,cur,hv,hg,?_,r⟩
  rw[hk g (by rw[hv];rfl)];exact hh
theorem xhn.below {w w':World} {B:Nat} {E:TypeId} {v:Value} {xs:List Value} (h:xhn w B E v xs) (hb:Below w.heap.size w w'):xhn w' B E v xs :=
 h.keep (fun k hk=>hb.block k (h.lt k hk).2)
theorem xhn.form {w:World} {B:Nat} {E:TypeId} {v:Value} {xs:List Value} (h:xhn w B E v xs) :
  (v=.slice none 0 0∧xs=[])∨∃ g cap,v=.slice (some ⟨g,0,none⟩) xs.length cap∧B≤g∧g<w.heap.size∧xs.length≤cap∧cap≤maxLen∧(∀ j,j<xs.length→w.cell? ⟨g,j,none⟩=xs[j]?)∧∀ j,w.frozen? ⟨g,j,none⟩=false:=by
 have hlt:=h.lt
 have h':=h
 obtain⟨h1,h2⟩:=h
 rcases h2 with ⟨rfl,hn⟩|⟨g,cap,cur,rfl,hg,hh,hle,hm,_⟩
 ·exact .inl ⟨rfl,List.eq_nil_of_length_eq_zero hn⟩
 ·exact .inr ⟨g,cap,rfl,hg,(hlt g rfl).2,hle,hm,fun j hj=>World.ownsRow.cellAt h' j (by omega),fun j=>World.ownsRow.frozenAt h' j⟩
theorem xhn.valsAt {w:World} {B:Nat} {E:TypeId} {v:Value} {xs:List Value} (h:xhn w B E v xs):xsN w v xs:=by
 rcases h.form with ⟨rfl,rfl⟩|⟨g,cap,rfl,hg,hl,h1,h2,hc,_⟩
 ·exact xh3 w
 ·refine⟨_,cap,rfl,h1,h2,fun k t ht=>⟨g,0,rfl,hl,?_⟩⟩
  have hk:=(List.getElem?_eq_some_iff.1 ht).1
  rw[Nat.zero_add,hc k hk];exact ht
theorem xp6 {w:World} {B:Nat} {E:TypeId} {v:Value} {n:Nat} {xs ys:List Value} (h:w.ownsRow B E 1 v n ys) (hn:n=xs.length) (he:ys=xs):xhn w B E v xs:=by
 subst hn;subst he;exact h
theorem xiF {a b:ByteArray} (h:a=b):(a.toList == b.toList)=true:=by rw[h];simp
theorem xnc {a b:ByteArray} (h:¬ a=b):(a.toList == b.toList)=false:=by
 rw[ByteArray.toList_eq,ByteArray.toList_eq,beq_eq_false_iff_ne]
 intro e
 exact h (ByteArray.ext (Array.toList_inj.1 e))
theorem xeD (w:World) (o:Obj):(w.alloc o).heap[w.heap.size]?=some o:=by
 show (w.heap.push o)[w.heap.size]?=_
 simp
theorem xcC:(Tryz.prog.info? 144).map (·.size)=some 2:=by kernel_rfl
theorem xgd (w:World) (g:Nat) (ty:TypeId) (x y:Value) (d:TypeDesc) (c0:w.cell? ⟨g,0,none⟩=some x) (c1:w.cell? ⟨g,1,none⟩=some y)
  (hu:Tryz.prog.underlying ty=some d) (hd:(match d with|.struct _|.array _ _=>true|_=>false)=true) (hi:(Tryz.prog.info? ty).map (·.size)=some 2) :
  (loadVar ty ⟨g,0,none⟩).run Tryz.prog w=.ok (.agg #[x,y]) w:=by
 have hl:(loadCells ⟨g,0,none⟩ 2).run Tryz.prog w=.ok #[x,y] w :=
  run_loadCells_list (P:=Tryz.prog) w ⟨g,0,none⟩ [x,y] (fun j v hv=>by
   have hadd:(⟨g,0,none⟩:Addr).add j=⟨g,j,none⟩:=by unfold Addr.add;split <;> simp_all
   rw[hadd]
   match j,hv with
   | 0,hv=>simp at hv;rw[c0,hv]
   | 1,hv=>simp at hv;rw[c1,hv]
   | j+2,hv=>simp at hv)
 cases hq:Tryz.prog.info? ty with
 | none=>simp[hq] at hi
 | some i =>
  have hs:i.size=2:=by simpa[hq] using hi
  have hagg:(isAgg ty).run Tryz.prog w=.ok true w:=by
   unfold isAgg
   rw[Sem.run_bind,run_underlying hu w]
   cases d <;> simp_all
  simp[loadVar,Sem.run_bind,hagg,sizeOf,typeInfo,hq,hs,hl]
theorem xhQ {fn:Func} {p q:Tmp} {ty:TypeId} (h:fn.results=#[.cell p ty,.tmp q]) (tmps:Array Value) (w:World) (g:Nat) (x y v:Value) (d:TypeDesc) (hp:tmps.getD p undef=.pointer (some ⟨g,0,none⟩)) (hq:tmps.getD q undef=v) (c0:w.cell? ⟨g,0,none⟩=some x) (c1:w.cell? ⟨g,1,none⟩=some y)
  (hu:Tryz.prog.underlying ty=some d) (hd:(match d with|.struct _|.array _ _=>true|_=>false)=true) (hi:(Tryz.prog.info? ty).map (·.size)=some 2) :
  (results fn tmps).run Tryz.prog w=.ok (.tuple #[.agg #[x,y],v]) w:=by
 have hl:=xgd w g ty x y d c0 c1 hu hd hi
 have hp':tmps[p]?.getD undef=.pointer (some ⟨g,0,none⟩):=by simpa using hp
 have hq':tmps[q]?.getD undef=v:=by simpa using hq
 simp[results,h,hp',hq',asAddr,hl]
theorem xcm {fn:Func} {p q r:Tmp} {ty:TypeId} (h:fn.results=#[.cell p ty,.tmp q,.tmp r]) (tmps:Array Value) (w:World) (g:Nat) (x y v u:Value) (d:TypeDesc) (hp:tmps.getD p undef=.pointer (some ⟨g,0,none⟩)) (hq:tmps.getD q undef=v) (hr:tmps.getD r undef=u) (c0:w.cell? ⟨g,0,none⟩=some x) (c1:w.cell? ⟨g,1,none⟩=some y)
  (hu:Tryz.prog.underlying ty=some d) (hd:(match d with|.struct _|.array _ _=>true|_=>false)=true) (hi:(Tryz.prog.info? ty).map (·.size)=some 2) :
  (results fn tmps).run Tryz.prog w=.ok (.tuple #[.agg #[x,y],v,u]) w:=by
 have hl:=xgd w g ty x y d c0 c1 hu hd hi
 have hp':tmps[p]?.getD undef=.pointer (some ⟨g,0,none⟩):=by simpa using hp
 have hq':tmps[q]?.getD undef=v:=by simpa using hq
 have hr':tmps[r]?.getD undef=u:=by simpa using hr
 simp[results,h,hp',hq',hr',asAddr,hl]
def Two (w:World) (g:Nat) (x y:Value):Prop:=w.cell? ⟨g,0,none⟩=some x∧w.cell? ⟨g,1,none⟩=some y∧w.frozen? ⟨g,0,none⟩=false∧w.frozen? ⟨g,1,none⟩=false
theorem Two.lt {w:World} {g:Nat} {x y:Value} (h:Two w g x y):g<w.heap.size:=xbx h.1
theorem Two.below {w w':World} {g:Nat} {x y:Value} (h:Two w g x y) (hb:Below w.heap.size w w'):Two w' g x y :=
 ⟨xap hb h.1,xap hb h.2.1,(hb.frozen (p:=⟨g,0,none⟩) h.lt).trans h.2.2.1,(hb.frozen (p:=⟨g,1,none⟩) h.lt).trans h.2.2.2⟩
theorem Two.alloc {w:World} {g:Nat} {x y:Value} (h:Two w g x y) (o:Obj):Two (w.alloc o) g x y:=h.below (Below.alloc (Below.refl _ _) (Nat.le_refl _) _)
theorem xfg (w:World) (x y:Value) (T:TypeId):Two (w.alloc (.cells #[x,y] T)) w.heap.size x y:=⟨by simp[go_sem],by simp[go_sem],by simp[go_sem],by simp[go_sem]⟩
theorem Two.set {w:World} {g:Nat} {x y:Value} (h:Two w g x y) (x' y':Value):Two ((w.setCell ⟨g,0,none⟩ x').setCell ⟨g,1,none⟩ y') g x' y':=by
 obtain⟨h0,h1,h2,h3⟩:=h
 have e1:(w.setCell ⟨g,0,none⟩ x').cell? ⟨g,1,none⟩=some y:=by rw[World.cell?_setCell_other (h:=by simp),h1]
 refine⟨?_,World.cell?_setCell_same _ _ _ e1,by simpa using h2,by simpa using h3⟩
 rw[World.cell?_setCell_other (h:=by simp)]
 exact World.cell?_setCell_same _ _ _ h0
theorem Two.lower {w w':World} {B g:Nat} {x y:Value} (h:Two w g x y) (hb:Below B w w') (hg:g<B):Two w' g x y :=
 ⟨(hb.cell (p:=⟨g,0,none⟩) hg).trans h.1,(hb.cell (p:=⟨g,1,none⟩) hg).trans h.2.1,(hb.frozen (p:=⟨g,0,none⟩) hg).trans h.2.2.1,(hb.frozen (p:=⟨g,1,none⟩) hg).trans h.2.2.2⟩
theorem xhn.slice {w:World} {B:Nat} {E:TypeId} {v:Value} {xs:List Value} (h:xhn w B E v xs):∃ a cap,v=.slice a xs.length cap:=by
 rcases h.form with ⟨rfl,rfl⟩|⟨g,cap,rfl,_⟩
 ·exact⟨none,0,rfl⟩
 ·exact⟨_,cap,rfl⟩
structure Kept (S S':Nat→Prop) (W W':World):Prop where
 os:W'.os=W.os
 tape:W'.tape=W.tape
 output:W'.output=W.output
 size:W.heap.size≤W'.heap.size
 same:∀ b,b<W.heap.size→¬ S b→W'.heap[b]?=W.heap[b]?
 own:∀ b,S' b→S b∨W.heap.size≤b
theorem Kept.trans {S S' S'':Nat→Prop} {X Y Z:World} (h:Kept S S' X Y) (h':Kept S' S'' Y Z):Kept S S'' X Z:=by
 refine⟨h'.os.trans h.os,h'.tape.trans h.tape,h'.output.trans h.output,Nat.le_trans h.size h'.size,fun b hb hs=>?_,fun b hb=>?_⟩
 ·rw[h'.same b (Nat.lt_of_lt_of_le hb h.size) (fun hs'=>?_),h.same b hb hs]
  rcases h.own b hs' with h1|h1
  ·exact hs h1
  ·omega
 ·rcases h'.own b hb with h1|h1
  ·exact h.own b h1
  ·exact .inr (Nat.le_trans h.size h1)
theorem Kept.below (S:Nat→Prop) {W W':World} (hb:Below W.heap.size W W'):Kept S S W W':=⟨hb.os,hb.tape,hb.output,hb.size,fun b hl _=>hb.block b hl,fun _ h=>.inl h⟩
theorem Below.kept {S S':Nat→Prop} {B:Nat} {w W W':World} (h:Below B w W) (hk:Kept S S' W W') (hS:∀ b,S b→B≤b) (hB:B≤W.heap.size):Below B w W' :=
 ⟨hk.os.trans h.os,hk.tape.trans h.tape,hk.output.trans h.output,Nat.le_trans h.size hk.size,fun b hb=>(hk.same b (Nat.lt_of_lt_of_le hb hB) (fun hs=>absurd (hS b hs) (by omega))).trans (h.block b hb)⟩
def xaB:List It→List Value
 | []=>[]
 | t :: l=>.int .u64 t.1 :: .string t.2 :: xaB l
theorem xaF (l:List It):(xaB l).length=l.length*2:=by
 induction l with
 | nil=>rfl
 | cons t l ih=>simp[xaB,ih];omega
theorem xcs (a b:List It):xaB (a++b)=xaB a++xaB b:=by
 induction a with
 | nil=>rfl
 | cons t l ih=>simp[xaB,ih]
theorem xga (l:List It):∀ (k:Nat) (t:It),l[k]?=some t→(xaB l)[k*2]?=some (.int .u64 t.1)∧(xaB l)[k*2+1]?=some (.string t.2):=by
 induction l with
 | nil=>intro k t h;simp at h
 | cons s l ih =>
  intro k t h
  cases k with
  | zero=>simp at h;subst h;simp[xaB]
  | succ k =>
   have:=ih k t (by simpa using h)
   rw[show (k+1)*2=k*2+1+1 by omega]
   simpa[xaB] using this
theorem xew (l:List It):∀ u ∈ xaB l,u.oneCell'=true:=by
 induction l with
 | nil=>intro u h;simp[xaB] at h
 | cons t l ih =>
  intro u h
  simp only[xaB,List.mem_cons] at h
  rcases h with rfl|rfl|h
  ·rfl
  ·rfl
  ·exact ih u h
def ItsAt (w:World) (v:Value) (l:List It):Prop:=∃ a cap,v=.slice a l.length cap∧l.length≤cap∧cap≤maxLen∧∀ k t,l[k]?=some t→∃ g off,a=some ⟨g,off,none⟩∧g<w.heap.size∧w.cell? ⟨g,off+k*2,none⟩=some (.int .u64 t.1)∧w.cell? ⟨g,off+k*2+1,none⟩=some (.string t.2)
theorem xgH (w:World):ItsAt w (.slice none 0 0) []:=⟨none,0,rfl,Nat.le_refl _,by simp,fun k t h=>by simp at h⟩
theorem ItsAt.below {w w':World} {v:Value} {l:List It} (h:ItsAt w v l) (hb:Below w.heap.size w w'):ItsAt w' v l:=by
 obtain⟨a,cap,rfl,h1,h2,hc⟩:=h
 refine⟨a,cap,rfl,h1,h2,fun k t ht=>?_⟩
 obtain⟨g,off,ha,hg,c0,c1⟩:=hc k t ht
 exact⟨g,off,ha,Nat.lt_of_lt_of_le hg hb.size,xap hb c0,xap hb c1⟩
def xa3 (w:World) (B:Nat) (E:TypeId) (v:Value) (l:List It):Prop:=w.ownsRow B E 2 v l.length (xaB l)
theorem xfc (w:World) (B:Nat) (E:TypeId):xa3 w B E (.slice none 0 0) []:=World.ownsRow_nil _ _ _ _
theorem xa3.lt {w:World} {B:Nat} {E:TypeId} {v:Value} {l:List It} (h:xa3 w B E v l):∀ k,v.ownBlock=some k→B≤k∧k<w.heap.size:=World.ownsRow.lt h
theorem xa3.below {w w':World} {B:Nat} {E:TypeId} {v:Value} {l:List It} (h:xa3 w B E v l) (hb:Below w.heap.size w w'):xa3 w' B E v l:=by
 have hlt:=h.lt
 obtain⟨h1,h2⟩:=h
 refine⟨h1,?_⟩
 rcases h2 with h2|⟨g,cap,cur,hv,hg,hh,r⟩
 ·exact .inl h2
 ·refine .inr ⟨g,cap,cur,hv,hg,?_,r⟩
  rw[hb.block g (hlt g (by rw[hv];rfl)).2];exact hh
theorem xa3.mono {w:World} {B B':Nat} {E:TypeId} {v:Value} {l:List It} (h:xa3 w B E v l) (hb:B'≤B):xa3 w B' E v l:=by
 obtain⟨h1,h2⟩:=h
 refine⟨h1,?_⟩
 rcases h2 with h2|⟨g,cap,cur,hv,hg,r⟩
 ·exact .inl h2
 ·exact .inr ⟨g,cap,cur,hv,Nat.le_trans hb hg,r⟩
theorem xa3.itsAt {w:World} {B:Nat} {E:TypeId} {v:Value} {l:List It} (h:xa3 w B E v l):ItsAt w v l:=by
 have hlt:=h.lt
 have h':=h
 obtain⟨h1,h2⟩:=h
 rcases h2 with ⟨rfl,hn⟩|⟨g,cap,cur,rfl,hg,hh,hle,hm,_⟩
 ·obtain rfl:l=[]:=List.eq_nil_of_length_eq_zero hn
  exact xgH w
 ·refine⟨_,cap,rfl,hle,hm,fun k t ht=>⟨g,0,rfl,(hlt g rfl).2,?_⟩⟩
  have hk:=(List.getElem?_eq_some_iff.1 ht).1
  obtain⟨f0,f1⟩:=xga l k t ht
  rw[Nat.zero_add]
  exact⟨(World.ownsRow.cellAt h' (k*2) (by omega)).trans f0,(World.ownsRow.cellAt h' (k*2+1) (by omega)).trans f1⟩
theorem xwV:(Tryz.prog.info? 46).map (·.size)=some 2:=by kernel_rfl
theorem xe5:(Tryz.prog.info? 79).map (fun i=>(i.zero,i.size,i.bytes))=some (some (.agg #[.int .u64 0,.string { data:=#[] }]),2,24):=by kernel_rfl
theorem xfp:(Tryz.prog.info? 46).map (fun i=>(i.zero,i.size,i.bytes))=some (some (.agg #[.int .u64 0,.string { data:=#[] }]),2,24):=by kernel_rfl
theorem xaD (W:World) (B:Nat) (TS E ty:TypeId) (z:Value) (ht:Tryz.prog.underlying TS=some (.slice E)) (hI:(Tryz.prog.info? E).map (fun i=>(i.zero,i.size,i.bytes))=some (some z,2,24)) (hzs:z.cells.size=2)
  (v x:Value) (L m:List It) (hown:xa3 W B E v L) (hx:ItsAt W x m) (hl:L.length+m.length≤1000000) (hb:B≤W.heap.size) :
  ∃ v' w',(Builtin.append_ #[TS,TS] ty #[v,x]).run Tryz.prog W=.ok v' w'∧xa3 w' B E v' (L++m)∧W.grownBy w' v.ownBlock:=by
 obtain⟨a,cap,rfl,h1,h2,hc⟩:=hx
 have fin:∀ {w':World} {v':Value},w'.ownsRow B E 2 v' (L.length+m.length) (xaB L++xaB m)→xa3 w' B E v' (L++m):=by
  intro w' v' h
  unfold xa3
  rw[xcs,List.length_append]
  exact h
 cases a with
 | none =>
  have hl0:m=[]:=by
   cases m with
   | nil=>rfl
   | cons t l=>obtain⟨g,off,ha,_⟩:=hc 0 t rfl;cases ha
  subst hl0
  refine⟨v,W,?_,by rw[List.append_nil];exact hown,World.grownBy.refl _ _⟩
  obtain⟨i0,hi,hz0,hz1,hz2⟩:=xao hI
  rcases hown.2 with ⟨rfl,hn⟩|⟨g,cap2,cur,rfl,hbg,hg,hnc,hcm,hcs,htake⟩
  ·simp[Builtin.append_,run_underlying ht,sizeOf,typeInfo,hi,Builtin.lenOf,Builtin.firstCells,loadCells,loadCellsFrom]
  ·simp[Builtin.append_,run_underlying ht,sizeOf,typeInfo,hi,Builtin.lenOf,Builtin.firstCells,loadCells,loadCellsFrom,hnc,storeCells]
 | some ad =>
  have hnews:∀ j u,(xaB m)[j]?=some u→W.cell? (ad.add j)=some u:=by
   intro j u hu
   have hj:j<m.length*2:=by rw[← xaF];exact(List.getElem?_eq_some_iff.1 hu).1
   obtain⟨t,ht⟩:∃ t,m[j / 2]?=some t:=⟨_,List.getElem?_eq_getElem (by omega)⟩
   obtain⟨g,off,ha,_,c0,c1⟩:=hc (j / 2) t ht
   obtain⟨f0,f1⟩:=xga m (j / 2) t ht
   injection ha with ha
   subst ha
   have hadd:(⟨g,off,none⟩:Addr).add j=⟨g,off+j,none⟩:=by simp[Addr.add]
   rw[hadd]
   rcases(by omega:j=j / 2*2∨j=j / 2*2+1) with e|e
   ·rw[e,f0] at hu;rw[← hu];rw[show off+j=off+j / 2*2 from by omega];exact c0
   ·rw[e,f1] at hu;rw[← hu];rw[show off+j=off+j / 2*2+1 from by omega];exact c1
  obtain⟨i0,hi,hz0,hz1,hz2⟩:=xao hI
  obtain⟨v',w',hr,h2,h3,h4⟩:=run_append_own (P:=Tryz.prog) W B TS ty E i0 _ 2 24 ht hi hz0 hz1 hz2 hzs (by omega) v L.length (xaB L) hown ad m.length cap (xaB m) (xaF m) hnews (xew m) (by unfold maxLen;omega) (by omega) hb
  exact⟨v',w',hr,fin h2,h3⟩
theorem xmC (w:World) (x:Nat) (s:ByteArray) (T:TypeId):ItsAt (w.alloc (.cells #[.int .u64 x,.string s] T)) (.slice (some ⟨w.heap.size,0,none⟩) 1 1) [(x,s)]:=by
 refine⟨_,1,rfl,Nat.le_refl _,by unfold maxLen;omega,fun k t ht=>⟨w.heap.size,0,rfl,by simp,?_⟩⟩
 match k,ht with
 | 0,ht=>simp only[List.getElem?_cons_zero,Option.some.injEq] at ht;subst ht;exact⟨by simp[go_sem],by simp[go_sem]⟩
 | k+1,ht=>simp at ht
def tab:List UInt8:=[0,1,2,2,3,3,3,3,4,4,4,4,4,4,4,4,5,5,5,5,5,5,5,5,5,5,5,5,5,5,5,5,6,6,6,6,6,6,6,6,6,6,6,6,6,6,6,6,6,6,6,6,6,6,6,6,6,6,6,6,6,6,6,6,7,7,7,7,7,7,7,7,7,7,7,7,7,7,7,7,7,7,7,7,7,7,7,7,7,7,7,7,7,7,7,7,7,7,7,7,7,7,7,7,7,7,7,7,7,7,7,7,7,7,7,7,7,7,7,7,7,7,7,7,7,7,7,7,8,8,8,8,8,8,8,8,8,8,8,8,8,8,8,8,8,8,8,8,8,8,8,8,8,8,8,8,8,8,8,8,8,8,8,8,8,8,8,8,8,8,8,8,8,8,8,8,8,8,8,8,8,8,8,8,8,8,8,8,8,8,8,8,8,8,8,8,8,8,8,8,8,8,8,8,8,8,8,8,8,8,8,8,8,8,8,8,8,8,8,8,8,8,8,8,8,8,8,8,8,8,8,8,8,8,8,8,8,8,8,8,8,8,8,8,8,8,8,8,8,8,8,8,8,8,8,8]
def xDe (N b:Nat):Bool:=(N == 0 && b == 0) || (decide (1≤N) && decide (N≤64) && decide (2 ^ (N - 1)≤b) && decide (b<2 ^ N))
def Len (N:Nat) (x:Int):Prop:=N≤64∧(N=0∧x=0∨1≤N∧((2 ^ (N - 1):Nat):Int)≤x∧x<((2 ^ N:Nat):Int))
theorem xzR:(List.range 256).all (fun b=>decide ((tab.getD b 0).toNat≤8) && xDe (tab.getD b 0).toNat b)=true:=by kernel_rfl
theorem xzn:tab.length=256:=by kernel_rfl
theorem xtO (b:Nat) (h:b<256):(tab.getD b 0).toNat≤8∧Len (tab.getD b 0).toNat (b:Int):=by
 have:=List.all_eq_true.1 xzR b (by simpa using h)
 generalize (tab.getD b 0).toNat=L at *
 simp only[Bool.and_eq_true,decide_eq_true_eq,xDe,Bool.or_eq_true,beq_iff_eq] at this
 refine⟨this.1,by omega,?_⟩
 omega
theorem xBM (B L:Nat) (y x:Int) (hL:L≤8) (hB:B=0∨B=8∨B=16∨B=24∨B=32∨B=40∨B=48∨B=56) (h:Len L y) (hy:x / ((2 ^ B:Nat):Int)=y) (h1:B=0∨1≤y):Len (B+L) x:=by
 unfold Len at *
 refine⟨by omega,?_⟩
 rcases(by omega:L=0∨L=1∨L=2∨L=3∨L=4∨L=5∨L=6∨L=7∨L=8) with rfl|rfl|rfl|rfl|rfl|rfl|rfl|rfl|rfl <;>
 rcases hB with rfl|rfl|rfl|rfl|rfl|rfl|rfl|rfl <;> simp only[Nat.reducePow,Nat.reduceSub,Nat.reduceAdd,Nat.add_zero,Nat.zero_add,Int.cast_ofNat_Int] at*<;> first|omega|(simp at *;omega)
theorem xyM (B:Nat) (y x:Int) (T:ByteArray) (hT:T.data.toList=tab) (hi:y.toNat<T.size) (hB:B=0∨B=8∨B=16∨B=24∨B=32∨B=40∨B=48∨B=56) (hy:x / ((2 ^ B:Nat):Int)=y) (y0:0≤y) (h1:B=0∨1≤y):∃ n:Nat,wrap64 ((B:Int)+wrap64 ((T[y.toNat].toNat:Nat):Int))=n∧Len n x:=by
 have hz:T.size=256:=by rw[← xzn,← hT];simp
 have hs:=xtO y.toNat (by omega)
 have e:T[y.toNat]=tab.getD y.toNat 0:=by
  rw[← hT]
  simp[List.getD,ByteArray.getElem_eq_getElem_data]
  have:y.toNat<T.data.size:=hi
  rw[Array.getElem?_eq_getElem this];rfl
 rw[e]
 refine⟨B+(tab.getD y.toNat 0).toNat,?_,xBM B _ y x hs.1 hB (by have:=hs.2;rwa[Int.toNat_of_nonneg y0] at this) hy h1⟩
 unfold wrap64
 omega
theorem xbo (B:Nat) (y x:Int) (T:ByteArray) (hi:y.toNat<T.size) (hT:T.data.toList=tab) (hB:B=0∨B=8∨B=16∨B=24∨B=32∨B=40∨B=48∨B=56) (hy:x / ((2 ^ B:Nat):Int)=y) (y0:0≤y) (h1:B=0∨1≤y) (v:Int) (hv:v=wrap64 ((B:Int)+wrap64 ((T[y.toNat].toNat:Nat):Int))):∃ n:Nat,Ending.returned (.int .i64 v)=.returned (.int .i64 n)∧Len n x:=by
 obtain⟨n,a,b⟩:=xyM B y x T hT hi hB hy y0 h1
 exact⟨n,by rw[hv,a],b⟩
set_option maxRecDepth 100000 in
theorem xgO (x:Int) (w:World) (x0:0≤x) (x1:x≤18446744073709551615):Calls Tryz.prog 199 #[.int .u64 x] w fun e w'=>(∃ n:Nat,e=.returned (.int .i64 n)∧Len n x)∧w=w':=by
 by_cases h1:4294967296≤x
 ·go_enter Tryz.func199,Tryz.ntmps199
  go_wp2
  all_goals
   go_ret
   refine⟨?_,rfl⟩
   first
    | exact xbo 56 _ x _ _ (by kernel_rfl) (by decide) (by (simp only[Nat.reducePow,Int.cast_ofNat_Int]) <;> omega) (by omega) (by omega) _ rfl
    | exact xbo 48 _ x _ _ (by kernel_rfl) (by decide) (by (simp only[Nat.reducePow,Int.cast_ofNat_Int]) <;> omega) (by omega) (by omega) _ rfl
    | exact xbo 40 _ x _ _ (by kernel_rfl) (by decide) (by (simp only[Nat.reducePow,Int.cast_ofNat_Int]) <;> omega) (by omega) (by omega) _ rfl
    | exact xbo 32 _ x _ _ (by kernel_rfl) (by decide) (by (simp only[Nat.reducePow,Int.cast_ofNat_Int]) <;> omega) (by omega) (by omega) _ rfl
    | exact xbo 24 _ x _ _ (by kernel_rfl) (by decide) (by (simp only[Nat.reducePow,Int.cast_ofNat_Int]) <;> omega) (by omega) (by omega) _ rfl
    | exact xbo 16 _ x _ _ (by kernel_rfl) (by decide) (by (simp only[Nat.reducePow,Int.cast_ofNat_Int]) <;> omega) (by omega) (by omega) _ rfl
    | exact xbo 8 _ x _ _ (by kernel_rfl) (by decide) (by (simp only[Nat.reducePow,Int.cast_ofNat_Int]) <;> omega) (by omega) (by omega) _ rfl
    | exact xbo 0 _ x _ _ (by kernel_rfl) (by decide) (by (simp only[Nat.reducePow,Int.cast_ofNat_Int]) <;> omega) (by omega) (by omega) _ (congrArg wrap64 (Int.zero_add _).symm)
 ·go_enter Tryz.func199,Tryz.ntmps199
  go_wp2
  all_goals
   go_ret
   refine⟨?_,rfl⟩
   first
    | exact xbo 56 _ x _ _ (by kernel_rfl) (by decide) (by (simp only[Nat.reducePow,Int.cast_ofNat_Int]) <;> omega) (by omega) (by omega) _ rfl
    | exact xbo 48 _ x _ _ (by kernel_rfl) (by decide) (by (simp only[Nat.reducePow,Int.cast_ofNat_Int]) <;> omega) (by omega) (by omega) _ rfl
    | exact xbo 40 _ x _ _ (by kernel_rfl) (by decide) (by (simp only[Nat.reducePow,Int.cast_ofNat_Int]) <;> omega) (by omega) (by omega) _ rfl
    | exact xbo 32 _ x _ _ (by kernel_rfl) (by decide) (by (simp only[Nat.reducePow,Int.cast_ofNat_Int]) <;> omega) (by omega) (by omega) _ rfl
    | exact xbo 24 _ x _ _ (by kernel_rfl) (by decide) (by (simp only[Nat.reducePow,Int.cast_ofNat_Int]) <;> omega) (by omega) (by omega) _ rfl
    | exact xbo 16 _ x _ _ (by kernel_rfl) (by decide) (by (simp only[Nat.reducePow,Int.cast_ofNat_Int]) <;> omega) (by omega) (by omega) _ rfl
    | exact xbo 8 _ x _ _ (by kernel_rfl) (by decide) (by (simp only[Nat.reducePow,Int.cast_ofNat_Int]) <;> omega) (by omega) (by omega) _ rfl
    | exact xbo 0 _ x _ _ (by kernel_rfl) (by decide) (by (simp only[Nat.reducePow,Int.cast_ofNat_Int]) <;> omega) (by omega) (by omega) _ (congrArg wrap64 (Int.zero_add _).symm)
end Go.Proofs.YtjkgkmmkehnggaaGreatDoor
namespace Go.Proofs.YtjkgkmmkehnggaaGreatDoor
set_option linter.unusedVariables false
set_option linter.unusedSimpArgs false
def p2:Nat→Int
 | 0=>1
 | k+1=>2*p2 k
def p4:Nat→Int
 | 0=>1
 | k+1=>4*p4 k
theorem xrA (k:Nat):1≤p4 k:=by
 induction k with
 | zero=>simp[p4]
 | succ k ih=>simp only[p4];omega
def hpl:Nat→Int→Int→Int
 | 0,_,_=>0
 | k+1,x,y=>if x<p2 k then (if y<p2 k then hpl k y x else p4 k+hpl k x (y - p2 k)) else if p2 k≤y then 2*p4 k+hpl k (x - p2 k) (y - p2 k) else 3*p4 k+hpl k (p2 k - 1 - y) (p2 k - 1 - (x - p2 k))
def bas:Nat→Int
 | 0=>0
 | k+1=>bas k+p4 k
theorem xrb (k:Nat):3*bas k+1=p4 k:=by
 induction k with
 | zero=>rfl
 | succ k ih=>simp only[bas,p4];omega
theorem xiM (a b:Nat) (h:a≤b):bas a≤bas b:=by
 induction h with
 | refl=>exact Int.le_refl _
 | step h ih=>rename_i m;simp only[bas];have:=xrA m;omega
theorem xBd (k:Nat):0≤bas k:=xiM 0 k (Nat.zero_le _)
theorem xty:bas 27=6004799503160661:=by decide
def zof:Nat→Int→Int
 | 0,_=>-1
 | k+1,d=>if bas k≤d∧d<bas (k+1) then k else zof k d
theorem xw5 (n k:Nat) (d:Int) (h:k<n) (h0:bas k≤d) (h1:d<bas (k+1)):zof n d=k:=by
 induction n with
 | zero=>omega
 | succ n ih =>
  rw[zof]
  by_cases e:k=n
  ·subst e;rw[if_pos ⟨h0,h1⟩]
  ·rw[if_neg,ih (by omega)]
   intro hh
   have:=xiM (k+1) n (by omega)
   omega
theorem xB2 (n:Nat) (d:Int) (h:¬ (0≤d∧d<bas n)):zof n d=-1:=by
 induction n with
 | zero=>rfl
 | succ n ih =>
  have:=xrA n
  have:=xBd n
  rw[zof,if_neg,ih]
  ·simp only[bas] at h;omega
  ·simp only[bas] at h ⊢;omega
theorem xAN (n:Nat) (d:Int) (h0:0≤d) (h1:d<bas n):∃ k,k<n∧bas k≤d∧d<bas (k+1)∧zof n d=k:=by
 induction n with
 | zero=>simp only[bas] at h1;omega
 | succ n ih =>
  by_cases h:d<bas n
  ·obtain⟨k,a,b,c,e⟩:=ih h
   exact⟨k,by omega,b,c,xw5 (n+1) k d (by omega) b c⟩
  ·exact⟨n,by omega,by omega,h1,xw5 (n+1) n d (by omega) (by omega) h1⟩
end Go.Proofs.YtjkgkmmkehnggaaGreatDoor
namespace Go.Proofs.YtjkgkmmkehnggaaGreatDoor
set_option linter.unusedVariables false
set_option linter.unusedSimpArgs false
open Go.RowKit
set_option maxRecDepth 20000
theorem xn1 (k:Nat):bas (k+1)=bas k+p4 k:=rfl
def xhr (d:Int):Int:=zof 27 d
theorem xiN (d:Int) (h0:0≤d) (h1:d<6004799503160661):∃ k:Nat,k≤26∧bas k≤d∧d<bas k+p4 k∧xhr d=k:=by
 obtain⟨k,a,b,c,e⟩:=xAN 27 d h0 (by rw[xty];exact h1)
 exact⟨k,by omega,b,by rw[← xn1];exact c,e⟩
theorem xy6 (d:Int) (h:¬ d<6004799503160661):xhr d=-1:=xB2 27 d (by rw[xty];omega)
theorem xDf (k:Nat):((2 ^ (2*k):Nat):Int)=p4 k:=by
 induction k with
 | zero=>rfl
 | succ k ih=>rw[show 2*(k+1)=2*k+2 from by omega,Nat.pow_add,p4,← ih];omega
theorem xvq (X:Int) (n k:Nat) (h:Len n X) (h0:p4 k≤X) (h1:X<4*p4 k):n=2*k+1∨n=2*k+2:=by
 obtain⟨h64,h⟩:=h
 have hp:=xrA k
 have e:=xDf k
 have e2:=xDf (k+1)
 rw[p4] at e2
 rcases h with ⟨rfl,h⟩|⟨hn,ha,hb⟩
 ·omega
 have g1:2*k<n:=by
  rcases Nat.lt_or_ge (2*k) n with hc|hc
  ·exact hc
  ·have:=Nat.pow_le_pow_right (by omega:0<2) hc
   omega
 have g2:n - 1<2*(k+1):=by
  rcases Nat.lt_or_ge (n - 1) (2*(k+1)) with hc|hc
  ·exact hc
  ·have:=Nat.pow_le_pow_right (by omega:0<2) hc
   omega
 omega
theorem xgh (d:Int) (d0:0≤d) (w:World):Calls Tryz.prog 159 #[.int .u64 d] w fun e w'=>e=.returned (.int .i64 (xhr d))∧w=w':=by
 by_cases h:d<6004799503160661
 ·obtain⟨k,hk,a,b,e⟩:=xiN d d0 h
  rw[e]
  have h3:=xrb k
  have hl:=fun n hn=>xvq (3*d+1) n k hn (by omega) (by omega)
  have HL:=lH hl
  clear hl h3 a b e
  go_enter Tryz.func159,Tryz.ntmps159
  go_wp2_with fail
  refine(xgO _ _ (by omega) (by omega)).mono ?_
  rintro e w' ⟨⟨n,rfl,hn⟩,rfl⟩
  have hs:=HL.out n hn
  clear hn HL
  go_wp2
  go_ret
  refine⟨?_,rfl⟩
  have:n=2*k+1∨n=2*k+2:=hs
  rcases this with rfl|rfl
  ·show Ending.returned (.int .i64 _)=.returned (.int .i64 _)
   congr 2
   omega
  ·show Ending.returned (.int .i64 _)=.returned (.int .i64 _)
   congr 2
   omega
 ·rw[xy6 d h]
  go_enter Tryz.func159,Tryz.ntmps159
  go_wp2_with fail
  go_ret
  exact⟨rfl,rfl⟩
def zlo:List It→Int
 | []=>0
 | t :: _=>xhr (t.1:Int)
def zhi (l:List It):Int:=match l.getLast? with|none=>0|some t=>xhr (t.1:Int)
end Go.Proofs.YtjkgkmmkehnggaaGreatDoor
namespace Go.Proofs.YtjkgkmmkehnggaaGreatDoor
set_option linter.unusedVariables false
set_option linter.unusedSimpArgs false
theorem xeH (l:List ByteArray) (s:ByteArray):∀ n k,xaK s l n=some k→(xb7 l).extract (k - n) (k - n+s.size)=s:=by
 induction l with
 | nil=>intro n k h;simp[xaK] at h
 | cons t l ih =>
  intro n k h
  rw[xaK] at h
  rw[xb7]
  by_cases e:t=s
  ·rw[if_pos e] at h;injection h with h;subst e;subst h
   rw[Nat.sub_self,Nat.zero_add]
   apply ByteArray.ext
   simp
  ·rw[if_neg e] at h
   have hle:=(xev s l _ _ h).1
   have h2:=ih _ _ h
   rw[show k - n=t.size+(k - (n+t.size)) by omega]
   conv=>rhs;rw[← h2]
   apply ByteArray.ext
   simp[Nat.add_assoc]
end Go.Proofs.YtjkgkmmkehnggaaGreatDoor
namespace Go.Proofs.YtjkgkmmkehnggaaGreatDoor
set_option linter.unusedVariables false
set_option linter.unusedSimpArgs false
set_option maxRecDepth 20000
theorem xie {α:Type} {M:List α→Prop} (h0:M []) (hs:∀ l a,M l→M (l++[a])) (l:List α):M l:=by
 rw[← List.reverse_reverse l]
 induction l.reverse with
 | nil=>exact h0
 | cons a r ih=>rw[List.reverse_cons];exact hs _ _ ih
def xn0 (a b:En):Bool:=decide (b.id=laN a+1∧a.off=b.off∧a.ln=b.ln)
def xxv (rows:List En) (e:En):List En:=match rows.getLast? with
 | some a=>if xn0 a e then rows.dropLast++[{ a with rn:=a.rn+1 }] else rows++[e]
 | none=>rows++[e]
theorem xwp (e:En):xxv [] e=[e]:=rfl
theorem xd9 (r:List En) (a e:En):xxv (r++[a]) e=if xn0 a e then r++[{ a with rn:=a.rn+1 }] else r++[a]++[e]:=by
 unfold xxv
 rw[List.getLast?_concat]
 simp only[List.dropLast_concat]
def xCj (ts:List ByteArray) (t:It):En:=⟨t.1,offA ts t.2,lenA ts t.2,1⟩
def xqM (p:List En × List ByteArray) (t:It):List En × List ByteArray:=(xxv p.1 (xCj p.2 t),xcp p.2 t.2)
def xad (L:List It):List En × List ByteArray:=L.foldl xqM ([],[])
theorem xhS (L:List It) (t:It):xad (L++[t])=xqM (xad L) t:=by unfold xad;rw[List.foldl_append];rfl
theorem xfu (L:List It) (k:Nat) (t:It) (h:L[k]?=some t):xad (L.take (k+1))=xqM (xad (L.take k)) t:=by rw[xez L k t h,xhS]
def txN (e:En) (d:ByteArray):ByteArray:=d.extract e.off.toNat (e.off.toNat+e.ln.toNat)
def xjg (e:En) (d:ByteArray):List It:=(List.range e.rn.toNat).map (fun k=>(e.id.toNat+k,txN e d))
def xh1 (l:List En) (d:ByteArray):List It:=l.flatMap (fun e=>xjg e d)
theorem xcl (a b:List En) (d:ByteArray):xh1 (a++b) d=xh1 a d++xh1 b d:=by simp[xh1]
theorem xfa (e:En) (d:ByteArray):xh1 [e] d=xjg e d:=by simp[xh1]
theorem xis (e:En) (d:ByteArray):(xjg e d).length=e.rn.toNat:=by simp[xjg]
theorem xmD (e:En) (d:ByteArray) (t:It):t ∈ xjg e d↔∃ k,k<e.rn.toNat∧t=(e.id.toNat+k,txN e d):=by
 unfold xjg
 rw[List.mem_map]
 constructor
 ·rintro⟨k,hk,rfl⟩;exact⟨k,List.mem_range.1 hk,rfl⟩
 ·rintro⟨k,hk,rfl⟩;exact⟨k,List.mem_range.2 hk,rfl⟩
def xhj (l:List En):Prop:=∀ i a b,l[i]?=some a→l[i+1]?=some b→xn0 a b=false
theorem xkf:xhj []:=fun i a b h=>by simp at h
theorem xfw {l:List En} {e:En} (h:xhj l) (hl:∀ r a,l=r++[a]→xn0 a e=false):xhj (l++[e]):=by
 intro i a b ha hb
 have hi:i+1<(l++[e]).length:=(List.getElem?_eq_some_iff.1 hb).1
 rw[List.length_append,List.length_singleton] at hi
 rw[List.getElem?_append_left (by omega)] at ha
 rcases Nat.lt_or_ge (i+1) l.length with h1|h1
 ·rw[List.getElem?_append_left h1] at hb
  exact h i a b ha hb
 ·have hb':b=e:=by
   rw[List.getElem?_append_right h1,show i+1 - l.length=0 by omega] at hb
   simpa using hb.symm
  subst hb'
  rcases List.eq_nil_or_concat l with rfl|⟨r,x,rfl⟩
  ·simp at ha
  ·rw[List.concat_eq_append] at *
   refine hl r a ?_
   have:i=r.length:=by simp at hi h1;omega
   subst this
   simp at ha
   rw[ha]
theorem xpT {l:List En} {e:En} (h:xhj (l++[e])):xhj l:=by
 intro i a b ha hb
 have h1:=(List.getElem?_eq_some_iff.1 ha).1
 have h2:=(List.getElem?_eq_some_iff.1 hb).1
 exact h i a b (by rw[List.getElem?_append_left h1];exact ha) (by rw[List.getElem?_append_left h2];exact hb)
theorem xoo {r:List En} {a b:En} (h:xhj (r++[a])) (hb:b.id=a.id∧b.off=a.off∧b.ln=a.ln):xhj (r++[b]):=by
 refine xfw (xpT h) (fun r' x hx=>?_)
 have h1:=h r'.length x a (by rw[hx];simp) (by rw[hx];simp)
 unfold xn0 at h1 ⊢
 rw[hb.1,hb.2.1,hb.2.2]
 exact h1
structure OkE (e:En) (ts:List ByteArray):Prop where
 may:xa1 e
 ck:ckN e=0
 run:1≤e.rn
 txt:∃ s,xaK s ts 0=some e.off.toNat∧e.ln=(s.size:Int)
theorem xgK {e:En} {ts:List ByteArray} {s:ByteArray} (h:xaK s ts 0=some e.off.toNat) (hl:e.ln=(s.size:Int)):txN e (xb7 ts)=s:=by
 have h1:=xeH ts s 0 _ h
 unfold txN
 rw[hl,Int.toNat_natCast]
 exact h1
theorem xtc (ts:List ByteArray) (s t:ByteArray) (k:Nat) (h:xaK s ts 0=some k):xaK s (xcp ts t) 0=some k:=by
 unfold xcp
 split
 ·rw[xdr,h]
 ·exact h
theorem OkE.grow {e:En} {ts:List ByteArray} (h:OkE e ts) (t:ByteArray):OkE e (xcp ts t)∧txN e (xb7 (xcp ts t))=txN e (xb7 ts):=by
 obtain⟨s,h1,h2⟩:=h.txt
 have h3:=xtc ts s t _ h1
 exact⟨⟨h.may,h.ck,h.run,s,h3,h2⟩,by rw[xgK h3 h2,xgK h1 h2]⟩
theorem xwj {e:En} {ts:List ByteArray} (h:OkE e ts) (t:ByteArray):xjg e (xb7 (xcp ts t))=xjg e (xb7 ts):=by
 unfold xjg
 rw[(h.grow t).2]
theorem xvy {l:List En} {ts:List ByteArray} (h:∀ e ∈ l,OkE e ts) (t:ByteArray):xh1 l (xb7 (xcp ts t))=xh1 l (xb7 ts):=by
 unfold xh1
 induction l with
 | nil=>rfl
 | cons e l ih=>rw[List.flatMap_cons,List.flatMap_cons,xwj (h e (by simp)) t,ih (fun x hx=>h x (by simp[hx]))]
theorem xkl {ts:List ByteArray} {s:ByteArray} (h0:0<s.size) (h1:s.size≤65536) (hl:ts.length<2048):lenA ts s=s.size∧xaK s (xcp ts s) 0=some (offA ts s):=by
 have he:eV ts s=0:=(xxi ts s).2 ⟨h0,h1,.inr hl⟩
 refine⟨by unfold lenA;rw[if_pos he],?_⟩
 by_cases hm:s ∈ ts
 ·have hn:xdb ts s=false:=by
   cases hh:xdb ts s with
   | false=>rfl
   | true=>exact absurd hm ((xe8 ts s).1 hh).2.2.1
  unfold xcp offA
  rw[hn,if_neg (by simp),if_neg (by simp),if_pos he]
  obtain⟨k,hk⟩:=Option.isSome_iff_exists.1 ((xbV s ts 0).2 hm)
  rw[hk]
  rfl
 ·have hn:xdb ts s=true:=(xe8 ts s).2 ⟨h0,h1,hm,hl⟩
  unfold xcp offA
  rw[hn,if_pos rfl,if_pos rfl,xdr,(xdQ s ts 0).2 hm]
  simp[xaK]
theorem xvV (ts:List ByteArray) (s x:ByteArray) (h0:0<s.size) (h1:s.size≤65536) (hl:ts.length<2048):x ∈ xcp ts s↔x ∈ ts∨x=s:=by
 unfold xcp
 split
 ·simp
 ·rename_i hn
  constructor
  ·exact .inl
  ·rintro(h|rfl)
   ·exact h
   ·have:x ∈ ts:=Classical.byContradiction fun hm=>hn ((xe8 ts x).2 ⟨h0,h1,hm,hl⟩)
    exact this
end Go.Proofs.YtjkgkmmkehnggaaGreatDoor
