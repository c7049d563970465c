/- aEp aEr aEc aKa aLa aLn aM aT aLz aLg aKh aMa aMb aMc aFa aGa. -/
import Derived.Lib.Hide
import Derived.WalkSpells
import Derived.WalkLawsBesides
import Derived.Handy
import Derived.Deep.RegionHeld3
import Derived.Deep.DeepCutAuto
import Derived.BigQuiet
import Derived.Laws.AppendOwnNone
import Derived.Test.YtjkgkmmkehnggaaGreatDoorRows
import Derived.Lib.AppendZeros
namespace Go.Proofs.YtjkgkmmkehnggaaGreatDoor
set_option linter.unusedVariables false
set_option linter.unusedSimpArgs false
section
variable {α:Type} [DecidableEq α]
def ded:List α→List α
 | []=>[]
 | p :: r=>if p ∈ r then ded r else p :: ded r
theorem mem_ded (x:α) (l:List α):x ∈ ded l↔x ∈ l:=by
 induction l with
 | nil=>exact Iff.rfl
 | cons p r ih =>
  unfold ded
  split
  ·rename_i hp
   rw[ih,List.mem_cons]
   exact⟨.inr,fun h=>h.elim (fun h=>h ▸ hp) id⟩
  ·rw[List.mem_cons,List.mem_cons,ih]
theorem nodup_ded (l:List α):(ded l).Nodup:=by
 induction l with
 | nil=>exact List.nodup_nil
 | cons p r ih =>
  unfold ded
  split
  ·exact ih
  ·rename_i hp
   exact List.nodup_cons.2 ⟨fun h=>hp ((mem_ded p r).1 h),ih⟩
theorem nodup_len {a b:List α} (ha:a.Nodup) (hs:∀ x ∈ a,x ∈ b):a.length≤b.length:=by
 induction a generalizing b with
 | nil=>simp
 | cons p r ih =>
  obtain⟨h1,h2⟩:=List.nodup_cons.1 ha
  have hp:p ∈ b:=hs p (List.mem_cons_self ..)
  have:=ih (b:=b.erase p) h2 (fun x hx=>(List.mem_erase_of_ne (fun(e:x=p)=>h1 (e ▸ hx))).2 (hs x (List.mem_cons_of_mem _ hx)))
  rw[List.length_erase_of_mem hp] at this
  have h0:0<b.length:=List.length_pos_of_mem hp
  rw[List.length_cons]
  omega
def unl (l:List α):Nat:=(ded l).length
theorem unl_le {a b:List α} (h:∀ x ∈ a,x ∈ b):unl a≤unl b:=nodup_len (nodup_ded a) (fun x hx=>(mem_ded x b).2 (h x ((mem_ded x a).1 hx)))
theorem unl_eq {a b:List α} (h:∀ x,x ∈ a↔x ∈ b):unl a=unl b:=Nat.le_antisymm (unl_le fun x hx=>(h x).1 hx) (unl_le fun x hx=>(h x).2 hx)
theorem unl_nil:unl ([]:List α)=0:=rfl
theorem unl_cons (p:α) (r:List α):unl (p :: r)=if p ∈ r then unl r else unl r+1:=by
 unfold unl
 rw[ded]
 split <;> simp
theorem unl_snoc (l:List α) (p:α):unl (l++[p])=if p ∈ l then unl l else unl l+1:=by
 rw[← unl_cons]
 exact unl_eq (fun x=>by simp only[List.mem_append,List.mem_cons,List.not_mem_nil,or_false];exact or_comm)
theorem unl_nodup {l:List α} (h:l.Nodup):unl l=l.length:=by
 refine Nat.le_antisymm (nodup_len (nodup_ded l) fun x hx=>(mem_ded x l).1 hx) (nodup_len h fun x hx=>(mem_ded x l).2 hx)
theorem unl_append_le (a b:List α):unl (a++b)≤unl a+unl b:=by
 induction a with
 | nil=>simp[unl_nil]
 | cons p r ih =>
  rw[List.cons_append,unl_cons,unl_cons]
  by_cases h:p ∈ r
  ·rw[if_pos (List.mem_append_left _ h),if_pos h];exact ih
  ·rw[if_neg h]
   split <;> omega
theorem unl_parts (a b:List α):unl (a++b)≤unl a+unl b∧unl a≤unl (a++b)∧unl b≤unl (a++b)∧unl (a++b++a)=unl (a++b) :=
 ⟨unl_append_le a b,unl_le fun x hx=>List.mem_append_left _ hx,unl_le fun x hx=>List.mem_append_right _ hx,unl_eq fun x=>by
  simp only[List.mem_append]
  exact⟨fun h=>h.elim id .inl,.inl⟩⟩
theorem unl_len (l:List α):unl l≤l.length:=nodup_len (nodup_ded l) fun x hx=>(mem_ded x l).1 hx
end
structure En where
 id:Int
 off:Int
 ln:Int
 rn:Int
deriving DecidableEq
def zeroE:En:=⟨0,0,0,0⟩
def MayN (e:En):Prop:=(0≤e.id∧e.id≤18446744073709551615)∧(0≤e.off∧e.off≤18446744073709551615)∧(0≤e.ln∧e.ln≤4294967295)∧(0≤e.rn∧e.rn≤4294967295)
def cnN:Int:=6004799503160661
def wdN (e:En):Int:=if e.rn=0 then 1 else e.rn
def ckN (e:En):Int :=
 if e.ln=0 then 2 else
 if cnN≤e.id∨cnN<e.id+wdN e then 8 else
 if 1099511627776<e.off∨1099511627776<e.off+e.ln then 8 else 0
def laN (e:En):Int:=if ckN e=0 then e.id+wdN e - 1 else 0
theorem wd_pos (e:En) (h:0≤e.rn):1≤wdN e:=by unfold wdN;split <;> omega
theorem ck_ok (e:En) (h:ckN e=0):e.ln≠0∧e.id+wdN e≤6004799503160661∧e.id<6004799503160661∧e.off+e.ln≤1099511627776∧e.off≤1099511627776:=by
 unfold ckN cnN at h
 split at h
 ·omega
 split at h
 ·omega
 split at h
 ·omega
 omega
theorem la_ge (e:En) (hm:MayN e) (h:ckN e=0):e.id≤laN e∧laN e≤6004799503160660:=by
 have:=wd_pos e hm.2.2.2.1
 have:=ck_ok e h
 unfold laN
 rw[if_pos h]
 omega
def rowG:Int→List En→Int
 | _,[]=>0
 | p,e :: l=>if ckN e≠0 then ckN e else if e.id≤p then 10 else rowG (laN e) l
def rowN (l:List En):Int:=if 4096<l.length then 21 else rowG (-1) l
theorem rowG_append (p:Int) (a b:List En) (h:rowG p a=0):rowG p (a++b)=rowG (a.foldl (fun _ e=>laN e) p) b:=by
 induction a generalizing p with
 | nil=>rfl
 | cons e l ih =>
  rw[rowG] at h
  rw[List.cons_append,rowG]
  split at h
  ·contradiction
  ·rename_i hc
   rw[if_neg hc]
   split at h
   ·omega
   ·rename_i ho
    rw[if_neg ho]
    exact ih (laN e) h
theorem rowG_left (p:Int) (a b:List En) (h:rowG p (a++b)=0):rowG p a=0:=by
 induction a generalizing p with
 | nil=>rfl
 | cons e l ih =>
  rw[List.cons_append,rowG] at h
  rw[rowG]
  split at h
  ·contradiction
  ·rename_i hc
   rw[if_neg hc]
   split at h
   ·omega
   ·rename_i ho
    rw[if_neg ho]
    exact ih (laN e) h
theorem rowG_from (p q:Int) (l:List En) (h:rowG p l=0) (hq:q≤p):rowG q l=0:=by
 cases l with
 | nil=>rfl
 | cons e l =>
  rw[rowG] at h ⊢
  split at h
  ·contradiction
  ·rename_i hc
   rw[if_neg hc]
   split at h
   ·omega
   ·rename_i ho
    rw[if_neg (by omega)]
    exact h
theorem rowG_cons (p:Int) (e:En) (l:List En) (h:rowG p (e :: l)=0):ckN e=0∧p<e.id∧rowG (laN e) l=0:=by
 rw[rowG] at h
 split at h
 ·contradiction
 ·rename_i hc
  split at h
  ·omega
  ·rename_i ho
   exact⟨Classical.not_not.1 hc,by omega,h⟩
theorem rowG_above (p:Int) (l:List En) (hm:∀ e ∈ l,MayN e) (h:rowG p l=0) (e:En) (he:e ∈ l):p<e.id∧ckN e=0:=by
 induction l generalizing p with
 | nil=>simp at he
 | cons f l ih =>
  obtain⟨h1,h2,h3⟩:=rowG_cons p f l h
  rcases List.mem_cons.1 he with rfl|he
  ·exact⟨h2,h1⟩
  ·have:=ih (laN f) (fun x hx=>hm x (List.mem_cons_of_mem _ hx)) h3 he
   have hl:=la_ge f (hm f (List.mem_cons_self ..)) h1
   exact⟨by omega,this.2⟩
def cntN (l:List En):Int:=(l.map fun e=>if ckN e=0 then e.rn else 0).sum
theorem cntN_snoc (l:List En) (e:En):cntN (l++[e])=cntN l+(if ckN e=0 then e.rn else 0):=by simp[cntN]
def enN (l:List En):Int:=l.foldl (fun n e=>if ckN e=0 then max n (e.off+e.ln) else n) 0
def pairN (l:List En):List (Int × Int):=(l.filter fun e=>decide (ckN e=0) && decide (0<e.rn)).map fun e=>(e.off,e.ln)
def conN (l:List En):Nat:=unl (pairN l)
theorem mem_pairN (l:List En) (q:Int × Int):q ∈ pairN l↔∃ e ∈ l,ckN e=0∧0<e.rn∧e.off=q.1∧e.ln=q.2:=by
 simp only[pairN,List.mem_map,List.mem_filter,Bool.and_eq_true,decide_eq_true_eq]
 constructor
 ·rintro⟨e,⟨h1,h2,h3⟩,rfl⟩
  exact⟨e,h1,h2,h3,rfl,rfl⟩
 ·rintro⟨e,h1,h2,h3,h4,h5⟩
  exact⟨e,⟨h1,h2,h3⟩,Prod.ext h4 h5⟩
end Go.Proofs.YtjkgkmmkehnggaaGreatDoor
namespace Go.Proofs.YtjkgkmmkehnggaaGreatDoor
set_option linter.unusedVariables false
set_option linter.unusedSimpArgs false
open Go.RowKit
set_option maxRecDepth 20000
theorem ecell_lt {w:World} {a:Addr} {v:Value} (h:w.cell? a=some v):a.block<w.heap.size:=by
 rcases Nat.lt_or_ge a.block w.heap.size with h'|h'
 ·exact h'
 ·simp[World.cell?,Array.getElem?_eq_none h'] at h
theorem ecell_later {w w':World} {a:Addr} {v:Value} (hb:Below w.heap.size w w') (h:w.cell? a=some v):w'.cell? a=some v:=(hb.cell (p:=a) (ecell_lt h)).trans h
def cE (e:En):List Value:=[.int .u64 e.id,.int .u64 e.off,.int .u32 e.ln,.int .u32 e.rn]
def flat4:List En→List Value
 | []=>[]
 | t :: l=>.int .u64 t.id :: .int .u64 t.off :: .int .u32 t.ln :: .int .u32 t.rn :: flat4 l
theorem flat4_len (l:List En):(flat4 l).length=l.length*4:=by
 induction l with
 | nil=>rfl
 | cons t l ih=>simp only[flat4,List.length_cons,ih];omega
theorem flat4_append (l m:List En):flat4 (l++m)=flat4 l++flat4 m:=by
 induction l with
 | nil=>rfl
 | cons t l ih=>simp only[List.cons_append,flat4,ih]
theorem flat4_one1 (e:En):flat4 [e]=cE e:=rfl
theorem flat4_at (l:List En) (n:Nat) (t:En) (h:l[n]?=some t):(flat4 l)[n*4]?=some (.int .u64 t.id)∧(flat4 l)[n*4+1]?=some (.int .u64 t.off)∧(flat4 l)[n*4+2]?=some (.int .u32 t.ln)∧(flat4 l)[n*4+3]?=some (.int .u32 t.rn):=by
 induction l generalizing n with
 | nil=>simp at h
 | cons u l ih =>
  cases n with
  | zero=>simp only[List.getElem?_cons_zero,Option.some.injEq] at h;subst h;exact⟨rfl,rfl,rfl,rfl⟩
  | succ n =>
   have:=ih n (by simpa using h)
   rw[show (n+1)*4=n*4+1+1+1+1 from by omega]
   simpa[flat4] using this
theorem flat4_cells (l:List En):∀ u ∈ flat4 l,u.oneCell'=true:=by
 induction l with
 | nil=>intro u hu;simp[flat4] at hu
 | cons t l ih =>
  intro u hu
  simp only[flat4,List.mem_cons] at hu
  rcases hu with rfl|rfl|rfl|rfl|hu
  ·rfl
  ·rfl
  ·rfl
  ·rfl
  ·exact ih u hu
def EnsAt (w:World) (v:Value) (l:List En):Prop :=
 ∃ a cap,v=.slice a l.length cap∧l.length≤cap∧cap≤maxLen∧∀ (k:Nat) (t:En),l[k]?=some t→∃ g off,a=some ⟨g,off,none⟩∧g<w.heap.size∧w.cell? ⟨g,off+k*4,none⟩=some (.int .u64 t.id)∧w.cell? ⟨g,off+k*4+1,none⟩=some (.int .u64 t.off)∧w.cell? ⟨g,off+k*4+2,none⟩=some (.int .u32 t.ln)∧w.cell? ⟨g,off+k*4+3,none⟩=some (.int .u32 t.rn)
theorem EnsAt.below {w w':World} {v:Value} {l:List En} (h:EnsAt w v l) (hb:Below w.heap.size w w'):EnsAt w' v l:=by
 obtain⟨a,cap,hv,h1,h2,hc⟩:=h
 refine⟨a,cap,hv,h1,h2,fun k t ht=>?_⟩
 obtain⟨g,off,ha,hg,c0,c1,c2,c3⟩:=hc k t ht
 exact⟨g,off,ha,Nat.lt_of_lt_of_le hg hb.size,ecell_later hb c0,ecell_later hb c1,ecell_later hb c2,ecell_later hb c3⟩
theorem ens_nil (w:World):EnsAt w (.slice none 0 0) []:=⟨none,0,rfl,Nat.le_refl _,by unfold maxLen;omega,fun k t h=>by simp at h⟩
def OwnE (w:World) (B:Nat) (E:TypeId) (v:Value) (l:List En):Prop:=w.ownsRow B E 4 v l.length (flat4 l)
theorem ownE_nil (w:World) (B:Nat) (E:TypeId):OwnE w B E (.slice none 0 0) []:=World.ownsRow_nil _ _ _ _
theorem OwnE.lt {w:World} {B:Nat} {E:TypeId} {v:Value} {l:List En} (h:OwnE w B E v l):∀ k,v.ownBlock=some k→B≤k∧k<w.heap.size:=World.ownsRow.lt h
theorem OwnE.below {w w':World} {B:Nat} {E:TypeId} {v:Value} {l:List En} (h:OwnE w B E v l) (hb:Below w.heap.size w w'):OwnE w' B E v l:=by
 have hlt:=h.lt
 obtain⟨h1,h2⟩:=h
 refine⟨h1,?_⟩
 rcases h2 with h2|⟨g,cap,cur,hv,hg,hh,r⟩
 ·exact .inl h2
 ·refine .inr ⟨g,cap,cur,hv,hg,?_,r⟩
  rw[hb.block g (hlt g (by rw[hv];rfl)).2];exact hh
theorem OwnE.mono {w:World} {B B':Nat} {E:TypeId} {v:Value} {l:List En} (h:OwnE w B E v l) (hb:B'≤B):OwnE w B' E v l:=by
 obtain⟨h1,h2⟩:=h
 refine⟨h1,?_⟩
 rcases h2 with h2|⟨g,cap,cur,hv,hg,r⟩
 ·exact .inl h2
 ·exact .inr ⟨g,cap,cur,hv,Nat.le_trans hb hg,r⟩
theorem OwnE.form {w:World} {B:Nat} {E:TypeId} {v:Value} {l:List En} (h:OwnE w B E v l) :
  (v=.slice none 0 0∧l=[])∨∃ g cap,v=.slice (some ⟨g,0,none⟩) l.length cap∧B≤g∧g<w.heap.size∧l.length≤cap∧cap≤maxLen∧(∀ j,j<l.length*4→w.cell? ⟨g,j,none⟩=(flat4 l)[j]?)∧∀ j,w.frozen? ⟨g,j,none⟩=false:=by
 have hlt:=h.lt
 have h':=h
 obtain⟨h1,h2⟩:=h
 rcases h2 with ⟨rfl,hn⟩|⟨g,cap,cur,rfl,hg,hh,hle,hm,_⟩
 ·exact .inl ⟨rfl,List.eq_nil_of_length_eq_zero hn⟩
 ·exact .inr ⟨g,cap,rfl,hg,(hlt g rfl).2,hle,hm,fun j hj=>World.ownsRow.cellAt h' j hj,fun j=>World.ownsRow.frozenAt h' j⟩
theorem OwnE.ensAt {w:World} {B:Nat} {E:TypeId} {v:Value} {l:List En} (h:OwnE w B E v l):EnsAt w v l:=by
 rcases h.form with ⟨rfl,rfl⟩|⟨g,cap,rfl,hB,hg,hle,hm,hc,_⟩
 ·exact ens_nil w
 ·refine⟨_,cap,rfl,hle,hm,fun k t ht=>⟨g,0,rfl,hg,?_⟩⟩
  have hk:k<l.length:=(List.getElem?_eq_some_iff.1 ht).1
  obtain⟨f0,f1,f2,f3⟩:=flat4_at l k t ht
  exact⟨by rw[Nat.zero_add,hc _ (by omega)];exact f0,by rw[Nat.zero_add,hc _ (by omega)];exact f1,by rw[Nat.zero_add,hc _ (by omega)];exact f2,by rw[Nat.zero_add,hc _ (by omega)];exact f3⟩
theorem owne_conv {w:World} {B n:Nat} {E:TypeId} {v:Value} {xs:List Value} {l:List En} (h:w.ownsRow B E 4 v n xs) (hn:n=l.length) (hx:xs=flat4 l):OwnE w B E v l:=by
 subst hn;subst hx;exact h
def MaysN (l:List En):Prop:=∀ e ∈ l,MayN e
theorem cells4 {w w':World} {g o1 o2 o3 o4:Nat} {v1 v2 v3 v4:Value} (hb:Below w.heap.size w w') (h:w.cell? ⟨g,o1,none⟩=some v1∧w.cell? ⟨g,o2,none⟩=some v2∧w.cell? ⟨g,o3,none⟩=some v3∧w.cell? ⟨g,o4,none⟩=some v4):w'.cell? ⟨g,o1,none⟩=some v1∧w'.cell? ⟨g,o2,none⟩=some v2∧w'.cell? ⟨g,o3,none⟩=some v3∧w'.cell? ⟨g,o4,none⟩=some v4:=⟨ecell_later hb h.1,ecell_later hb h.2.1,ecell_later hb h.2.2.1,ecell_later hb h.2.2.2⟩
theorem keep1E {w w' w1:World} {g o1 o2 o3 o4:Nat} {v1 v2 v3 v4:Value} (hb:Below w'.heap.size w' w1) (h:(w'.cell? ⟨g,o1,none⟩=some v1∧w'.cell? ⟨g,o2,none⟩=some v2∧w'.cell? ⟨g,o3,none⟩=some v3∧w'.cell? ⟨g,o4,none⟩=some v4)∧Below w.heap.size w w'):(w1.cell? ⟨g,o1,none⟩=some v1∧w1.cell? ⟨g,o2,none⟩=some v2∧w1.cell? ⟨g,o3,none⟩=some v3∧w1.cell? ⟨g,o4,none⟩=some v4)∧Below w.heap.size w w1:=⟨cells4 hb h.1,h.2.trans (hb.mono h.2.size)⟩
theorem keep2E {w w' w1:World} {g o1 o2 o3 o4 g' p1 p2 p3 p4:Nat} {v1 v2 v3 v4 u1 u2 u3 u4:Value} (hb:Below w'.heap.size w' w1) (h:(w'.cell? ⟨g,o1,none⟩=some v1∧w'.cell? ⟨g,o2,none⟩=some v2∧w'.cell? ⟨g,o3,none⟩=some v3∧w'.cell? ⟨g,o4,none⟩=some v4)∧(w'.cell? ⟨g',p1,none⟩=some u1∧w'.cell? ⟨g',p2,none⟩=some u2∧w'.cell? ⟨g',p3,none⟩=some u3∧w'.cell? ⟨g',p4,none⟩=some u4)∧Below w.heap.size w w'):(w1.cell? ⟨g,o1,none⟩=some v1∧w1.cell? ⟨g,o2,none⟩=some v2∧w1.cell? ⟨g,o3,none⟩=some v3∧w1.cell? ⟨g,o4,none⟩=some v4)∧(w1.cell? ⟨g',p1,none⟩=some u1∧w1.cell? ⟨g',p2,none⟩=some u2∧w1.cell? ⟨g',p3,none⟩=some u3∧w1.cell? ⟨g',p4,none⟩=some u4)∧Below w.heap.size w w1:=⟨cells4 hb h.1,cells4 hb h.2.1,h.2.2.trans (hb.mono h.2.2.size)⟩
def prvN (l:List En) (i:Nat):Int:=if i=0 then -1 else laN (l.getD (i - 1) zeroE)
theorem take_one (l:List En) (i:Nat) (e:En) (h:l[i]?=some e):l.take (i+1)=l.take i++[e]:=by
 rw[List.take_add_one,h];rfl
theorem fold_prv (l:List En) (i:Nat) (hi:i≤l.length):(l.take i).foldl (fun _ e=>laN e) (-1)=prvN l i:=by
 cases i with
 | zero=>rfl
 | succ j =>
  have h:l[j]?=some (l.getD j zeroE):=by rw[List.getD_eq_getElem?_getD,List.getElem?_eq_getElem (by omega)];rfl
  rw[take_one l j _ h,List.foldl_append]
  unfold prvN
  rw[if_neg (by omega),Nat.add_sub_cancel]
  rfl
theorem rowG_at (l:List En) (i:Nat) (e:En) (h:l[i]?=some e) (h0:rowG (-1) (l.take i)=0):rowG (-1) l=(if ckN e≠0 then ckN e else if e.id≤prvN l i then 10 else rowG (laN e) (l.drop (i+1)))∧(ckN e=0→¬ e.id≤prvN l i→rowG (-1) (l.take (i+1))=0):=by
 have hi:i<l.length:=(List.getElem?_eq_some_iff.1 h).1
 have hd:l.drop i=e :: l.drop (i+1):=by
  rw[List.drop_eq_getElem_cons hi]
  rw[List.getElem?_eq_getElem hi] at h
  rw[Option.some.inj h]
 refine⟨?_,fun hc ho=>?_⟩
 ·conv=>lhs;rw[← List.take_append_drop i l]
  rw[rowG_append _ _ _ h0,fold_prv l i (by omega),hd,rowG]
 ·rw[take_one l i e h,rowG_append _ _ _ h0,fold_prv l i (by omega),rowG,if_neg (fun f=>f hc),if_neg ho]
  rfl
theorem ens_at {w:World} {v:Value} {l:List En} (h:EnsAt w v l) (i:Nat) (hi:i<l.length):∃ g off cap,v=.slice (some ⟨g,off,none⟩) l.length cap∧l.length≤cap∧g<w.heap.size∧∀ k e,l[k]?=some e→(w.cell? ⟨g,off+k*4,none⟩=some (.int .u64 e.id)∧w.cell? ⟨g,off+k*4+1,none⟩=some (.int .u64 e.off)∧w.cell? ⟨g,off+k*4+2,none⟩=some (.int .u32 e.ln)∧w.cell? ⟨g,off+k*4+3,none⟩=some (.int .u32 e.rn)):=by
 obtain⟨a,cap,hv,h1,h2,hc⟩:=h
 obtain⟨e,he⟩:∃ e,l[i]?=some e:=⟨_,List.getElem?_eq_getElem hi⟩
 obtain⟨g,off,rfl,hg,_⟩:=hc i e he
 refine⟨g,off,cap,hv,h1,hg,fun k f hf=>?_⟩
 obtain⟨g',off',ha,hg',r⟩:=hc k f hf
 obtain⟨rfl,rfl⟩:g=g'∧off=off':=by simpa using ha
 exact r
end Go.Proofs.YtjkgkmmkehnggaaGreatDoor
namespace Go.Proofs.YtjkgkmmkehnggaaGreatDoor
set_option linter.unusedVariables false
set_option linter.unusedSimpArgs false
def totF:List ByteArray→Nat
 | []=>0
 | t :: l=>t.size+totF l
def catF:List ByteArray→ByteArray
 | []=>ByteArray.empty
 | t :: l=>t++catF l
def findF (s:ByteArray):List ByteArray→Nat→Option Nat
 | [],_=>none
 | t :: l,n=>if t=s then some n else findF s l (n+t.size)
def offV (o:Option Nat):Nat:=o.getD 0
def lenV (o:Option Nat) (s:ByteArray):Nat:=if o.isSome then s.size else 0
def eV (l:List ByteArray) (s:ByteArray):Nat:=if s.size=0 then 2 else if 65536<s.size then 5 else if (findF s l 0).isSome then 0 else if 2048≤l.length then 7 else 0
def isNew (l:List ByteArray) (s:ByteArray):Bool:=decide (eV l s=0) && (findF s l 0).isNone
def newL (l:List ByteArray) (s:ByteArray):List ByteArray:=if isNew l s then l++[s] else l
def offA (l:List ByteArray) (s:ByteArray):Nat:=if isNew l s then totF l else if eV l s=0 then offV (findF s l 0) else 0
def lenA (l:List ByteArray) (s:ByteArray):Nat:=if eV l s=0 then s.size else 0
structure GoodP (l:List ByteArray):Prop where
 pos:∀ t ∈ l,0<t.size
 short:∀ t ∈ l,t.size≤65536
 once:l.Nodup
 few:l.length≤2048
theorem goodP_nil:GoodP []:=⟨by simp,by simp,by simp,by simp⟩
theorem totF_append (a b:List ByteArray):totF (a++b)=totF a+totF b:=by
 induction a with
 | nil=>simp[totF]
 | cons t l ih=>rw[List.cons_append,totF,totF,ih];omega
theorem totF_one (s:ByteArray):totF [s]=s.size:=by simp[totF]
theorem totF_take (l:List ByteArray) (k:Nat):totF (l.take k)≤totF l:=by
 have h:=totF_append (l.take k) (l.drop k)
 rw[List.take_append_drop] at h
 omega
theorem totF_bound (l:List ByteArray) (M:Nat) (h:∀ t ∈ l,t.size≤M):totF l≤l.length*M:=by
 induction l with
 | nil=>simp[totF]
 | cons t l ih =>
  have h1:=h t (by simp)
  have h2:=ih (fun x hx=>h x (by simp[hx]))
  rw[totF,List.length_cons,Nat.succ_mul]
  omega
theorem GoodP.tot {l:List ByteArray} (h:GoodP l):totF l≤134217728:=by
 have h1:=totF_bound l 65536 h.short
 have h2:=h.few
 omega
theorem mem_tot (l:List ByteArray) (t:ByteArray) (h:t ∈ l):t.size≤totF l:=by
 induction l with
 | nil=>simp at h
 | cons x l ih =>
  rw[totF]
  rcases List.mem_cons.1 h with rfl|h
  ·omega
  ·have:=ih h;omega
theorem catF_size (l:List ByteArray):(catF l).size=totF l:=by
 induction l with
 | nil=>simp[catF,totF]
 | cons t l ih=>rw[catF,totF,ByteArray.size_append,ih]
theorem drop_at {α:Type} (l:List α) (k:Nat) (t:α) (h:l[k]?=some t):l.drop k=t :: l.drop (k+1):=by
 obtain⟨hk,rfl⟩:=List.getElem?_eq_some_iff.1 h
 exact List.drop_eq_getElem_cons hk
theorem findF_mem (s:ByteArray) (l:List ByteArray):∀ n,(findF s l n).isSome=true↔s ∈ l:=by
 induction l with
 | nil=>simp[findF]
 | cons t l ih =>
  intro n
  rw[findF]
  by_cases h:t=s
  ·simp[h]
  ·rw[if_neg h,ih]
   simp[h,Ne.symm h]
theorem findF_none (s:ByteArray) (l:List ByteArray) (n:Nat):findF s l n=none↔s ∉ l:=by
 rw[← findF_mem s l n]
 cases findF s l n <;> simp
theorem findF_append (s:ByteArray) (a b:List ByteArray):∀ n,findF s (a++b) n=match findF s a n with|some k=>some k|none=>findF s b (n+totF a):=by
 induction a with
 | nil=>intro n;simp[findF,totF]
 | cons t l ih =>
  intro n
  rw[List.cons_append,findF,findF]
  by_cases h:t=s
  ·simp[h]
  ·rw[if_neg h,if_neg h,ih,totF]
   rw[Nat.add_assoc]
theorem findF_le (s:ByteArray) (l:List ByteArray):∀ n k,findF s l n=some k→n≤k∧k+s.size≤n+totF l:=by
 induction l with
 | nil=>intro n k h;simp[findF] at h
 | cons t l ih =>
  intro n k h
  rw[findF] at h
  rw[totF]
  by_cases e:t=s
  ·rw[if_pos e] at h;injection h with h;subst e;omega
  ·rw[if_neg e] at h;have:=ih _ _ h;omega
theorem eV_iff (l:List ByteArray) (s:ByteArray):eV l s=0↔0<s.size∧s.size≤65536∧(s ∈ l∨l.length<2048):=by
 unfold eV
 have:=findF_mem s l 0
 by_cases h1:s.size=0
 ·simp[h1]
 ·rw[if_neg h1]
  by_cases h2:65536<s.size
  ·rw[if_pos h2];simp;omega
  ·rw[if_neg h2]
   by_cases h3:(findF s l 0).isSome=true
   ·rw[if_pos h3];simp only[true_iff];exact⟨by omega,by omega,.inl (this.1 h3)⟩
   ·rw[if_neg h3]
    have h4:s ∉ l:=fun h=>h3 (this.2 h)
    by_cases h5:2048≤l.length
    ·rw[if_pos h5];simp[h4];omega
    ·rw[if_neg h5];simp;omega
theorem isNew_iff (l:List ByteArray) (s:ByteArray):isNew l s=true↔0<s.size∧s.size≤65536∧s ∉ l∧l.length<2048:=by
 unfold isNew
 rw[Bool.and_eq_true,decide_eq_true_eq,eV_iff,Option.isNone_iff_eq_none,findF_none]
 constructor
 ·rintro⟨⟨h1,h2,h3⟩,h4⟩;exact⟨h1,h2,h4,h3.resolve_left h4⟩
 ·rintro⟨h1,h2,h3,h4⟩;exact⟨⟨h1,h2,.inr h4⟩,h3⟩
theorem GoodP.add {l:List ByteArray} (h:GoodP l) (s:ByteArray):GoodP (newL l s):=by
 unfold newL
 split
 ·rename_i hn
  obtain⟨h1,h2,h3,h4⟩:=(isNew_iff l s).1 hn
  refine⟨?_,?_,?_,by simp;omega⟩
  ·intro t ht;rcases List.mem_append.1 ht with ht|ht
   ·exact h.pos t ht
   ·rw[List.mem_singleton.1 ht];exact h1
  ·intro t ht;rcases List.mem_append.1 ht with ht|ht
   ·exact h.short t ht
   ·rw[List.mem_singleton.1 ht];exact h2
  ·rw[List.nodup_append]
   refine⟨h.once,by simp,fun a ha b hb=>?_⟩
   rw[List.mem_singleton.1 hb]
   intro e
   exact h3 (e ▸ ha)
 ·exact h
theorem newL_len (l:List ByteArray) (s:ByteArray):l.length≤(newL l s).length∧(newL l s).length≤l.length+1:=by
 unfold newL;split <;> simp
abbrev It:=Nat × ByteArray
def getI (id:Nat):List It→Option ByteArray
 | []=>none
 | t :: l=>if t.1=id then some t.2 else getI id l
def delI (id:Nat) (l:List It):List It:=l.filter (fun t=>decide (t.1≠id))
def lowI (id:Nat) (l:List It):List It:=l.takeWhile (fun t=>decide (t.1<id))
def highI (id:Nat) (l:List It):List It:=l.dropWhile (fun t=>decide (t.1<id))
def putI (id:Nat) (s:ByteArray) (l:List It):List It:=lowI id (delI id l)++(id,s) :: highI id (delI id l)
def putE (l:List It) (id:Nat) (s:ByteArray):Nat:=if 6004799503160661≤id then 8 else if s.size=0 then 2 else if 65536<s.size then 5 else if (getI id l).isNone && decide (2048≤l.length) then 7 else 0
def putL (l:List It) (id:Nat) (s:ByteArray):List It:=if putE l id s=0 then putI id s l else l
def bytesI:List It→Nat
 | []=>0
 | t :: l=>t.2.size+bytesI l
def ofR:List It→List It→List It→List It × Nat
 | _,acc,[]=>(acc,0)
 | seen,acc,t :: r=>if (getI t.1 seen).isSome then ([],22) else if putE acc t.1 t.2≠0 then ([],putE acc t.1 t.2) else ofR (seen++[t]) (putI t.1 t.2 acc) r
def ofI (l:List It):List It × Nat:=ofR [] [] l
def Rise (l:List It):Prop:=l.Pairwise (fun a b=>a.1<b.1)
structure GoodC (l:List It):Prop where
 rise:Rise l
 low:∀ t ∈ l,t.1<6004799503160661
 pos:∀ t ∈ l,0<t.2.size
 short:∀ t ∈ l,t.2.size≤65536
 few:l.length≤2048
theorem goodC_nil:GoodC []:=⟨List.Pairwise.nil,by simp,by simp,by simp,by simp⟩
theorem idrop_at {α:Type} (l:List α) (k:Nat) (t:α) (h:l[k]?=some t):l.drop k=t :: l.drop (k+1):=by
 obtain⟨hk,rfl⟩:=List.getElem?_eq_some_iff.1 h
 exact List.drop_eq_getElem_cons hk
theorem itake_at {α:Type} (l:List α) (k:Nat) (t:α) (h:l[k]?=some t):l.take (k+1)=l.take k++[t]:=by
 rw[List.take_add_one,h];rfl
theorem getI_none (id:Nat) (l:List It):getI id l=none↔∀ t ∈ l,t.1≠id:=by
 induction l with
 | nil=>simp[getI]
 | cons t l ih =>
  rw[getI]
  by_cases h:t.1=id
  ·rw[if_pos h];simp[h]
  ·rw[if_neg h,ih];simp[h]
theorem delI_len (id:Nat) (l:List It):(delI id l).length≤l.length:=List.length_filter_le _ _
theorem low_high (id:Nat) (l:List It):lowI id l++highI id l=l:=List.takeWhile_append_dropWhile
end Go.Proofs.YtjkgkmmkehnggaaGreatDoor
namespace Go.Proofs.YtjkgkmmkehnggaaGreatDoor
set_option linter.unusedVariables false
set_option linter.unusedSimpArgs false
open Go.RowKit
set_option maxRecDepth 20000
def tab:List UInt8:=[0,1,2,2,3,3,3,3,4,4,4,4,4,4,4,4,5,5,5,5,5,5,5,5,5,5,5,5,5,5,5,5,6,6,6,6,6,6,6,6,6,6,6,6,6,6,6,6,6,6,6,6,6,6,6,6,6,6,6,6,6,6,6,6,7,7,7,7,7,7,7,7,7,7,7,7,7,7,7,7,7,7,7,7,7,7,7,7,7,7,7,7,7,7,7,7,7,7,7,7,7,7,7,7,7,7,7,7,7,7,7,7,7,7,7,7,7,7,7,7,7,7,7,7,7,7,7,7,8,8,8,8,8,8,8,8,8,8,8,8,8,8,8,8,8,8,8,8,8,8,8,8,8,8,8,8,8,8,8,8,8,8,8,8,8,8,8,8,8,8,8,8,8,8,8,8,8,8,8,8,8,8,8,8,8,8,8,8,8,8,8,8,8,8,8,8,8,8,8,8,8,8,8,8,8,8,8,8,8,8,8,8,8,8,8,8,8,8,8,8,8,8,8,8,8,8,8,8,8,8,8,8,8,8,8,8,8,8,8,8,8,8,8,8,8,8,8,8,8,8,8,8,8,8,8,8]
def lenB (N b:Nat):Bool:=(N == 0 && b == 0) || (decide (1≤N) && decide (N≤64) && decide (2 ^ (N - 1)≤b) && decide (b<2 ^ N))
def Len (N:Nat) (x:Int):Prop:=N≤64∧(N=0∧x=0∨1≤N∧((2 ^ (N - 1):Nat):Int)≤x∧x<((2 ^ N:Nat):Int))
theorem tab_all:(List.range 256).all (fun b=>decide ((tab.getD b 0).toNat≤8) && lenB (tab.getD b 0).toNat b)=true:=by kernel_rfl
theorem tab_len:tab.length=256:=by kernel_rfl
theorem tab_spec (b:Nat) (h:b<256):(tab.getD b 0).toNat≤8∧Len (tab.getD b 0).toNat (b:Int):=by
 have:=List.all_eq_true.1 tab_all b (by simpa using h)
 generalize (tab.getD b 0).toNat=L at *
 simp only[Bool.and_eq_true,decide_eq_true_eq,lenB,Bool.or_eq_true,beq_iff_eq] at this
 refine⟨this.1,by omega,?_⟩
 omega
theorem len_up (B L:Nat) (y x:Int) (hL:L≤8) (hB:B=0∨B=8∨B=16∨B=24∨B=32∨B=40∨B=48∨B=56) (h:Len L y) (hy:x / ((2 ^ B:Nat):Int)=y) (h1:B=0∨1≤y):Len (B+L) x:=by
 unfold Len at *
 refine⟨by omega,?_⟩
 rcases(by omega:L=0∨L=1∨L=2∨L=3∨L=4∨L=5∨L=6∨L=7∨L=8) with rfl|rfl|rfl|rfl|rfl|rfl|rfl|rfl|rfl <;>
 rcases hB with rfl|rfl|rfl|rfl|rfl|rfl|rfl|rfl <;> simp only[Nat.reducePow,Nat.reduceSub,Nat.reduceAdd,Nat.add_zero,Nat.zero_add,Int.cast_ofNat_Int] at*<;> first|omega|(simp at *;omega)
theorem tab_end (B:Nat) (y x:Int) (T:ByteArray) (hT:T.data.toList=tab) (hi:y.toNat<T.size) (hB:B=0∨B=8∨B=16∨B=24∨B=32∨B=40∨B=48∨B=56) (hy:x / ((2 ^ B:Nat):Int)=y) (y0:0≤y) (h1:B=0∨1≤y):∃ n:Nat,wrap64 ((B:Int)+wrap64 ((T[y.toNat].toNat:Nat):Int))=n∧Len n x:=by
 have hz:T.size=256:=by rw[← tab_len,← hT];simp
 have hs:=tab_spec y.toNat (by omega)
 have e:T[y.toNat]=tab.getD y.toNat 0:=by
  rw[← hT]
  simp[List.getD,ByteArray.getElem_eq_getElem_data]
  have:y.toNat<T.data.size:=hi
  rw[Array.getElem?_eq_getElem this];rfl
 rw[e]
 refine⟨B+(tab.getD y.toNat 0).toNat,?_,len_up B _ y x hs.1 hB (by have:=hs.2;rwa[Int.toNat_of_nonneg y0] at this) hy h1⟩
 unfold wrap64
 omega
theorem tab_fin (B:Nat) (y x:Int) (T:ByteArray) (hi:y.toNat<T.size) (hT:T.data.toList=tab) (hB:B=0∨B=8∨B=16∨B=24∨B=32∨B=40∨B=48∨B=56) (hy:x / ((2 ^ B:Nat):Int)=y) (y0:0≤y) (h1:B=0∨1≤y) (v:Int) (hv:v=wrap64 ((B:Int)+wrap64 ((T[y.toNat].toNat:Nat):Int))):∃ n:Nat,Ending.returned (.int .i64 v)=.returned (.int .i64 n)∧Len n x:=by
 obtain⟨n,a,b⟩:=tab_end B y x T hT hi hB hy y0 h1
 exact⟨n,by rw[hv,a],b⟩
set_option maxRecDepth 100000 in
theorem len64_any (x:Int) (w:World) (x0:0≤x) (x1:x≤18446744073709551615):Calls Tryz.prog 199 #[.int .u64 x] w fun e w'=>(∃ n:Nat,e=.returned (.int .i64 n)∧Len n x)∧w=w':=by
 by_cases h1:4294967296≤x
 ·go_enter Tryz.func199,Tryz.ntmps199
  go_wp2
  all_goals
   go_ret
   refine⟨?_,rfl⟩
   first
    | exact tab_fin 56 _ x _ _ (by kernel_rfl) (by decide) (by (simp only[Nat.reducePow,Int.cast_ofNat_Int]) <;> omega) (by omega) (by omega) _ rfl
    | exact tab_fin 48 _ x _ _ (by kernel_rfl) (by decide) (by (simp only[Nat.reducePow,Int.cast_ofNat_Int]) <;> omega) (by omega) (by omega) _ rfl
    | exact tab_fin 40 _ x _ _ (by kernel_rfl) (by decide) (by (simp only[Nat.reducePow,Int.cast_ofNat_Int]) <;> omega) (by omega) (by omega) _ rfl
    | exact tab_fin 32 _ x _ _ (by kernel_rfl) (by decide) (by (simp only[Nat.reducePow,Int.cast_ofNat_Int]) <;> omega) (by omega) (by omega) _ rfl
    | exact tab_fin 24 _ x _ _ (by kernel_rfl) (by decide) (by (simp only[Nat.reducePow,Int.cast_ofNat_Int]) <;> omega) (by omega) (by omega) _ rfl
    | exact tab_fin 16 _ x _ _ (by kernel_rfl) (by decide) (by (simp only[Nat.reducePow,Int.cast_ofNat_Int]) <;> omega) (by omega) (by omega) _ rfl
    | exact tab_fin 8 _ x _ _ (by kernel_rfl) (by decide) (by (simp only[Nat.reducePow,Int.cast_ofNat_Int]) <;> omega) (by omega) (by omega) _ rfl
    | exact tab_fin 0 _ x _ _ (by kernel_rfl) (by decide) (by (simp only[Nat.reducePow,Int.cast_ofNat_Int]) <;> omega) (by omega) (by omega) _ (congrArg wrap64 (Int.zero_add _).symm)
 ·go_enter Tryz.func199,Tryz.ntmps199
  go_wp2
  all_goals
   go_ret
   refine⟨?_,rfl⟩
   first
    | exact tab_fin 56 _ x _ _ (by kernel_rfl) (by decide) (by (simp only[Nat.reducePow,Int.cast_ofNat_Int]) <;> omega) (by omega) (by omega) _ rfl
    | exact tab_fin 48 _ x _ _ (by kernel_rfl) (by decide) (by (simp only[Nat.reducePow,Int.cast_ofNat_Int]) <;> omega) (by omega) (by omega) _ rfl
    | exact tab_fin 40 _ x _ _ (by kernel_rfl) (by decide) (by (simp only[Nat.reducePow,Int.cast_ofNat_Int]) <;> omega) (by omega) (by omega) _ rfl
    | exact tab_fin 32 _ x _ _ (by kernel_rfl) (by decide) (by (simp only[Nat.reducePow,Int.cast_ofNat_Int]) <;> omega) (by omega) (by omega) _ rfl
    | exact tab_fin 24 _ x _ _ (by kernel_rfl) (by decide) (by (simp only[Nat.reducePow,Int.cast_ofNat_Int]) <;> omega) (by omega) (by omega) _ rfl
    | exact tab_fin 16 _ x _ _ (by kernel_rfl) (by decide) (by (simp only[Nat.reducePow,Int.cast_ofNat_Int]) <;> omega) (by omega) (by omega) _ rfl
    | exact tab_fin 8 _ x _ _ (by kernel_rfl) (by decide) (by (simp only[Nat.reducePow,Int.cast_ofNat_Int]) <;> omega) (by omega) (by omega) _ rfl
    | exact tab_fin 0 _ x _ _ (by kernel_rfl) (by decide) (by (simp only[Nat.reducePow,Int.cast_ofNat_Int]) <;> omega) (by omega) (by omega) _ (congrArg wrap64 (Int.zero_add _).symm)
end Go.Proofs.YtjkgkmmkehnggaaGreatDoor
namespace Go.Proofs.YtjkgkmmkehnggaaGreatDoor
set_option linter.unusedVariables false
set_option linter.unusedSimpArgs false
def p2:Nat→Int
 | 0=>1
 | k+1=>2*p2 k
def p4:Nat→Int
 | 0=>1
 | k+1=>4*p4 k
theorem p4_pos (k:Nat):1≤p4 k:=by
 induction k with
 | zero=>simp[p4]
 | succ k ih=>simp only[p4];omega
def hpl:Nat→Int→Int→Int
 | 0,_,_=>0
 | k+1,x,y=>if x<p2 k then (if y<p2 k then hpl k y x else p4 k+hpl k x (y - p2 k)) else if p2 k≤y then 2*p4 k+hpl k (x - p2 k) (y - p2 k) else 3*p4 k+hpl k (p2 k - 1 - y) (p2 k - 1 - (x - p2 k))
def bas:Nat→Int
 | 0=>0
 | k+1=>bas k+p4 k
theorem bas_three (k:Nat):3*bas k+1=p4 k:=by
 induction k with
 | zero=>rfl
 | succ k ih=>simp only[bas,p4];omega
theorem bas_mono (a b:Nat) (h:a≤b):bas a≤bas b:=by
 induction h with
 | refl=>exact Int.le_refl _
 | step h ih=>rename_i m;simp only[bas];have:=p4_pos m;omega
theorem bas_nn (k:Nat):0≤bas k:=bas_mono 0 k (Nat.zero_le _)
theorem bas_all:bas 27=6004799503160661:=by decide
def zof:Nat→Int→Int
 | 0,_=>-1
 | k+1,d=>if bas k≤d∧d<bas (k+1) then k else zof k d
theorem zof_at (n k:Nat) (d:Int) (h:k<n) (h0:bas k≤d) (h1:d<bas (k+1)):zof n d=k:=by
 induction n with
 | zero=>omega
 | succ n ih =>
  rw[zof]
  by_cases e:k=n
  ·subst e;rw[if_pos ⟨h0,h1⟩]
  ·rw[if_neg,ih (by omega)]
   intro hh
   have:=bas_mono (k+1) n (by omega)
   omega
theorem zof_no (n:Nat) (d:Int) (h:¬ (0≤d∧d<bas n)):zof n d=-1:=by
 induction n with
 | zero=>rfl
 | succ n ih =>
  have:=p4_pos n
  have:=bas_nn n
  rw[zof,if_neg,ih]
  ·simp only[bas] at h;omega
  ·simp only[bas] at h ⊢;omega
theorem zof_ex (n:Nat) (d:Int) (h0:0≤d) (h1:d<bas n):∃ k,k<n∧bas k≤d∧d<bas (k+1)∧zof n d=k:=by
 induction n with
 | zero=>simp only[bas] at h1;omega
 | succ n ih =>
  by_cases h:d<bas n
  ·obtain⟨k,a,b,c,e⟩:=ih h
   exact⟨k,by omega,b,c,zof_at (n+1) k d (by omega) b c⟩
  ·exact⟨n,by omega,by omega,h1,zof_at (n+1) n d (by omega) (by omega) h1⟩
end Go.Proofs.YtjkgkmmkehnggaaGreatDoor
namespace Go.Proofs.YtjkgkmmkehnggaaGreatDoor
set_option linter.unusedVariables false
set_option linter.unusedSimpArgs false
open Go.RowKit
set_option maxRecDepth 20000
theorem bas_succ (k:Nat):bas (k+1)=bas k+p4 k:=rfl
def zofV (d:Int):Int:=zof 27 d
theorem zof_yes (d:Int) (h0:0≤d) (h1:d<6004799503160661):∃ k:Nat,k≤26∧bas k≤d∧d<bas k+p4 k∧zofV d=k:=by
 obtain⟨k,a,b,c,e⟩:=zof_ex 27 d h0 (by rw[bas_all];exact h1)
 exact⟨k,by omega,b,by rw[← bas_succ];exact c,e⟩
theorem zofV_no (d:Int) (h:¬ d<6004799503160661):zofV d=-1:=zof_no 27 d (by rw[bas_all];omega)
theorem two4 (k:Nat):((2 ^ (2*k):Nat):Int)=p4 k:=by
 induction k with
 | zero=>rfl
 | succ k ih=>rw[show 2*(k+1)=2*k+2 from by omega,Nat.pow_add,p4,← ih];omega
theorem len_zoom (X:Int) (n k:Nat) (h:Len n X) (h0:p4 k≤X) (h1:X<4*p4 k):n=2*k+1∨n=2*k+2:=by
 obtain⟨h64,h⟩:=h
 have hp:=p4_pos k
 have e:=two4 k
 have e2:=two4 (k+1)
 rw[p4] at e2
 rcases h with ⟨rfl,h⟩|⟨hn,ha,hb⟩
 ·omega
 have g1:2*k<n:=by
  rcases Nat.lt_or_ge (2*k) n with hc|hc
  ·exact hc
  ·have:=Nat.pow_le_pow_right (by omega:0<2) hc
   omega
 have g2:n - 1<2*(k+1):=by
  rcases Nat.lt_or_ge (n - 1) (2*(k+1)) with hc|hc
  ·exact hc
  ·have:=Nat.pow_le_pow_right (by omega:0<2) hc
   omega
 omega
theorem zoom_any (d:Int) (d0:0≤d) (w:World):Calls Tryz.prog 159 #[.int .u64 d] w fun e w'=>e=.returned (.int .i64 (zofV d))∧w=w':=by
 by_cases h:d<6004799503160661
 ·obtain⟨k,hk,a,b,e⟩:=zof_yes d d0 h
  rw[e]
  have h3:=bas_three k
  have hl:=fun n hn=>len_zoom (3*d+1) n k hn (by omega) (by omega)
  have HL:=Lib.hid hl
  clear hl h3 a b e
  go_enter Tryz.func159,Tryz.ntmps159
  go_wp2_with fail
  refine(len64_any _ _ (by omega) (by omega)).mono ?_
  rintro e w' ⟨⟨n,rfl,hn⟩,rfl⟩
  have hs:=HL.out n hn
  clear hn HL
  go_wp2
  go_ret
  refine⟨?_,rfl⟩
  have:n=2*k+1∨n=2*k+2:=hs
  rcases this with rfl|rfl
  ·show Ending.returned (.int .i64 _)=.returned (.int .i64 _)
   congr 2
   omega
  ·show Ending.returned (.int .i64 _)=.returned (.int .i64 _)
   congr 2
   omega
 ·rw[zofV_no d h]
  go_enter Tryz.func159,Tryz.ntmps159
  go_wp2_with fail
  go_ret
  exact⟨rfl,rfl⟩
def zlo:List It→Int
 | []=>0
 | t :: _=>zofV (t.1:Int)
def zhi (l:List It):Int:=match l.getLast? with|none=>0|some t=>zofV (t.1:Int)
end Go.Proofs.YtjkgkmmkehnggaaGreatDoor
namespace Go.Proofs.YtjkgkmmkehnggaaGreatDoor
set_option linter.unusedVariables false
set_option linter.unusedSimpArgs false
theorem cat_found (l:List ByteArray) (s:ByteArray):∀ n k,findF s l n=some k→(catF l).extract (k - n) (k - n+s.size)=s:=by
 induction l with
 | nil=>intro n k h;simp[findF] at h
 | cons t l ih =>
  intro n k h
  rw[findF] at h
  rw[catF]
  by_cases e:t=s
  ·rw[if_pos e] at h;injection h with h;subst e;subst h
   rw[Nat.sub_self,Nat.zero_add]
   apply ByteArray.ext
   simp
  ·rw[if_neg e] at h
   have hle:=(findF_le s l _ _ h).1
   have h2:=ih _ _ h
   rw[show k - n=t.size+(k - (n+t.size)) by omega]
   conv=>rhs;rw[← h2]
   apply ByteArray.ext
   simp[Nat.add_assoc]
end Go.Proofs.YtjkgkmmkehnggaaGreatDoor
namespace Go.Proofs.YtjkgkmmkehnggaaGreatDoor
set_option linter.unusedVariables false
set_option linter.unusedSimpArgs false
set_option maxRecDepth 20000
theorem snoc_ind {α:Type} {M:List α→Prop} (h0:M []) (hs:∀ l a,M l→M (l++[a])) (l:List α):M l:=by
 rw[← List.reverse_reverse l]
 induction l.reverse with
 | nil=>exact h0
 | cons a r ih=>rw[List.reverse_cons];exact hs _ _ ih
def oneE (a b:En):Bool:=decide (b.id=laN a+1∧a.off=b.off∧a.ln=b.ln)
def addE (rows:List En) (e:En):List En:=match rows.getLast? with
 | some a=>if oneE a e then rows.dropLast++[{ a with rn:=a.rn+1 }] else rows++[e]
 | none=>rows++[e]
theorem addE_nil (e:En):addE [] e=[e]:=rfl
theorem addE_concat (r:List En) (a e:En):addE (r++[a]) e=if oneE a e then r++[{ a with rn:=a.rn+1 }] else r++[a]++[e]:=by
 unfold addE
 rw[List.getLast?_concat]
 simp only[List.dropLast_concat]
def newE (ts:List ByteArray) (t:It):En:=⟨t.1,offA ts t.2,lenA ts t.2,1⟩
def stepR (p:List En × List ByteArray) (t:It):List En × List ByteArray:=(addE p.1 (newE p.2 t),newL p.2 t.2)
def rowsS (L:List It):List En × List ByteArray:=L.foldl stepR ([],[])
theorem rowsS_snoc (L:List It) (t:It):rowsS (L++[t])=stepR (rowsS L) t:=by unfold rowsS;rw[List.foldl_append];rfl
theorem rowsS_step (L:List It) (k:Nat) (t:It) (h:L[k]?=some t):rowsS (L.take (k+1))=stepR (rowsS (L.take k)) t:=by rw[itake_at L k t h,rowsS_snoc]
def txN (e:En) (d:ByteArray):ByteArray:=d.extract e.off.toNat (e.off.toNat+e.ln.toNat)
def runN (e:En) (d:ByteArray):List It:=(List.range e.rn.toNat).map (fun k=>(e.id.toNat+k,txN e d))
def expN (l:List En) (d:ByteArray):List It:=l.flatMap (fun e=>runN e d)
theorem expN_append (a b:List En) (d:ByteArray):expN (a++b) d=expN a d++expN b d:=by simp[expN]
theorem expN_one (e:En) (d:ByteArray):expN [e] d=runN e d:=by simp[expN]
theorem runN_len (e:En) (d:ByteArray):(runN e d).length=e.rn.toNat:=by simp[runN]
def NoOne (l:List En):Prop:=∀ i a b,l[i]?=some a→l[i+1]?=some b→oneE a b=false
theorem noOne_nil:NoOne []:=fun i a b h=>by simp at h
theorem noOne_snoc {l:List En} {e:En} (h:NoOne l) (hl:∀ r a,l=r++[a]→oneE a e=false):NoOne (l++[e]):=by
 intro i a b ha hb
 have hi:i+1<(l++[e]).length:=(List.getElem?_eq_some_iff.1 hb).1
 rw[List.length_append,List.length_singleton] at hi
 rw[List.getElem?_append_left (by omega)] at ha
 rcases Nat.lt_or_ge (i+1) l.length with h1|h1
 ·rw[List.getElem?_append_left h1] at hb
  exact h i a b ha hb
 ·have hb':b=e:=by
   rw[List.getElem?_append_right h1,show i+1 - l.length=0 by omega] at hb
   simpa using hb.symm
  subst hb'
  rcases List.eq_nil_or_concat l with rfl|⟨r,x,rfl⟩
  ·simp at ha
  ·rw[List.concat_eq_append] at *
   refine hl r a ?_
   have:i=r.length:=by simp at hi h1;omega
   subst this
   simp at ha
   rw[ha]
theorem noOne_left {l:List En} {e:En} (h:NoOne (l++[e])):NoOne l:=by
 intro i a b ha hb
 have h1:=(List.getElem?_eq_some_iff.1 ha).1
 have h2:=(List.getElem?_eq_some_iff.1 hb).1
 exact h i a b (by rw[List.getElem?_append_left h1];exact ha) (by rw[List.getElem?_append_left h2];exact hb)
theorem noOne_last {r:List En} {a b:En} (h:NoOne (r++[a])) (hb:b.id=a.id∧b.off=a.off∧b.ln=a.ln):NoOne (r++[b]):=by
 refine noOne_snoc (noOne_left h) (fun r' x hx=>?_)
 have h1:=h r'.length x a (by rw[hx];simp) (by rw[hx];simp)
 unfold oneE at h1 ⊢
 rw[hb.1,hb.2.1,hb.2.2]
 exact h1
structure OkE (e:En) (ts:List ByteArray):Prop where
 may:MayN e
 ck:ckN e=0
 run:1≤e.rn
 txt:∃ s,findF s ts 0=some e.off.toNat∧e.ln=(s.size:Int)
theorem ok_text {e:En} {ts:List ByteArray} {s:ByteArray} (h:findF s ts 0=some e.off.toNat) (hl:e.ln=(s.size:Int)):txN e (catF ts)=s:=by
 have h1:=cat_found ts s 0 _ h
 unfold txN
 rw[hl,Int.toNat_natCast]
 exact h1
theorem find_grow (ts:List ByteArray) (s t:ByteArray) (k:Nat) (h:findF s ts 0=some k):findF s (newL ts t) 0=some k:=by
 unfold newL
 split
 ·rw[findF_append,h]
 ·exact h
theorem OkE.grow {e:En} {ts:List ByteArray} (h:OkE e ts) (t:ByteArray):OkE e (newL ts t)∧txN e (catF (newL ts t))=txN e (catF ts):=by
 obtain⟨s,h1,h2⟩:=h.txt
 have h3:=find_grow ts s t _ h1
 exact⟨⟨h.may,h.ck,h.run,s,h3,h2⟩,by rw[ok_text h3 h2,ok_text h1 h2]⟩
theorem run_grow {e:En} {ts:List ByteArray} (h:OkE e ts) (t:ByteArray):runN e (catF (newL ts t))=runN e (catF ts):=by
 unfold runN
 rw[(h.grow t).2]
theorem exp_grow {l:List En} {ts:List ByteArray} (h:∀ e ∈ l,OkE e ts) (t:ByteArray):expN l (catF (newL ts t))=expN l (catF ts):=by
 unfold expN
 induction l with
 | nil=>rfl
 | cons e l ih=>rw[List.flatMap_cons,List.flatMap_cons,run_grow (h e (by simp)) t,ih (fun x hx=>h x (by simp[hx]))]
theorem new_place {ts:List ByteArray} {s:ByteArray} (h0:0<s.size) (h1:s.size≤65536) (hl:ts.length<2048):lenA ts s=s.size∧findF s (newL ts s) 0=some (offA ts s):=by
 have he:eV ts s=0:=(eV_iff ts s).2 ⟨h0,h1,.inr hl⟩
 refine⟨by unfold lenA;rw[if_pos he],?_⟩
 by_cases hm:s ∈ ts
 ·have hn:isNew ts s=false:=by
   cases hh:isNew ts s with
   | false=>rfl
   | true=>exact absurd hm ((isNew_iff ts s).1 hh).2.2.1
  unfold newL offA
  rw[hn,if_neg (by simp),if_neg (by simp),if_pos he]
  obtain⟨k,hk⟩:=Option.isSome_iff_exists.1 ((findF_mem s ts 0).2 hm)
  rw[hk]
  rfl
 ·have hn:isNew ts s=true:=(isNew_iff ts s).2 ⟨h0,h1,hm,hl⟩
  unfold newL offA
  rw[hn,if_pos rfl,if_pos rfl,findF_append,(findF_none s ts 0).2 hm]
  simp[findF]
theorem mem_newL (ts:List ByteArray) (s x:ByteArray) (h0:0<s.size) (h1:s.size≤65536) (hl:ts.length<2048):x ∈ newL ts s↔x ∈ ts∨x=s:=by
 unfold newL
 split
 ·simp
 ·rename_i hn
  constructor
  ·exact .inl
  ·rintro(h|rfl)
   ·exact h
   ·have:x ∈ ts:=Classical.byContradiction fun hm=>hn ((isNew_iff ts x).2 ⟨h0,h1,hm,hl⟩)
    exact this
structure RInv (P:List It) (rows:List En) (ts:List ByteArray):Prop where
 good:GoodP ts
 len:ts.length≤P.length
 mem:∀ s,s ∈ ts↔∃ t ∈ P,t.2=s
 ok:∀ e ∈ rows,OkE e ts
 row:rowG (-1) rows=0
 exp:expN rows (catF ts)=P
 one:NoOne rows
 few:rows.length≤P.length
 last:∀ r a,rows=r++[a]→∃ P' t,P=P'++[t]∧laN a=(t.1:Int)
theorem rinv_nil:RInv [] [] []:=⟨goodP_nil,Nat.le_refl _,by simp,by simp,rfl,rfl,noOne_nil,Nat.le_refl _,fun r a h=>by simp at h⟩
theorem la_ok {e:En} (h:ckN e=0) (hr:1≤e.rn):laN e=e.id+e.rn - 1:=by
 unfold laN wdN
 rw[if_pos h,if_neg (by omega)]
theorem rowG_snoc (r:List En) (e:En) (p:Int) (h:rowG p r=0) (hck:ckN e=0) (hp:(r.foldl (fun _ e=>laN e) p)<e.id):rowG p (r++[e])=0:=by
 rw[rowG_append p r [e] h,rowG,if_neg (by simpa using hck),if_neg (by omega)]
 rfl
theorem rowG_snoc_inv (r:List En) (e:En) (p:Int) (h:rowG p (r++[e])=0):rowG p r=0∧ckN e=0∧(r.foldl (fun _ e=>laN e) p)<e.id:=by
 have h1:=rowG_left p r [e] h
 rw[rowG_append p r [e] h1] at h
 obtain⟨h2,h3,_⟩:=rowG_cons _ e [] h
 exact⟨h1,h2,h3⟩
theorem fold_snoc (r:List En) (a:En) (p:Int):(r++[a]).foldl (fun _ e=>laN e) p=laN a:=by simp
theorem rinv_step {P:List It} {rows:List En} {ts:List ByteArray} (h:RInv P rows ts) (t:It) (hr:∀ u ∈ P,u.1<t.1) (hlow:t.1<6004799503160661) (h0:0<t.2.size) (h1:t.2.size≤65536) (hf:P.length<2048) :
  RInv (P++[t]) (stepR (rows,ts) t).1 (stepR (rows,ts) t).2:=by
 have hl:ts.length<2048:=Nat.lt_of_le_of_lt h.len hf
 obtain⟨hlen,hfind⟩:=new_place h0 h1 hl
 have hgood:=h.good.add t.2
 have hnl:=newL_len ts t.2
 have hmem:∀ s,s ∈ newL ts t.2↔∃ u ∈ P++[t],u.2=s:=by
  intro s
  rw[mem_newL ts t.2 s h0 h1 hl,h.mem]
  constructor
  ·rintro(⟨u,hu,he⟩|rfl)
   ·exact⟨u,by simp[hu],he⟩
   ·exact⟨t,by simp,rfl⟩
  ·rintro⟨u,hu,he⟩
   rcases List.mem_append.1 hu with hu|hu
   ·exact .inl ⟨u,hu,he⟩
   ·rw[List.mem_singleton.1 hu] at he
    exact .inr he.symm
 have hexp:expN rows (catF (newL ts t.2))=P:=by rw[exp_grow h.ok,h.exp]
 have hok:∀ e ∈ rows,OkE e (newL ts t.2):=fun e he=>((h.ok e he).grow t.2).1
 have hle:=findF_le _ _ _ _ hfind
 have htot:=hgood.tot
 obtain⟨e1,he1⟩:∃ e1,newE ts t=e1:=⟨_,rfl⟩
 have d1:e1.id=(t.1:Int):=by rw[← he1];rfl
 have d2:e1.off=(offA ts t.2:Int):=by rw[← he1];rfl
 have d3:e1.ln=(t.2.size:Int):=by rw[← he1];show ((lenA ts t.2:Nat):Int)=_;rw[hlen]
 have d4:e1.rn=1:=by rw[← he1];rfl
 have dck:ckN e1=0:=by
  unfold ckN cnN wdN
  rw[if_neg (by omega),if_neg (by rw[if_neg (by omega)];omega),if_neg (by omega)]
 have dla:laN e1=(t.1:Int):=by rw[la_ok dck (by omega)];omega
 have dok:OkE e1 (newL ts t.2):=⟨by unfold MayN;omega,dck,by omega,t.2,by rw[hfind,d2,Int.toNat_natCast],d3⟩
 have dtx:txN e1 (catF (newL ts t.2))=t.2:=ok_text (by rw[hfind,d2,Int.toNat_natCast]) d3
 have drun:runN e1 (catF (newL ts t.2))=[t]:=by
  unfold runN
  rw[d4,dtx,d1]
  show (List.range 1).map _=_
  simp
 show RInv (P++[t]) (addE rows (newE ts t)) (newL ts t.2)
 rw[he1]
 rcases List.eq_nil_or_concat rows with rfl|⟨r,a,rfl⟩
 ·have hP:P=[]:=by rw[← h.exp];rfl
  subst hP
  rw[addE_nil]
  refine⟨hgood,by have h2:=h.len;simp only[List.length_nil,List.nil_append,List.length_singleton] at h2 ⊢;omega,hmem,by simpa using dok,?_,?_,?_,by simp,?_⟩
  ·exact rowG_snoc [] e1 (-1) rfl dck (by simp;omega)
  ·rw[expN_one,drun];rfl
  ·exact noOne_snoc noOne_nil (fun r a h=>by simp at h)
  ·intro r a h
   obtain⟨_,rfl⟩:=List.append_inj' (show []++[e1]=r++[a] by simpa using h) rfl |>.imp id (fun h=>by simpa using h)
   exact⟨[],t,rfl,dla⟩
 ·rw[List.concat_eq_append] at *
  obtain⟨P',t0,hP,hla⟩:=h.last r a rfl
  have ha:=h.ok a (by simp)
  obtain⟨hrow,hcka,hpa⟩:=rowG_snoc_inv r a (-1) h.row
  have hlt:t0.1<t.1:=hr t0 (by rw[hP];simp)
  have hlaa:=la_ok ha.ck ha.run
  have hrun:=ha.run
  have hmay:=ha.may
  have hrn:a.rn.toNat≤P.length:=by
   have:=congrArg List.length h.exp
   rw[expN_append,expN_one,List.length_append,runN_len] at this
   omega
  rw[addE_concat]
  by_cases hone:oneE a e1=true
  ·rw[if_pos hone]
   have hone':=of_decide_eq_true hone
   obtain⟨o1,o2,o3⟩:=hone'
   obtain⟨a2,ha2⟩:∃ a2:En,a2={ a with rn:=a.rn+1 }:=⟨_,rfl⟩
   have b1:a2.id=a.id:=by rw[ha2]
   have b2:a2.off=a.off:=by rw[ha2]
   have b3:a2.ln=a.ln:=by rw[ha2]
   have b4:a2.rn=a.rn+1:=by rw[ha2]
   rw[← ha2]
   clear ha2
   have hck:=ck_ok a ha.ck
   have hck2:ckN a2=0:=by
    unfold ckN cnN wdN
    rw[if_neg (by omega),if_neg (by rw[if_neg (by omega)];omega),if_neg (by omega)]
   have hla2:laN a2=(t.1:Int):=by rw[la_ok hck2 (by omega)];omega
   have haok:=hok a (by simp)
   have hok2:OkE a2 (newL ts t.2):=by
    obtain⟨s,f1,f2⟩:=haok.txt
    unfold MayN at hmay
    exact⟨by unfold MayN;omega,hck2,by omega,s,by rw[b2];exact f1,by rw[b3];exact f2⟩
   have htx2:txN a (catF (newL ts t.2))=t.2:=by
    have hx:txN a (catF (newL ts t.2))=txN e1 (catF (newL ts t.2)):=by unfold txN;rw[o2,o3]
    rw[hx]
    exact dtx
   have hrun2:runN a2 (catF (newL ts t.2))=runN a (catF (newL ts t.2))++[t]:=by
    have hx:txN a2 (catF (newL ts t.2))=t.2:=by
     have hy:txN a2 (catF (newL ts t.2))=txN a (catF (newL ts t.2)):=by unfold txN;rw[b2,b3]
     rw[hy]
     exact htx2
    unfold runN
    rw[hx,htx2,b4,b1,show (a.rn+1).toNat=a.rn.toNat+1 by omega,List.range_succ,List.map_append]
    congr 1
    simp only[List.map_cons,List.map_nil]
    congr 1
    refine Prod.ext ?_ rfl
    show a.id.toNat+a.rn.toNat=t.1
    unfold MayN at hmay
    omega
   refine⟨hgood,?_,hmem,?_,?_,?_,?_,?_,?_⟩
   ·rw[List.length_append,List.length_singleton];have:=h.len;omega
   ·intro e he
    rcases List.mem_append.1 he with he|he
    ·exact hok e (by simp[he])
    ·rw[List.mem_singleton.1 he];exact hok2
   ·exact rowG_snoc r a2 (-1) hrow hck2 (by rw[b1];exact hpa)
   ·rw[expN_append,expN_one] at hexp ⊢
    rw[hrun2,← List.append_assoc,hexp]
   ·exact noOne_last h.one ⟨b1,b2,b3⟩
   ·have:=h.few
    simp at this ⊢
    omega
   ·intro r' x hx
    obtain⟨_,hx2⟩:=List.append_inj' hx rfl
    simp at hx2
    subst hx2
    exact⟨P,t,rfl,hla2⟩
  ·have hone':oneE a e1=false:=by simpa using hone
   rw[if_neg hone]
   refine⟨hgood,?_,hmem,?_,?_,?_,?_,?_,?_⟩
   ·rw[List.length_append,List.length_singleton];have:=h.len;omega
   ·intro e he
    rcases List.mem_append.1 he with he|he
    ·exact hok e he
    ·rw[List.mem_singleton.1 he];exact dok
   ·exact rowG_snoc (r++[a]) e1 (-1) h.row dck (by rw[fold_snoc];omega)
   ·rw[expN_append,hexp,expN_one,drun]
   ·refine noOne_snoc h.one (fun r' x hx=>?_)
    obtain⟨_,hx2⟩:=List.append_inj' hx rfl
    simp at hx2
    subst hx2
    exact hone'
   ·have:=h.few
    simp at this ⊢
    omega
   ·intro r' x hx
    obtain⟨_,hx2⟩:=List.append_inj' hx rfl
    simp at hx2
    subst hx2
    exact⟨P,t,rfl,dla⟩
theorem rinv_take {L:List It} (hg:GoodC L):∀ k,k≤L.length→RInv (L.take k) (rowsS (L.take k)).1 (rowsS (L.take k)).2:=by
 intro k
 induction k with
 | zero=>intro _;exact rinv_nil
 | succ k ih =>
  intro hk
  obtain⟨t,ht⟩:∃ t,L[k]?=some t:=⟨_,List.getElem?_eq_getElem (by omega)⟩
  have hm:=List.mem_of_getElem? ht
  rw[rowsS_step L k t ht,itake_at L k t ht]
  refine rinv_step (ih (by omega)) t (fun u hu=>?_) (hg.low t hm) (hg.pos t hm) (hg.short t hm) (by rw[List.length_take];have:=hg.few;omega)
  obtain⟨j,hj⟩:=List.mem_iff_getElem?.1 hu
  rw[List.getElem?_take] at hj
  split at hj
  ·rename_i hjk
   obtain⟨h1,rfl⟩:=List.getElem?_eq_some_iff.1 hj
   obtain⟨h2,rfl⟩:=List.getElem?_eq_some_iff.1 ht
   exact List.pairwise_iff_getElem.1 hg.rise j k h1 h2 hjk
  ·cases hj
theorem rinv_all {L:List It} (hg:GoodC L):RInv L (rowsS L).1 (rowsS L).2:=by
 have h:=rinv_take hg L.length (Nat.le_refl _)
 rwa[List.take_length] at h
def backG:List En→ByteArray→List It→Int→List It × Int
 | [],_,out,_=>(out,0)
 | e :: l,d,out,m =>
  if e.rn=0 then ([],14) else if (d.size:Int)<e.off+e.ln then ([],8) else if 2048<m+e.rn then ([],21) else if 65536<e.ln then ([],5)
  else backG l d (out++runN e d) (m+e.rn)
def backN (l:List En) (d:ByteArray):List It × Int:=if rowN l≠0 then ([],rowN l) else backG l d [] 0
structure TellE (e:En) (d:ByteArray):Prop where
 run:e.rn≠0
 inn:e.off+e.ln≤(d.size:Int)
 short:e.ln≤65536
theorem backG_ok:∀ (l:List En) (d:ByteArray) (out:List It) (m:Int),(∀ e ∈ l,TellE e d)→(∀ e ∈ l,0≤e.rn)→m+((l.map (·.rn)).sum)≤2048→backG l d out m=(out++expN l d,0)
 | [],d,out,m,_,_,_=>by simp[backG,expN]
 | e :: l,d,out,m,h,hr,hs=>by
  have he:=h e (by simp)
  have hsum:0≤(l.map (·.rn)).sum:=by
   have key:∀ l:List En,(∀ e ∈ l,0≤e.rn)→0≤(l.map (·.rn)).sum:=by
    intro l
    induction l with
    | nil=>intro _;simp
    | cons x l ih=>intro hx;rw[List.map_cons,List.sum_cons];have:=ih (fun e he=>hx e (by simp[he]));have:=hx x (by simp);omega
   exact key l (fun x hx=>hr x (by simp[hx]))
  rw[List.map_cons,List.sum_cons] at hs
  rw[backG,if_neg he.run,if_neg (by have:=he.inn;omega),if_neg (by omega),if_neg (by have:=he.short;omega),backG_ok l d _ _ (fun x hx=>h x (by simp[hx])) (fun x hx=>hr x (by simp[hx])) (by omega)]
  rw[List.append_assoc]
  rfl
theorem exp_len (l:List En) (d:ByteArray) (h:∀ e ∈ l,0≤e.rn):((expN l d).length:Int)=(l.map (·.rn)).sum:=by
 induction l with
 | nil=>rfl
 | cons e l ih =>
  have h1:=ih (fun x hx=>h x (by simp[hx]))
  have h2:=h e (by simp)
  unfold expN at h1 ⊢
  rw[List.flatMap_cons,List.length_append,List.map_cons,List.sum_cons,runN_len]
  omega
theorem cnt_sum (l:List En) (h:∀ e ∈ l,ckN e=0):cntN l=(l.map (·.rn)).sum:=by
 unfold cntN
 congr 1
 refine List.map_congr_left (fun e he=>?_)
 rw[if_pos (h e he)]
theorem back_whole {L:List It} (hg:GoodC L):backN (rowsS L).1 (catF (rowsS L).2)=(L,0)∧rowN (rowsS L).1=0∧NoOne (rowsS L).1∧cntN (rowsS L).1=(L.length:Int)∧(rowsS L).1.length≤L.length∧(∀ e ∈ (rowsS L).1,OkE e (rowsS L).2)∧GoodP (rowsS L).2:=by
 have h:=rinv_all hg
 have hr:∀ e ∈ (rowsS L).1,0≤e.rn:=fun e he=>by have:=(h.ok e he).run;omega
 have hs:=exp_len (rowsS L).1 (catF (rowsS L).2) hr
 rw[h.exp] at hs
 have hf:=hg.few
 have hrow:rowN (rowsS L).1=0:=by
  unfold rowN
  rw[if_neg (by have:=h.few;omega)]
  exact h.row
 refine⟨?_,hrow,h.one,?_,h.few,h.ok,h.good⟩
 ·unfold backN
  rw[if_neg (by simp[hrow]),backG_ok _ _ _ _ (fun e he=>?_) hr (by omega),h.exp]
  ·rfl
  ·have ho:=h.ok e he
   obtain⟨s,f1,f2⟩:=ho.txt
   have h1:=findF_le _ _ _ _ f1
   have h2:=h.good.short s ((findF_mem s _ 0).1 (by rw[f1];rfl))
   have h3:=ho.may
   have h4:=ho.run
   unfold MayN at h3
   exact⟨by omega,by rw[catF_size];omega,by omega⟩
 ·rw[cnt_sum _ (fun e he=>(h.ok e he).ck),hs]
end Go.Proofs.YtjkgkmmkehnggaaGreatDoor
namespace Go.Proofs.YtjkgkmmkehnggaaGreatDoor
set_option linter.unusedVariables false
set_option linter.unusedSimpArgs false
def addF (s b:Nat):Nat:=(s ^^^ b)*1099511628211 % 18446744073709551616
def sumF (x:Nat) (l:List UInt8):Nat:=l.foldl (fun x c=>addF x c.toNat) x
def fSt:Nat:=14695981039346656037
def bktF (s:Nat) (n:Int):Int:=if n<1 then 0 else (s:Int) % n
theorem addF_lt (s b:Nat):addF s b<18446744073709551616:=Nat.mod_lt _ (by decide)
theorem sumF_cons (x:Nat) (l:List UInt8) (c:UInt8):sumF x (c :: l)=sumF (addF x c.toNat) l:=by
 unfold sumF;rw[List.foldl_cons]
theorem sumF_nil (x:Nat):sumF x []=x:=by
 unfold sumF;rw[List.foldl_nil]
theorem sumF_lt (l:List UInt8):∀ x,x<18446744073709551616→sumF x l<18446744073709551616:=by
 induction l with
 | nil=>intro x h;rw[sumF_nil];exact h
 | cons c l ih=>intro x _;rw[sumF_cons];exact ih _ (addF_lt _ _)
theorem sumF_snoc (x:Nat) (a:List UInt8) (c:UInt8):sumF x (a++[c])=addF (sumF x a) c.toNat:=by
 unfold sumF;rw[List.foldl_append,List.foldl_cons,List.foldl_nil]
theorem xor_lt (s b:Nat) (hs:s<18446744073709551616) (hb:b<18446744073709551616):s ^^^ b<18446744073709551616:=by
 have:=Nat.xor_lt_two_pow (n:=64) (x:=s) (y:=b) (by omega) (by omega)
 omega
abbrev Kt:=Nat × ByteArray
def plc:List ByteArray→Nat→List Kt
 | [],_=>[]
 | t :: l,n=>(n,t) :: plc l (n+t.size)
def bkt (s:ByteArray):Int:=bktF (sumF fSt s.data.toList) 2048
theorem bkt_range (s:ByteArray):0≤bkt s∧bkt s<2048:=by
 unfold bkt bktF
 rw[if_neg (by omega)]
 omega
def grp (k:Int) (l:List Kt):List Kt:=l.filter (fun t=>decide (bkt t.2=k))
theorem plc_len (l:List ByteArray):∀ n,(plc l n).length=l.length:=by
 induction l with
 | nil=>intro n;rfl
 | cons t l ih=>intro n;simp[plc,ih]
theorem plc_append (a b:List ByteArray):∀ n,plc (a++b) n=plc a n++plc b (n+totF a):=by
 induction a with
 | nil=>intro n;simp[plc,totF]
 | cons t l ih=>intro n;simp[plc,ih,totF,Nat.add_assoc]
theorem plc_snoc (l:List ByteArray) (s:ByteArray):plc (l++[s]) 0=plc l 0++[(totF l,s)]:=by
 rw[plc_append];simp[plc]
theorem plc_at (l:List ByteArray):∀ (n k:Nat) (t:ByteArray),l[k]?=some t→(plc l n)[k]?=some (n+totF (l.take k),t):=by
 induction l with
 | nil=>intro n k t h;simp at h
 | cons x l ih =>
  intro n k t h
  cases k with
  | zero=>simp at h;subst h;simp[plc,totF]
  | succ k=>rw[plc,List.getElem?_cons_succ,ih _ k t (by simpa using h)];simp[totF,Nat.add_assoc]
theorem grp_append (k:Int) (a b:List Kt):grp k (a++b)=grp k a++grp k b:=by simp[grp]
theorem grp_one (k:Int) (t:Kt):grp k [t]=if bkt t.2=k then [t] else []:=by
 unfold grp
 by_cases h:bkt t.2=k <;> simp[h]
theorem grp_len (k:Int) (l:List Kt):(grp k l).length≤l.length:=List.length_filter_le _ _
theorem find_grp (s:ByteArray) (l:List ByteArray):∀ n,((grp (bkt s) (plc l n)).find? (fun t=>decide (t.2=s))).map (·.1)=findF s l n:=by
 induction l with
 | nil=>intro n;rfl
 | cons t l ih =>
  intro n
  rw[plc,findF]
  by_cases h:t=s
  ·subst h
   rw[if_pos rfl]
   simp[grp]
  ·rw[if_neg h,← ih]
   unfold grp
   by_cases hb:bkt t=bkt s
   ·rw[List.filter_cons_of_pos (by simpa using hb),List.find?_cons_of_neg (by simpa using h)]
   ·rw[List.filter_cons_of_neg (by simpa using hb)]
theorem find_first (p:Kt→Bool) (l:List Kt) (i:Nat) (t:Kt) (hi:l[i]?=some t) (hp:p t=true) (hn:∀ x ∈ l.take i,p x=false):l.find? p=some t:=by
 have e:l=l.take i++t :: l.drop (i+1):=by rw[← drop_at l i t hi,List.take_append_drop]
 rw[e,List.find?_append]
 have h0:(l.take i).find? p=none:=by rw[List.find?_eq_none];intro x hx;rw[hn x hx];simp
 rw[h0]
 simp[hp]
theorem find_no (p:Kt→Bool) (l:List Kt) (hn:∀ x ∈ l,p x=false):l.find? p=none:=by
 rw[List.find?_eq_none];intro x hx;rw[hn x hx];simp
end Go.Proofs.YtjkgkmmkehnggaaGreatDoor
