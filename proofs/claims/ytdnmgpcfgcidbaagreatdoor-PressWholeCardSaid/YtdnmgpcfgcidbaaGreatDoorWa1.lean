/- aEp aEr aEc aKa aLa aEg aKb aKk aLb aLn aM aT aLz aLg aKh aMa. -/
import Derived.Lib.Hide
import Derived.WalkSpells
import Derived.WalkLawsBesides
import Derived.Handy
import Derived.Deep.RegionHeld3
import Derived.Deep.DeepCutAuto
import Derived.BigQuiet
import Derived.Laws.AppendOwnNone
import Derived.Test.YtdnmgpcfgcidbaaGreatDoorRows
import Derived.Lib.AppendZeros
namespace Go.Proofs.YtdnmgpcfgcidbaaGreatDoor
set_option linter.unusedVariables false
set_option linter.unusedSimpArgs false
section
variable {α:Type} [DecidableEq α]
def ded:List α→List α
 | []=>[]
 | p :: r=>if p ∈ r then ded r else p :: ded r
theorem mem_ded (x:α) (l:List α):x ∈ ded l↔x ∈ l:=by
 induction l with
 | nil=>exact Iff.rfl
 | cons p r ih =>
  unfold ded
  split
  ·rename_i hp
   rw [ih,List.mem_cons]
   exact ⟨.inr,fun h=>h.elim (fun h=>h ▸ hp) id⟩
  ·rw [List.mem_cons,List.mem_cons,ih]
theorem nodup_ded (l:List α):(ded l).Nodup:=by
 induction l with
 | nil=>exact List.nodup_nil
 | cons p r ih =>
  unfold ded
  split
  ·exact ih
  ·rename_i hp
   exact List.nodup_cons.2 ⟨fun h=>hp ((mem_ded p r).1 h),ih⟩
theorem nodup_len {a b:List α} (ha:a.Nodup) (hs:∀ x ∈ a,x ∈ b):a.length≤b.length:=by
 induction a generalizing b with
 | nil=>simp
 | cons p r ih =>
  obtain ⟨h1,h2⟩:=List.nodup_cons.1 ha
  have hp:p ∈ b:=hs p (List.mem_cons_self ..)
  have:=ih (b:=b.erase p) h2 (fun x hx=>(List.mem_erase_of_ne (fun (e:x=p)=>h1 (e ▸ hx))).2 (hs x (List.mem_cons_of_mem _ hx)))
  rw [List.length_erase_of_mem hp] at this
  have h0:0<b.length:=List.length_pos_of_mem hp
  rw [List.length_cons]
  omega
def unl (l:List α):Nat:=(ded l).length
theorem unl_le {a b:List α} (h:∀ x ∈ a,x ∈ b):unl a≤unl b:=nodup_len (nodup_ded a) (fun x hx=>(mem_ded x b).2 (h x ((mem_ded x a).1 hx)))
theorem unl_eq {a b:List α} (h:∀ x,x ∈ a↔x ∈ b):unl a=unl b:=Nat.le_antisymm (unl_le fun x hx=>(h x).1 hx) (unl_le fun x hx=>(h x).2 hx)
theorem unl_nil:unl ([]:List α)=0:=rfl
theorem unl_cons (p:α) (r:List α):unl (p :: r)=if p ∈ r then unl r else unl r+1:=by
 unfold unl
 rw [ded]
 split <;> simp
theorem unl_snoc (l:List α) (p:α):unl (l++[p])=if p ∈ l then unl l else unl l+1:=by
 rw [← unl_cons]
 exact unl_eq (fun x=>by simp only [List.mem_append,List.mem_cons,List.not_mem_nil,or_false];exact or_comm)
theorem unl_nodup {l:List α} (h:l.Nodup):unl l=l.length:=by
 refine Nat.le_antisymm (nodup_len (nodup_ded l) fun x hx=>(mem_ded x l).1 hx) (nodup_len h fun x hx=>(mem_ded x l).2 hx)
theorem unl_append_le (a b:List α):unl (a++b)≤unl a+unl b:=by
 induction a with
 | nil=>simp [unl_nil]
 | cons p r ih =>
  rw [List.cons_append,unl_cons,unl_cons]
  by_cases h:p ∈ r
  ·rw [if_pos (List.mem_append_left _ h),if_pos h];exact ih
  ·rw [if_neg h]
   split <;> omega
theorem unl_parts (a b:List α):unl (a++b)≤unl a+unl b∧unl a≤unl (a++b)∧unl b≤unl (a++b)∧unl (a++b++a)=unl (a++b) :=
 ⟨unl_append_le a b,unl_le fun x hx=>List.mem_append_left _ hx,unl_le fun x hx=>List.mem_append_right _ hx,unl_eq fun x=>by
  simp only [List.mem_append]
  exact ⟨fun h=>h.elim id .inl,.inl⟩⟩
theorem unl_len (l:List α):unl l≤l.length:=nodup_len (nodup_ded l) fun x hx=>(mem_ded x l).1 hx
end
structure En where
 id:Int
 off:Int
 ln:Int
 rn:Int
deriving DecidableEq
def zeroE:En:=⟨0,0,0,0⟩
theorem En.eq_iff (a b:En):a=b↔(a.id=b.id∧a.off=b.off∧a.ln=b.ln∧a.rn=b.rn):=by
 cases a;cases b;simp
def MayN (e:En):Prop:=(0≤e.id∧e.id≤18446744073709551615)∧(0≤e.off∧e.off≤18446744073709551615)∧(0≤e.ln∧e.ln≤4294967295)∧(0≤e.rn∧e.rn≤4294967295)
def cnN:Int:=6004799503160661
def wdN (e:En):Int:=if e.rn=0 then 1 else e.rn
def ckN (e:En):Int :=
 if e.ln=0 then 2 else
 if cnN≤e.id∨cnN<e.id+wdN e then 8 else
 if 1099511627776<e.off∨1099511627776<e.off+e.ln then 8 else 0
def laN (e:En):Int:=if ckN e=0 then e.id+wdN e-1 else 0
theorem wd_pos (e:En) (h:0≤e.rn):1≤wdN e:=by unfold wdN;split <;> omega
theorem ck_ok (e:En) (h:ckN e=0):e.ln≠0∧e.id+wdN e≤6004799503160661∧e.id<6004799503160661∧e.off+e.ln≤1099511627776∧e.off≤1099511627776:=by
 unfold ckN cnN at h
 split at h
 ·omega
 split at h
 ·omega
 split at h
 ·omega
 omega
theorem la_ge (e:En) (hm:MayN e) (h:ckN e=0):e.id≤laN e∧laN e≤6004799503160660:=by
 have:=wd_pos e hm.2.2.2.1
 have:=ck_ok e h
 unfold laN
 rw [if_pos h]
 omega
def rowG:Int→List En→Int
 | _,[]=>0
 | p,e :: l=>if ckN e≠0 then ckN e else if e.id≤p then 10 else rowG (laN e) l
def rowN (l:List En):Int:=if 4096<l.length then 21 else rowG (-1) l
theorem rowG_append (p:Int) (a b:List En) (h:rowG p a=0):rowG p (a++b)=rowG (a.foldl (fun _ e=>laN e) p) b:=by
 induction a generalizing p with
 | nil=>rfl
 | cons e l ih =>
  rw [rowG] at h
  rw [List.cons_append,rowG]
  split at h
  ·contradiction
  ·rename_i hc
   rw [if_neg hc]
   split at h
   ·omega
   ·rename_i ho
    rw [if_neg ho]
    exact ih (laN e) h
theorem rowG_left (p:Int) (a b:List En) (h:rowG p (a++b)=0):rowG p a=0:=by
 induction a generalizing p with
 | nil=>rfl
 | cons e l ih =>
  rw [List.cons_append,rowG] at h
  rw [rowG]
  split at h
  ·contradiction
  ·rename_i hc
   rw [if_neg hc]
   split at h
   ·omega
   ·rename_i ho
    rw [if_neg ho]
    exact ih (laN e) h
theorem rowG_from (p q:Int) (l:List En) (h:rowG p l=0) (hq:q≤p):rowG q l=0:=by
 cases l with
 | nil=>rfl
 | cons e l =>
  rw [rowG] at h ⊢
  split at h
  ·contradiction
  ·rename_i hc
   rw [if_neg hc]
   split at h
   ·omega
   ·rename_i ho
    rw [if_neg (by omega)]
    exact h
theorem rowG_cons (p:Int) (e:En) (l:List En) (h:rowG p (e :: l)=0):ckN e=0∧p<e.id∧rowG (laN e) l=0:=by
 rw [rowG] at h
 split at h
 ·contradiction
 ·rename_i hc
  split at h
  ·omega
  ·rename_i ho
   exact ⟨Classical.not_not.1 hc,by omega,h⟩
theorem rowG_above (p:Int) (l:List En) (hm:∀ e ∈ l,MayN e) (h:rowG p l=0) (e:En) (he:e ∈ l):p<e.id∧ckN e=0:=by
 induction l generalizing p with
 | nil=>simp at he
 | cons f l ih =>
  obtain ⟨h1,h2,h3⟩:=rowG_cons p f l h
  rcases List.mem_cons.1 he with rfl|he
  ·exact ⟨h2,h1⟩
  ·have:=ih (laN f) (fun x hx=>hm x (List.mem_cons_of_mem _ hx)) h3 he
   have hl:=la_ge f (hm f (List.mem_cons_self ..)) h1
   exact ⟨by omega,this.2⟩
def cntN (l:List En):Int:=(l.map fun e=>if ckN e=0 then e.rn else 0).sum
def pairN (l:List En):List (Int × Int):=(l.filter fun e=>decide (ckN e=0) && decide (0<e.rn)).map fun e=>(e.off,e.ln)
def conN (l:List En):Nat:=unl (pairN l)
theorem mem_pairN (l:List En) (q:Int × Int):q ∈ pairN l↔∃ e ∈ l,ckN e=0∧0<e.rn∧e.off=q.1∧e.ln=q.2:=by
 simp only [pairN,List.mem_map,List.mem_filter,Bool.and_eq_true,decide_eq_true_eq]
 constructor
 ·rintro ⟨e,⟨h1,h2,h3⟩,rfl⟩
  exact ⟨e,h1,h2,h3,rfl,rfl⟩
 ·rintro ⟨e,h1,h2,h3,h4,h5⟩
  exact ⟨e,⟨h1,h2,h3⟩,Prod.ext h4 h5⟩
end Go.Proofs.YtdnmgpcfgcidbaaGreatDoor
namespace Go.Proofs.YtdnmgpcfgcidbaaGreatDoor
set_option linter.unusedVariables false
set_option linter.unusedSimpArgs false
open Go.RowKit
set_option maxRecDepth 20000
theorem ecell_lt {w:World} {a:Addr} {v:Value} (h:w.cell? a=some v):a.block<w.heap.size:=by
 rcases Nat.lt_or_ge a.block w.heap.size with h'|h'
 ·exact h'
 ·simp [World.cell?,Array.getElem?_eq_none h'] at h
theorem ecell_later {w w':World} {a:Addr} {v:Value} (hb:Below w.heap.size w w') (h:w.cell? a=some v):w'.cell? a=some v:=(hb.cell (p:=a) (ecell_lt h)).trans h
def cE (e:En):List Value:=[.int .u64 e.id,.int .u64 e.off,.int .u32 e.ln,.int .u32 e.rn]
def flat4:List En→List Value
 | []=>[]
 | t :: l=>.int .u64 t.id :: .int .u64 t.off :: .int .u32 t.ln :: .int .u32 t.rn :: flat4 l
theorem flat4_len (l:List En):(flat4 l).length=l.length*4:=by
 induction l with
 | nil=>rfl
 | cons t l ih=>simp only [flat4,List.length_cons,ih];omega
theorem flat4_append (l m:List En):flat4 (l++m)=flat4 l++flat4 m:=by
 induction l with
 | nil=>rfl
 | cons t l ih=>simp only [List.cons_append,flat4,ih]
theorem flat4_one1 (e:En):flat4 [e]=cE e:=rfl
theorem flat4_at (l:List En) (n:Nat) (t:En) (h:l[n]?=some t):(flat4 l)[n*4]?=some (.int .u64 t.id)∧(flat4 l)[n*4+1]?=some (.int .u64 t.off)∧(flat4 l)[n*4+2]?=some (.int .u32 t.ln)∧(flat4 l)[n*4+3]?=some (.int .u32 t.rn):=by
 induction l generalizing n with
 | nil=>simp at h
 | cons u l ih =>
  cases n with
  | zero=>simp only [List.getElem?_cons_zero,Option.some.injEq] at h;subst h;exact ⟨rfl,rfl,rfl,rfl⟩
  | succ n =>
   have:=ih n (by simpa using h)
   rw [show (n+1)*4=n*4+1+1+1+1 from by omega]
   simpa [flat4] using this
theorem flat4_cells (l:List En):∀ u ∈ flat4 l,u.oneCell'=true:=by
 induction l with
 | nil=>intro u hu;simp [flat4] at hu
 | cons t l ih =>
  intro u hu
  simp only [flat4,List.mem_cons] at hu
  rcases hu with rfl|rfl|rfl|rfl|hu
  ·rfl
  ·rfl
  ·rfl
  ·rfl
  ·exact ih u hu
def EnsAt (w:World) (v:Value) (l:List En):Prop :=
 ∃ a cap,v=.slice a l.length cap∧l.length≤cap∧cap≤maxLen∧∀ (k:Nat) (t:En),l[k]?=some t→∃ g off,a=some ⟨g,off,none⟩∧g<w.heap.size∧w.cell? ⟨g,off+k*4,none⟩=some (.int .u64 t.id)∧w.cell? ⟨g,off+k*4+1,none⟩=some (.int .u64 t.off)∧w.cell? ⟨g,off+k*4+2,none⟩=some (.int .u32 t.ln)∧w.cell? ⟨g,off+k*4+3,none⟩=some (.int .u32 t.rn)
theorem EnsAt.below {w w':World} {v:Value} {l:List En} (h:EnsAt w v l) (hb:Below w.heap.size w w'):EnsAt w' v l:=by
 obtain ⟨a,cap,hv,h1,h2,hc⟩:=h
 refine ⟨a,cap,hv,h1,h2,fun k t ht=>?_⟩
 obtain ⟨g,off,ha,hg,c0,c1,c2,c3⟩:=hc k t ht
 exact ⟨g,off,ha,Nat.lt_of_lt_of_le hg hb.size,ecell_later hb c0,ecell_later hb c1,ecell_later hb c2,ecell_later hb c3⟩
theorem ens_nil (w:World):EnsAt w (.slice none 0 0) []:=⟨none,0,rfl,Nat.le_refl _,by unfold maxLen;omega,fun k t h=>by simp at h⟩
def OwnE (w:World) (B:Nat) (E:TypeId) (v:Value) (l:List En):Prop:=w.ownsRow B E 4 v l.length (flat4 l)
theorem ownE_nil (w:World) (B:Nat) (E:TypeId):OwnE w B E (.slice none 0 0) []:=World.ownsRow_nil _ _ _ _
theorem OwnE.lt {w:World} {B:Nat} {E:TypeId} {v:Value} {l:List En} (h:OwnE w B E v l):∀ k,v.ownBlock=some k→B≤k∧k<w.heap.size:=World.ownsRow.lt h
theorem OwnE.below {w w':World} {B:Nat} {E:TypeId} {v:Value} {l:List En} (h:OwnE w B E v l) (hb:Below w.heap.size w w'):OwnE w' B E v l:=by
 have hlt:=h.lt
 obtain ⟨h1,h2⟩:=h
 refine ⟨h1,?_⟩
 rcases h2 with h2|⟨g,cap,cur,hv,hg,hh,r⟩
 ·exact .inl h2
 ·refine .inr ⟨g,cap,cur,hv,hg,?_,r⟩
  rw [hb.block g (hlt g (by rw [hv];rfl)).2];exact hh
theorem OwnE.mono {w:World} {B B':Nat} {E:TypeId} {v:Value} {l:List En} (h:OwnE w B E v l) (hb:B'≤B):OwnE w B' E v l:=by
 obtain ⟨h1,h2⟩:=h
 refine ⟨h1,?_⟩
 rcases h2 with h2|⟨g,cap,cur,hv,hg,r⟩
 ·exact .inl h2
 ·exact .inr ⟨g,cap,cur,hv,Nat.le_trans hb hg,r⟩
theorem OwnE.form {w:World} {B:Nat} {E:TypeId} {v:Value} {l:List En} (h:OwnE w B E v l) :
  (v=.slice none 0 0∧l=[])∨∃ g cap,v=.slice (some ⟨g,0,none⟩) l.length cap∧B≤g∧g<w.heap.size∧l.length≤cap∧cap≤maxLen∧(∀ j,j<l.length*4→w.cell? ⟨g,j,none⟩=(flat4 l)[j]?)∧∀ j,w.frozen? ⟨g,j,none⟩=false:=by
 have hlt:=h.lt
 have h':=h
 obtain ⟨h1,h2⟩:=h
 rcases h2 with ⟨rfl,hn⟩|⟨g,cap,cur,rfl,hg,hh,hle,hm,_⟩
 ·exact .inl ⟨rfl,List.eq_nil_of_length_eq_zero hn⟩
 ·exact .inr ⟨g,cap,rfl,hg,(hlt g rfl).2,hle,hm,fun j hj=>World.ownsRow.cellAt h' j hj,fun j=>World.ownsRow.frozenAt h' j⟩
theorem OwnE.ensAt {w:World} {B:Nat} {E:TypeId} {v:Value} {l:List En} (h:OwnE w B E v l):EnsAt w v l:=by
 rcases h.form with ⟨rfl,rfl⟩|⟨g,cap,rfl,hB,hg,hle,hm,hc,_⟩
 ·exact ens_nil w
 ·refine ⟨_,cap,rfl,hle,hm,fun k t ht=>⟨g,0,rfl,hg,?_⟩⟩
  have hk:k<l.length:=(List.getElem?_eq_some_iff.1 ht).1
  obtain ⟨f0,f1,f2,f3⟩:=flat4_at l k t ht
  exact ⟨by rw [Nat.zero_add,hc _ (by omega)];exact f0,by rw [Nat.zero_add,hc _ (by omega)];exact f1,by rw [Nat.zero_add,hc _ (by omega)];exact f2,by rw [Nat.zero_add,hc _ (by omega)];exact f3⟩
theorem owne_conv {w:World} {B n:Nat} {E:TypeId} {v:Value} {xs:List Value} {l:List En} (h:w.ownsRow B E 4 v n xs) (hn:n=l.length) (hx:xs=flat4 l):OwnE w B E v l:=by
 subst hn;subst hx;exact h
def MaysN (l:List En):Prop:=∀ e ∈ l,MayN e
theorem cells4 {w w':World} {g o1 o2 o3 o4:Nat} {v1 v2 v3 v4:Value} (hb:Below w.heap.size w w') (h:w.cell? ⟨g,o1,none⟩=some v1∧w.cell? ⟨g,o2,none⟩=some v2∧w.cell? ⟨g,o3,none⟩=some v3∧w.cell? ⟨g,o4,none⟩=some v4):w'.cell? ⟨g,o1,none⟩=some v1∧w'.cell? ⟨g,o2,none⟩=some v2∧w'.cell? ⟨g,o3,none⟩=some v3∧w'.cell? ⟨g,o4,none⟩=some v4:=⟨ecell_later hb h.1,ecell_later hb h.2.1,ecell_later hb h.2.2.1,ecell_later hb h.2.2.2⟩
theorem keep1E {w w' w1:World} {g o1 o2 o3 o4:Nat} {v1 v2 v3 v4:Value} (hb:Below w'.heap.size w' w1) (h:(w'.cell? ⟨g,o1,none⟩=some v1∧w'.cell? ⟨g,o2,none⟩=some v2∧w'.cell? ⟨g,o3,none⟩=some v3∧w'.cell? ⟨g,o4,none⟩=some v4)∧Below w.heap.size w w'):(w1.cell? ⟨g,o1,none⟩=some v1∧w1.cell? ⟨g,o2,none⟩=some v2∧w1.cell? ⟨g,o3,none⟩=some v3∧w1.cell? ⟨g,o4,none⟩=some v4)∧Below w.heap.size w w1:=⟨cells4 hb h.1,h.2.trans (hb.mono h.2.size)⟩
theorem keep2E {w w' w1:World} {g o1 o2 o3 o4 g' p1 p2 p3 p4:Nat} {v1 v2 v3 v4 u1 u2 u3 u4:Value} (hb:Below w'.heap.size w' w1) (h:(w'.cell? ⟨g,o1,none⟩=some v1∧w'.cell? ⟨g,o2,none⟩=some v2∧w'.cell? ⟨g,o3,none⟩=some v3∧w'.cell? ⟨g,o4,none⟩=some v4)∧(w'.cell? ⟨g',p1,none⟩=some u1∧w'.cell? ⟨g',p2,none⟩=some u2∧w'.cell? ⟨g',p3,none⟩=some u3∧w'.cell? ⟨g',p4,none⟩=some u4)∧Below w.heap.size w w'):(w1.cell? ⟨g,o1,none⟩=some v1∧w1.cell? ⟨g,o2,none⟩=some v2∧w1.cell? ⟨g,o3,none⟩=some v3∧w1.cell? ⟨g,o4,none⟩=some v4)∧(w1.cell? ⟨g',p1,none⟩=some u1∧w1.cell? ⟨g',p2,none⟩=some u2∧w1.cell? ⟨g',p3,none⟩=some u3∧w1.cell? ⟨g',p4,none⟩=some u4)∧Below w.heap.size w w1:=⟨cells4 hb h.1,cells4 hb h.2.1,h.2.2.trans (hb.mono h.2.2.size)⟩
def prvN (l:List En) (i:Nat):Int:=if i=0 then -1 else laN (l.getD (i-1) zeroE)
theorem take_one (l:List En) (i:Nat) (e:En) (h:l[i]?=some e):l.take (i+1)=l.take i++[e]:=by
 rw [List.take_add_one,h];rfl
theorem fold_prv (l:List En) (i:Nat) (hi:i≤l.length):(l.take i).foldl (fun _ e=>laN e) (-1)=prvN l i:=by
 cases i with
 | zero=>rfl
 | succ j =>
  have h:l[j]?=some (l.getD j zeroE):=by rw [List.getD_eq_getElem?_getD,List.getElem?_eq_getElem (by omega)];rfl
  rw [take_one l j _ h,List.foldl_append]
  unfold prvN
  rw [if_neg (by omega),Nat.add_sub_cancel]
  rfl
theorem rowG_at (l:List En) (i:Nat) (e:En) (h:l[i]?=some e) (h0:rowG (-1) (l.take i)=0):rowG (-1) l=(if ckN e≠0 then ckN e else if e.id≤prvN l i then 10 else rowG (laN e) (l.drop (i+1)))∧(ckN e=0→¬ e.id≤prvN l i→rowG (-1) (l.take (i+1))=0):=by
 have hi:i<l.length:=(List.getElem?_eq_some_iff.1 h).1
 have hd:l.drop i=e :: l.drop (i+1):=by
  rw [List.drop_eq_getElem_cons hi]
  rw [List.getElem?_eq_getElem hi] at h
  rw [Option.some.inj h]
 refine ⟨?_,fun hc ho=>?_⟩
 ·conv=>lhs;rw [← List.take_append_drop i l]
  rw [rowG_append _ _ _ h0,fold_prv l i (by omega),hd,rowG]
 ·rw [take_one l i e h,rowG_append _ _ _ h0,fold_prv l i (by omega),rowG,if_neg (fun f=>f hc),if_neg ho]
  rfl
theorem ens_at {w:World} {v:Value} {l:List En} (h:EnsAt w v l) (i:Nat) (hi:i<l.length):∃ g off cap,v=.slice (some ⟨g,off,none⟩) l.length cap∧l.length≤cap∧g<w.heap.size∧∀ k e,l[k]?=some e→(w.cell? ⟨g,off+k*4,none⟩=some (.int .u64 e.id)∧w.cell? ⟨g,off+k*4+1,none⟩=some (.int .u64 e.off)∧w.cell? ⟨g,off+k*4+2,none⟩=some (.int .u32 e.ln)∧w.cell? ⟨g,off+k*4+3,none⟩=some (.int .u32 e.rn)):=by
 obtain ⟨a,cap,hv,h1,h2,hc⟩:=h
 obtain ⟨e,he⟩:∃ e,l[i]?=some e:=⟨_,List.getElem?_eq_getElem hi⟩
 obtain ⟨g,off,rfl,hg,_⟩:=hc i e he
 refine ⟨g,off,cap,hv,h1,hg,fun k f hf=>?_⟩
 obtain ⟨g',off',ha,hg',r⟩:=hc k f hf
 obtain ⟨rfl,rfl⟩:g=g'∧off=off':=by simpa using ha
 exact r
end Go.Proofs.YtdnmgpcfgcidbaaGreatDoor
namespace Go.Proofs.YtdnmgpcfgcidbaaGreatDoor
set_option linter.unusedVariables false
set_option linter.unusedSimpArgs false
def totF:List ByteArray→Nat
 | []=>0
 | t :: l=>t.size+totF l
def catF:List ByteArray→ByteArray
 | []=>ByteArray.empty
 | t :: l=>t++catF l
def findF (s:ByteArray):List ByteArray→Nat→Option Nat
 | [],_=>none
 | t :: l,n=>if t=s then some n else findF s l (n+t.size)
def offV (o:Option Nat):Nat:=o.getD 0
def lenV (o:Option Nat) (s:ByteArray):Nat:=if o.isSome then s.size else 0
def eV (l:List ByteArray) (s:ByteArray):Nat:=if s.size=0 then 2 else if 65536<s.size then 5 else if (findF s l 0).isSome then 0 else if 2048≤l.length then 7 else 0
def isNew (l:List ByteArray) (s:ByteArray):Bool:=decide (eV l s=0) && (findF s l 0).isNone
def newL (l:List ByteArray) (s:ByteArray):List ByteArray:=if isNew l s then l++[s] else l
def offA (l:List ByteArray) (s:ByteArray):Nat:=if isNew l s then totF l else if eV l s=0 then offV (findF s l 0) else 0
def lenA (l:List ByteArray) (s:ByteArray):Nat:=if eV l s=0 then s.size else 0
structure GoodP (l:List ByteArray):Prop where
 pos:∀ t ∈ l,0<t.size
 short:∀ t ∈ l,t.size≤65536
 once:l.Nodup
 few:l.length≤2048
theorem goodP_nil:GoodP []:=⟨by simp,by simp,by simp,by simp⟩
theorem totF_append (a b:List ByteArray):totF (a++b)=totF a+totF b:=by
 induction a with
 | nil=>simp [totF]
 | cons t l ih=>rw [List.cons_append,totF,totF,ih];omega
theorem totF_one (s:ByteArray):totF [s]=s.size:=by simp [totF]
theorem totF_take (l:List ByteArray) (k:Nat):totF (l.take k)≤totF l:=by
 have h:=totF_append (l.take k) (l.drop k)
 rw [List.take_append_drop] at h
 omega
theorem totF_bound (l:List ByteArray) (M:Nat) (h:∀ t ∈ l,t.size≤M):totF l≤l.length*M:=by
 induction l with
 | nil=>simp [totF]
 | cons t l ih =>
  have h1:=h t (by simp)
  have h2:=ih (fun x hx=>h x (by simp [hx]))
  rw [totF,List.length_cons,Nat.succ_mul]
  omega
theorem GoodP.tot {l:List ByteArray} (h:GoodP l):totF l≤134217728:=by
 have h1:=totF_bound l 65536 h.short
 have h2:=h.few
 omega
theorem mem_tot (l:List ByteArray) (t:ByteArray) (h:t ∈ l):t.size≤totF l:=by
 induction l with
 | nil=>simp at h
 | cons x l ih =>
  rw [totF]
  rcases List.mem_cons.1 h with rfl|h
  ·omega
  ·have:=ih h;omega
theorem catF_size (l:List ByteArray):(catF l).size=totF l:=by
 induction l with
 | nil=>simp [catF,totF]
 | cons t l ih=>rw [catF,totF,ByteArray.size_append,ih]
theorem drop_at {α:Type} (l:List α) (k:Nat) (t:α) (h:l[k]?=some t):l.drop k=t :: l.drop (k+1):=by
 obtain ⟨hk,rfl⟩:=List.getElem?_eq_some_iff.1 h
 exact List.drop_eq_getElem_cons hk
theorem findF_mem (s:ByteArray) (l:List ByteArray):∀ n,(findF s l n).isSome=true↔s ∈ l:=by
 induction l with
 | nil=>simp [findF]
 | cons t l ih =>
  intro n
  rw [findF]
  by_cases h:t=s
  ·simp [h]
  ·rw [if_neg h,ih]
   simp [h,Ne.symm h]
theorem findF_none (s:ByteArray) (l:List ByteArray) (n:Nat):findF s l n=none↔s ∉ l:=by
 rw [← findF_mem s l n]
 cases findF s l n <;> simp
theorem findF_append (s:ByteArray) (a b:List ByteArray):∀ n,findF s (a++b) n=match findF s a n with|some k=>some k|none=>findF s b (n+totF a):=by
 induction a with
 | nil=>intro n;simp [findF,totF]
 | cons t l ih =>
  intro n
  rw [List.cons_append,findF,findF]
  by_cases h:t=s
  ·simp [h]
  ·rw [if_neg h,if_neg h,ih,totF]
   rw [Nat.add_assoc]
theorem findF_le (s:ByteArray) (l:List ByteArray):∀ n k,findF s l n=some k→n≤k∧k+s.size≤n+totF l:=by
 induction l with
 | nil=>intro n k h;simp [findF] at h
 | cons t l ih =>
  intro n k h
  rw [findF] at h
  rw [totF]
  by_cases e:t=s
  ·rw [if_pos e] at h;injection h with h;subst e;omega
  ·rw [if_neg e] at h;have:=ih _ _ h;omega
theorem eV_iff (l:List ByteArray) (s:ByteArray):eV l s=0↔0<s.size∧s.size≤65536∧(s ∈ l∨l.length<2048):=by
 unfold eV
 have:=findF_mem s l 0
 by_cases h1:s.size=0
 ·simp [h1]
 ·rw [if_neg h1]
  by_cases h2:65536<s.size
  ·rw [if_pos h2];simp;omega
  ·rw [if_neg h2]
   by_cases h3:(findF s l 0).isSome=true
   ·rw [if_pos h3];simp only [true_iff];exact ⟨by omega,by omega,.inl (this.1 h3)⟩
   ·rw [if_neg h3]
    have h4:s ∉ l:=fun h=>h3 (this.2 h)
    by_cases h5:2048≤l.length
    ·rw [if_pos h5];simp [h4];omega
    ·rw [if_neg h5];simp;omega
theorem isNew_iff (l:List ByteArray) (s:ByteArray):isNew l s=true↔0<s.size∧s.size≤65536∧s ∉ l∧l.length<2048:=by
 unfold isNew
 rw [Bool.and_eq_true,decide_eq_true_eq,eV_iff,Option.isNone_iff_eq_none,findF_none]
 constructor
 ·rintro ⟨⟨h1,h2,h3⟩,h4⟩;exact ⟨h1,h2,h4,h3.resolve_left h4⟩
 ·rintro ⟨h1,h2,h3,h4⟩;exact ⟨⟨h1,h2,.inr h4⟩,h3⟩
theorem GoodP.add {l:List ByteArray} (h:GoodP l) (s:ByteArray):GoodP (newL l s):=by
 unfold newL
 split
 ·rename_i hn
  obtain ⟨h1,h2,h3,h4⟩:=(isNew_iff l s).1 hn
  refine ⟨?_,?_,?_,by simp;omega⟩
  ·intro t ht;rcases List.mem_append.1 ht with ht|ht
   ·exact h.pos t ht
   ·rw [List.mem_singleton.1 ht];exact h1
  ·intro t ht;rcases List.mem_append.1 ht with ht|ht
   ·exact h.short t ht
   ·rw [List.mem_singleton.1 ht];exact h2
  ·rw [List.nodup_append]
   refine ⟨h.once,by simp,fun a ha b hb=>?_⟩
   rw [List.mem_singleton.1 hb]
   intro e
   exact h3 (e ▸ ha)
 ·exact h
theorem newL_len (l:List ByteArray) (s:ByteArray):l.length≤(newL l s).length∧(newL l s).length≤l.length+1:=by
 unfold newL;split <;> simp
theorem newL_tot (l:List ByteArray) (s:ByteArray):totF (newL l s)≤totF l+s.size:=by
 unfold newL;split
 ·rw [totF_append,totF_one];omega
 ·omega
abbrev It:=Nat × ByteArray
def getI (id:Nat):List It→Option ByteArray
 | []=>none
 | t :: l=>if t.1=id then some t.2 else getI id l
def delI (id:Nat) (l:List It):List It:=l.filter (fun t=>decide (t.1≠id))
def lowI (id:Nat) (l:List It):List It:=l.takeWhile (fun t=>decide (t.1<id))
def highI (id:Nat) (l:List It):List It:=l.dropWhile (fun t=>decide (t.1<id))
def putI (id:Nat) (s:ByteArray) (l:List It):List It:=lowI id (delI id l)++(id,s) :: highI id (delI id l)
def putE (l:List It) (id:Nat) (s:ByteArray):Nat:=if 6004799503160661≤id then 8 else if s.size=0 then 2 else if 65536<s.size then 5 else if (getI id l).isNone && decide (2048≤l.length) then 7 else 0
def putL (l:List It) (id:Nat) (s:ByteArray):List It:=if putE l id s=0 then putI id s l else l
def bytesI:List It→Nat
 | []=>0
 | t :: l=>t.2.size+bytesI l
def ofR:List It→List It→List It→List It × Nat
 | _,acc,[]=>(acc,0)
 | seen,acc,t :: r=>if (getI t.1 seen).isSome then ([],22) else if putE acc t.1 t.2≠0 then ([],putE acc t.1 t.2) else ofR (seen++[t]) (putI t.1 t.2 acc) r
def ofI (l:List It):List It × Nat:=ofR [] [] l
def Rise (l:List It):Prop:=l.Pairwise (fun a b=>a.1<b.1)
structure GoodC (l:List It):Prop where
 rise:Rise l
 low:∀ t ∈ l,t.1<6004799503160661
 pos:∀ t ∈ l,0<t.2.size
 short:∀ t ∈ l,t.2.size≤65536
 few:l.length≤2048
theorem goodC_nil:GoodC []:=⟨List.Pairwise.nil,by simp,by simp,by simp,by simp⟩
theorem bytesI_append (a b:List It):bytesI (a++b)=bytesI a+bytesI b:=by
 induction a with
 | nil=>simp [bytesI]
 | cons t l ih=>rw [List.cons_append,bytesI,bytesI,ih];omega
theorem bytesI_take (l:List It) (k:Nat):bytesI (l.take k)≤bytesI l:=by
 have h:=bytesI_append (l.take k) (l.drop k)
 rw [List.take_append_drop] at h
 omega
theorem bytesI_step (l:List It) (k:Nat) (t:It) (h:l[k]?=some t):bytesI (l.take (k+1))=bytesI (l.take k)+t.2.size:=by
 rw [List.take_add_one,h,bytesI_append]
 simp [bytesI]
theorem idrop_at {α:Type} (l:List α) (k:Nat) (t:α) (h:l[k]?=some t):l.drop k=t :: l.drop (k+1):=by
 obtain ⟨hk,rfl⟩:=List.getElem?_eq_some_iff.1 h
 exact List.drop_eq_getElem_cons hk
theorem itake_at {α:Type} (l:List α) (k:Nat) (t:α) (h:l[k]?=some t):l.take (k+1)=l.take k++[t]:=by
 rw [List.take_add_one,h];rfl
theorem getI_none (id:Nat) (l:List It):getI id l=none↔∀ t ∈ l,t.1≠id:=by
 induction l with
 | nil=>simp [getI]
 | cons t l ih =>
  rw [getI]
  by_cases h:t.1=id
  ·rw [if_pos h];simp [h]
  ·rw [if_neg h,ih];simp [h]
theorem delI_step (id:Nat) (l:List It) (k:Nat) (t:It) (h:l[k]?=some t):delI id (l.take (k+1))=if t.1=id then delI id (l.take k) else delI id (l.take k)++[t]:=by
 unfold delI
 rw [itake_at l k t h,List.filter_append]
 by_cases e:t.1=id
 ·rw [if_pos e];simp [e]
 ·rw [if_neg e];simp [e]
theorem delI_len (id:Nat) (l:List It):(delI id l).length≤l.length:=List.length_filter_le _ _
theorem delI_bytes (id:Nat) (l:List It):bytesI (delI id l)≤bytesI l:=by
 unfold delI
 induction l with
 | nil=>simp [bytesI]
 | cons t l ih =>
  rw [List.filter_cons]
  split
  ·rw [bytesI,bytesI];omega
  ·rw [bytesI];omega
theorem low_high (id:Nat) (l:List It):lowI id l++highI id l=l:=List.takeWhile_append_dropWhile
end Go.Proofs.YtdnmgpcfgcidbaaGreatDoor
namespace Go.Proofs.YtdnmgpcfgcidbaaGreatDoor
set_option linter.unusedVariables false
set_option linter.unusedSimpArgs false
open Go.RowKit
set_option maxRecDepth 20000
theorem info_parts {P:Program} {t:TypeId} {z:Option Value} {s b:Nat} (h:(P.info? t).map (fun i=>(i.zero,i.size,i.bytes))=some (z,s,b)):∃ i,P.info? t=some i∧i.zero=z∧i.size=s∧i.bytes=b:=by
 cases hi:P.info? t with
 | none=>rw [hi] at h;cases h
 | some i =>
  rw [hi] at h
  simp only [Option.map_some,Option.some.injEq,Prod.mk.injEq] at h
  exact ⟨i,rfl,h.1,h.2.1,h.2.2⟩
theorem ret_int {k:IntKind} {a b:Int} (h:a=b):Ending.returned (.int k a)=.returned (.int k b):=by rw [h]
theorem vcell_lt {w:World} {a:Addr} {v:Value} (h:w.cell? a=some v):a.block<w.heap.size:=by
 rcases Nat.lt_or_ge a.block w.heap.size with h'|h'
 ·exact h'
 ·simp [World.cell?,Array.getElem?_eq_none h'] at h
theorem vcell_later {w w':World} {a:Addr} {v:Value} (hb:Below w.heap.size w w') (h:w.cell? a=some v):w'.cell? a=some v:=(hb.cell (p:=a) (vcell_lt h)).trans h
def ValsAt (w:World) (v:Value) (xs:List Value):Prop:=∃ a cap,v=.slice a xs.length cap∧xs.length≤cap∧cap≤maxLen∧∀ k t,xs[k]?=some t→∃ g off,a=some ⟨g,off,none⟩∧g<w.heap.size∧w.cell? ⟨g,off+k,none⟩=some t
theorem valsAt_nil (w:World):ValsAt w (.slice none 0 0) []:=⟨none,0,rfl,Nat.le_refl _,by simp,fun k t h=>by simp at h⟩
def OwnV (w:World) (B:Nat) (E:TypeId) (v:Value) (xs:List Value):Prop:=w.ownsRow B E 1 v xs.length xs
theorem ownV_nil (w:World) (B:Nat) (E:TypeId):OwnV w B E (.slice none 0 0) []:=World.ownsRow_nil _ _ _ _
theorem OwnV.lt {w:World} {B:Nat} {E:TypeId} {v:Value} {xs:List Value} (h:OwnV w B E v xs):∀ k,v.ownBlock=some k→B≤k∧k<w.heap.size:=World.ownsRow.lt h
theorem OwnV.keep {w w':World} {B:Nat} {E:TypeId} {v:Value} {xs:List Value} (h:OwnV w B E v xs) (hk:∀ k,v.ownBlock=some k→w'.heap[k]?=w.heap[k]?):OwnV w' B E v xs:=by
 obtain ⟨h1,h2⟩:=h
 refine ⟨h1,?_⟩
 rcases h2 with h2|⟨g,cap,cur,hv,hg,hh,r⟩
 ·exact .inl h2
 ·refine .inr ⟨g,cap,cur,hv,hg,?_,r⟩
  rw [hk g (by rw [hv];rfl)];exact hh
theorem OwnV.below {w w':World} {B:Nat} {E:TypeId} {v:Value} {xs:List Value} (h:OwnV w B E v xs) (hb:Below w.heap.size w w'):OwnV w' B E v xs :=
 h.keep (fun k hk=>hb.block k (h.lt k hk).2)
theorem OwnV.form {w:World} {B:Nat} {E:TypeId} {v:Value} {xs:List Value} (h:OwnV w B E v xs) :
  (v=.slice none 0 0∧xs=[])∨∃ g cap,v=.slice (some ⟨g,0,none⟩) xs.length cap∧B≤g∧g<w.heap.size∧xs.length≤cap∧cap≤maxLen∧(∀ j,j<xs.length→w.cell? ⟨g,j,none⟩=xs[j]?)∧∀ j,w.frozen? ⟨g,j,none⟩=false:=by
 have hlt:=h.lt
 have h':=h
 obtain ⟨h1,h2⟩:=h
 rcases h2 with ⟨rfl,hn⟩|⟨g,cap,cur,rfl,hg,hh,hle,hm,_⟩
 ·exact .inl ⟨rfl,List.eq_nil_of_length_eq_zero hn⟩
 ·exact .inr ⟨g,cap,rfl,hg,(hlt g rfl).2,hle,hm,fun j hj=>World.ownsRow.cellAt h' j (by omega),fun j=>World.ownsRow.frozenAt h' j⟩
theorem OwnV.valsAt {w:World} {B:Nat} {E:TypeId} {v:Value} {xs:List Value} (h:OwnV w B E v xs):ValsAt w v xs:=by
 rcases h.form with ⟨rfl,rfl⟩|⟨g,cap,rfl,hg,hl,h1,h2,hc,_⟩
 ·exact valsAt_nil w
 ·refine ⟨_,cap,rfl,h1,h2,fun k t ht=>⟨g,0,rfl,hl,?_⟩⟩
  have hk:=(List.getElem?_eq_some_iff.1 ht).1
  rw [Nat.zero_add,hc k hk];exact ht
theorem vals_conv {w:World} {B:Nat} {E:TypeId} {v:Value} {n:Nat} {xs ys:List Value} (h:w.ownsRow B E 1 v n ys) (hn:n=xs.length) (he:ys=xs):OwnV w B E v xs:=by
 subst hn;subst he;exact h
theorem str_yes {a b:ByteArray} (h:a=b):(a.toList == b.toList)=true:=by rw [h];simp
theorem str_no {a b:ByteArray} (h:¬ a=b):(a.toList == b.toList)=false:=by
 rw [ByteArray.toList_eq,ByteArray.toList_eq,beq_eq_false_iff_ne]
 intro e
 exact h (ByteArray.ext (Array.toList_inj.1 e))
theorem heap_new (w:World) (o:Obj):(w.alloc o).heap[w.heap.size]?=some o:=by
 show (w.heap.push o)[w.heap.size]?=_
 simp
theorem pct_size:(Tryz.prog.info? 147).map (·.size)=some 2:=by kernel_rfl
theorem two_load (w:World) (g:Nat) (ty:TypeId) (x y:Value) (d:TypeDesc) (c0:w.cell? ⟨g,0,none⟩=some x) (c1:w.cell? ⟨g,1,none⟩=some y)
  (hu:Tryz.prog.underlying ty=some d) (hd:(match d with|.struct _|.array _ _=>true|_=>false)=true) (hi:(Tryz.prog.info? ty).map (·.size)=some 2) :
  (loadVar ty ⟨g,0,none⟩).run Tryz.prog w=.ok (.agg #[x,y]) w:=by
 have hl:(loadCells ⟨g,0,none⟩ 2).run Tryz.prog w=.ok #[x,y] w :=
  run_loadCells_list (P:=Tryz.prog) w ⟨g,0,none⟩ [x,y] (fun j v hv=>by
   have hadd:(⟨g,0,none⟩:Addr).add j=⟨g,j,none⟩:=by unfold Addr.add;split <;> simp_all
   rw [hadd]
   match j,hv with
   | 0,hv=>simp at hv;rw [c0,hv]
   | 1,hv=>simp at hv;rw [c1,hv]
   | j+2,hv=>simp at hv)
 cases hq:Tryz.prog.info? ty with
 | none=>simp [hq] at hi
 | some i =>
  have hs:i.size=2:=by simpa [hq] using hi
  have hagg:(isAgg ty).run Tryz.prog w=.ok true w:=by
   unfold isAgg
   rw [Sem.run_bind,run_underlying hu w]
   cases d <;> simp_all
  simp [loadVar,Sem.run_bind,hagg,sizeOf,typeInfo,hq,hs,hl]
theorem results_ct {fn:Func} {p q:Tmp} {ty:TypeId} (h:fn.results=#[.cell p ty,.tmp q]) (tmps:Array Value) (w:World) (g:Nat) (x y v:Value) (d:TypeDesc) (hp:tmps.getD p undef=.pointer (some ⟨g,0,none⟩)) (hq:tmps.getD q undef=v) (c0:w.cell? ⟨g,0,none⟩=some x) (c1:w.cell? ⟨g,1,none⟩=some y)
  (hu:Tryz.prog.underlying ty=some d) (hd:(match d with|.struct _|.array _ _=>true|_=>false)=true) (hi:(Tryz.prog.info? ty).map (·.size)=some 2) :
  (results fn tmps).run Tryz.prog w=.ok (.tuple #[.agg #[x,y],v]) w:=by
 have hl:=two_load w g ty x y d c0 c1 hu hd hi
 have hp':tmps[p]?.getD undef=.pointer (some ⟨g,0,none⟩):=by simpa using hp
 have hq':tmps[q]?.getD undef=v:=by simpa using hq
 simp [results,h,hp',hq',asAddr,hl]
theorem results_ct3 {fn:Func} {p q r:Tmp} {ty:TypeId} (h:fn.results=#[.cell p ty,.tmp q,.tmp r]) (tmps:Array Value) (w:World) (g:Nat) (x y v u:Value) (d:TypeDesc) (hp:tmps.getD p undef=.pointer (some ⟨g,0,none⟩)) (hq:tmps.getD q undef=v) (hr:tmps.getD r undef=u) (c0:w.cell? ⟨g,0,none⟩=some x) (c1:w.cell? ⟨g,1,none⟩=some y)
  (hu:Tryz.prog.underlying ty=some d) (hd:(match d with|.struct _|.array _ _=>true|_=>false)=true) (hi:(Tryz.prog.info? ty).map (·.size)=some 2) :
  (results fn tmps).run Tryz.prog w=.ok (.tuple #[.agg #[x,y],v,u]) w:=by
 have hl:=two_load w g ty x y d c0 c1 hu hd hi
 have hp':tmps[p]?.getD undef=.pointer (some ⟨g,0,none⟩):=by simpa using hp
 have hq':tmps[q]?.getD undef=v:=by simpa using hq
 have hr':tmps[r]?.getD undef=u:=by simpa using hr
 simp [results,h,hp',hq',hr',asAddr,hl]
def Two (w:World) (g:Nat) (x y:Value):Prop:=w.cell? ⟨g,0,none⟩=some x∧w.cell? ⟨g,1,none⟩=some y∧w.frozen? ⟨g,0,none⟩=false∧w.frozen? ⟨g,1,none⟩=false
theorem Two.lt {w:World} {g:Nat} {x y:Value} (h:Two w g x y):g<w.heap.size:=vcell_lt h.1
theorem Two.below {w w':World} {g:Nat} {x y:Value} (h:Two w g x y) (hb:Below w.heap.size w w'):Two w' g x y :=
 ⟨vcell_later hb h.1,vcell_later hb h.2.1,(hb.frozen (p:=⟨g,0,none⟩) h.lt).trans h.2.2.1,(hb.frozen (p:=⟨g,1,none⟩) h.lt).trans h.2.2.2⟩
theorem Two.alloc {w:World} {g:Nat} {x y:Value} (h:Two w g x y) (o:Obj):Two (w.alloc o) g x y:=h.below (Below.alloc (Below.refl _ _) (Nat.le_refl _) _)
theorem two_new (w:World) (x y:Value) (T:TypeId):Two (w.alloc (.cells #[x,y] T)) w.heap.size x y:=⟨by simp [go_sem],by simp [go_sem],by simp [go_sem],by simp [go_sem]⟩
theorem Two.set {w:World} {g:Nat} {x y:Value} (h:Two w g x y) (x' y':Value):Two ((w.setCell ⟨g,0,none⟩ x').setCell ⟨g,1,none⟩ y') g x' y':=by
 obtain ⟨h0,h1,h2,h3⟩:=h
 have e1:(w.setCell ⟨g,0,none⟩ x').cell? ⟨g,1,none⟩=some y:=by rw [World.cell?_setCell_other (h:=by simp),h1]
 refine ⟨?_,World.cell?_setCell_same _ _ _ e1,by simpa using h2,by simpa using h3⟩
 rw [World.cell?_setCell_other (h:=by simp)]
 exact World.cell?_setCell_same _ _ _ h0
theorem Two.lower {w w':World} {B g:Nat} {x y:Value} (h:Two w g x y) (hb:Below B w w') (hg:g<B):Two w' g x y :=
 ⟨(hb.cell (p:=⟨g,0,none⟩) hg).trans h.1,(hb.cell (p:=⟨g,1,none⟩) hg).trans h.2.1,(hb.frozen (p:=⟨g,0,none⟩) hg).trans h.2.2.1,(hb.frozen (p:=⟨g,1,none⟩) hg).trans h.2.2.2⟩
theorem OwnV.slice {w:World} {B:Nat} {E:TypeId} {v:Value} {xs:List Value} (h:OwnV w B E v xs):∃ a cap,v=.slice a xs.length cap:=by
 rcases h.form with ⟨rfl,rfl⟩|⟨g,cap,rfl,_⟩
 ·exact ⟨none,0,rfl⟩
 ·exact ⟨_,cap,rfl⟩
structure Kept (S S':Nat→Prop) (W W':World):Prop where
 os:W'.os=W.os
 tape:W'.tape=W.tape
 output:W'.output=W.output
 size:W.heap.size≤W'.heap.size
 same:∀ b,b<W.heap.size→¬ S b→W'.heap[b]?=W.heap[b]?
 own:∀ b,S' b→S b∨W.heap.size≤b
theorem Kept.trans {S S' S'':Nat→Prop} {X Y Z:World} (h:Kept S S' X Y) (h':Kept S' S'' Y Z):Kept S S'' X Z:=by
 refine ⟨h'.os.trans h.os,h'.tape.trans h.tape,h'.output.trans h.output,Nat.le_trans h.size h'.size,fun b hb hs=>?_,fun b hb=>?_⟩
 ·rw [h'.same b (Nat.lt_of_lt_of_le hb h.size) (fun hs'=>?_),h.same b hb hs]
  rcases h.own b hs' with h1|h1
  ·exact hs h1
  ·omega
 ·rcases h'.own b hb with h1|h1
  ·exact h.own b h1
  ·exact .inr (Nat.le_trans h.size h1)
theorem Kept.below (S:Nat→Prop) {W W':World} (hb:Below W.heap.size W W'):Kept S S W W':=⟨hb.os,hb.tape,hb.output,hb.size,fun b hl _=>hb.block b hl,fun _ h=>.inl h⟩
theorem Below.kept {S S':Nat→Prop} {B:Nat} {w W W':World} (h:Below B w W) (hk:Kept S S' W W') (hS:∀ b,S b→B≤b) (hB:B≤W.heap.size):Below B w W' :=
 ⟨hk.os.trans h.os,hk.tape.trans h.tape,hk.output.trans h.output,Nat.le_trans h.size hk.size,fun b hb=>(hk.same b (Nat.lt_of_lt_of_le hb hB) (fun hs=>absurd (hS b hs) (by omega))).trans (h.block b hb)⟩
def flatI:List It→List Value
 | []=>[]
 | t :: l=>.int .u64 t.1 :: .string t.2 :: flatI l
theorem flatI_len (l:List It):(flatI l).length=l.length*2:=by
 induction l with
 | nil=>rfl
 | cons t l ih=>simp [flatI,ih];omega
theorem flatI_append (a b:List It):flatI (a++b)=flatI a++flatI b:=by
 induction a with
 | nil=>rfl
 | cons t l ih=>simp [flatI,ih]
theorem flatI_at (l:List It):∀ (k:Nat) (t:It),l[k]?=some t→(flatI l)[k*2]?=some (.int .u64 t.1)∧(flatI l)[k*2+1]?=some (.string t.2):=by
 induction l with
 | nil=>intro k t h;simp at h
 | cons s l ih =>
  intro k t h
  cases k with
  | zero=>simp at h;subst h;simp [flatI]
  | succ k =>
   have:=ih k t (by simpa using h)
   rw [show (k+1)*2=k*2+1+1 by omega]
   simpa [flatI] using this
theorem flatI_one (l:List It):∀ u ∈ flatI l,u.oneCell'=true:=by
 induction l with
 | nil=>intro u h;simp [flatI] at h
 | cons t l ih =>
  intro u h
  simp only [flatI,List.mem_cons] at h
  rcases h with rfl|rfl|h
  ·rfl
  ·rfl
  ·exact ih u h
def ItsAt (w:World) (v:Value) (l:List It):Prop:=∃ a cap,v=.slice a l.length cap∧l.length≤cap∧cap≤maxLen∧∀ k t,l[k]?=some t→∃ g off,a=some ⟨g,off,none⟩∧g<w.heap.size∧w.cell? ⟨g,off+k*2,none⟩=some (.int .u64 t.1)∧w.cell? ⟨g,off+k*2+1,none⟩=some (.string t.2)
theorem its_nil (w:World):ItsAt w (.slice none 0 0) []:=⟨none,0,rfl,Nat.le_refl _,by simp,fun k t h=>by simp at h⟩
theorem ItsAt.below {w w':World} {v:Value} {l:List It} (h:ItsAt w v l) (hb:Below w.heap.size w w'):ItsAt w' v l:=by
 obtain ⟨a,cap,rfl,h1,h2,hc⟩:=h
 refine ⟨a,cap,rfl,h1,h2,fun k t ht=>?_⟩
 obtain ⟨g,off,ha,hg,c0,c1⟩:=hc k t ht
 exact ⟨g,off,ha,Nat.lt_of_lt_of_le hg hb.size,vcell_later hb c0,vcell_later hb c1⟩
def OwnIt (w:World) (B:Nat) (E:TypeId) (v:Value) (l:List It):Prop:=w.ownsRow B E 2 v l.length (flatI l)
theorem ownIt_nil (w:World) (B:Nat) (E:TypeId):OwnIt w B E (.slice none 0 0) []:=World.ownsRow_nil _ _ _ _
theorem OwnIt.lt {w:World} {B:Nat} {E:TypeId} {v:Value} {l:List It} (h:OwnIt w B E v l):∀ k,v.ownBlock=some k→B≤k∧k<w.heap.size:=World.ownsRow.lt h
theorem OwnIt.below {w w':World} {B:Nat} {E:TypeId} {v:Value} {l:List It} (h:OwnIt w B E v l) (hb:Below w.heap.size w w'):OwnIt w' B E v l:=by
 have hlt:=h.lt
 obtain ⟨h1,h2⟩:=h
 refine ⟨h1,?_⟩
 rcases h2 with h2|⟨g,cap,cur,hv,hg,hh,r⟩
 ·exact .inl h2
 ·refine .inr ⟨g,cap,cur,hv,hg,?_,r⟩
  rw [hb.block g (hlt g (by rw [hv];rfl)).2];exact hh
theorem OwnIt.mono {w:World} {B B':Nat} {E:TypeId} {v:Value} {l:List It} (h:OwnIt w B E v l) (hb:B'≤B):OwnIt w B' E v l:=by
 obtain ⟨h1,h2⟩:=h
 refine ⟨h1,?_⟩
 rcases h2 with h2|⟨g,cap,cur,hv,hg,r⟩
 ·exact .inl h2
 ·exact .inr ⟨g,cap,cur,hv,Nat.le_trans hb hg,r⟩
theorem OwnIt.itsAt {w:World} {B:Nat} {E:TypeId} {v:Value} {l:List It} (h:OwnIt w B E v l):ItsAt w v l:=by
 have hlt:=h.lt
 have h':=h
 obtain ⟨h1,h2⟩:=h
 rcases h2 with ⟨rfl,hn⟩|⟨g,cap,cur,rfl,hg,hh,hle,hm,_⟩
 ·obtain rfl:l=[]:=List.eq_nil_of_length_eq_zero hn
  exact its_nil w
 ·refine ⟨_,cap,rfl,hle,hm,fun k t ht=>⟨g,0,rfl,(hlt g rfl).2,?_⟩⟩
  have hk:=(List.getElem?_eq_some_iff.1 ht).1
  obtain ⟨f0,f1⟩:=flatI_at l k t ht
  rw [Nat.zero_add]
  exact ⟨(World.ownsRow.cellAt h' (k*2) (by omega)).trans f0,(World.ownsRow.cellAt h' (k*2+1) (by omega)).trans f1⟩
theorem pit_size:(Tryz.prog.info? 69).map (·.size)=some 2:=by kernel_rfl
theorem infoIt:(Tryz.prog.info? 74).map (fun i=>(i.zero,i.size,i.bytes))=some (some (.agg #[.int .u64 0,.string { data:=#[] }]),2,24):=by kernel_rfl
theorem infoPit:(Tryz.prog.info? 69).map (fun i=>(i.zero,i.size,i.bytes))=some (some (.agg #[.int .u64 0,.string { data:=#[] }]),2,24):=by kernel_rfl
theorem itappend_run (W:World) (B:Nat) (TS E ty:TypeId) (z:Value) (ht:Tryz.prog.underlying TS=some (.slice E)) (hI:(Tryz.prog.info? E).map (fun i=>(i.zero,i.size,i.bytes))=some (some z,2,24)) (hzs:z.cells.size=2)
  (v x:Value) (L m:List It) (hown:OwnIt W B E v L) (hx:ItsAt W x m) (hl:L.length+m.length≤1000000) (hb:B≤W.heap.size) :
  ∃ v' w',(Builtin.append_ #[TS,TS] ty #[v,x]).run Tryz.prog W=.ok v' w'∧OwnIt w' B E v' (L++m)∧W.grownBy w' v.ownBlock:=by
 obtain ⟨a,cap,rfl,h1,h2,hc⟩:=hx
 have fin:∀ {w':World} {v':Value},w'.ownsRow B E 2 v' (L.length+m.length) (flatI L++flatI m)→OwnIt w' B E v' (L++m):=by
  intro w' v' h
  unfold OwnIt
  rw [flatI_append,List.length_append]
  exact h
 cases a with
 | none =>
  have hl0:m=[]:=by
   cases m with
   | nil=>rfl
   | cons t l=>obtain ⟨g,off,ha,_⟩:=hc 0 t rfl;cases ha
  subst hl0
  refine ⟨v,W,?_,by rw [List.append_nil];exact hown,World.grownBy.refl _ _⟩
  obtain ⟨i0,hi,hz0,hz1,hz2⟩:=info_parts hI
  rcases hown.2 with ⟨rfl,hn⟩|⟨g,cap2,cur,rfl,hbg,hg,hnc,hcm,hcs,htake⟩
  ·simp [Builtin.append_,run_underlying ht,sizeOf,typeInfo,hi,Builtin.lenOf,Builtin.firstCells,loadCells,loadCellsFrom]
  ·simp [Builtin.append_,run_underlying ht,sizeOf,typeInfo,hi,Builtin.lenOf,Builtin.firstCells,loadCells,loadCellsFrom,hnc,storeCells]
 | some ad =>
  have hnews:∀ j u,(flatI m)[j]?=some u→W.cell? (ad.add j)=some u:=by
   intro j u hu
   have hj:j<m.length*2:=by rw [← flatI_len];exact (List.getElem?_eq_some_iff.1 hu).1
   obtain ⟨t,ht⟩:∃ t,m[j / 2]?=some t:=⟨_,List.getElem?_eq_getElem (by omega)⟩
   obtain ⟨g,off,ha,_,c0,c1⟩:=hc (j / 2) t ht
   obtain ⟨f0,f1⟩:=flatI_at m (j / 2) t ht
   injection ha with ha
   subst ha
   have hadd:(⟨g,off,none⟩:Addr).add j=⟨g,off+j,none⟩:=by simp [Addr.add]
   rw [hadd]
   rcases (by omega:j=j / 2*2∨j=j / 2*2+1) with e|e
   ·rw [e,f0] at hu;rw [← hu];rw [show off+j=off+j / 2*2 from by omega];exact c0
   ·rw [e,f1] at hu;rw [← hu];rw [show off+j=off+j / 2*2+1 from by omega];exact c1
  obtain ⟨i0,hi,hz0,hz1,hz2⟩:=info_parts hI
  obtain ⟨v',w',hr,h2,h3,h4⟩:=run_append_own (P:=Tryz.prog) W B TS ty E i0 _ 2 24 ht hi hz0 hz1 hz2 hzs (by omega) v L.length (flatI L) hown ad m.length cap (flatI m) (flatI_len m) hnews (flatI_one m) (by unfold maxLen;omega) (by omega) hb
  exact ⟨v',w',hr,fin h2,h3⟩
theorem it_lit (w:World) (x:Nat) (s:ByteArray) (T:TypeId):ItsAt (w.alloc (.cells #[.int .u64 x,.string s] T)) (.slice (some ⟨w.heap.size,0,none⟩) 1 1) [(x,s)]:=by
 refine ⟨_,1,rfl,Nat.le_refl _,by unfold maxLen;omega,fun k t ht=>⟨w.heap.size,0,rfl,by simp,?_⟩⟩
 match k,ht with
 | 0,ht=>simp only [List.getElem?_cons_zero,Option.some.injEq] at ht;subst ht;exact ⟨by simp [go_sem],by simp [go_sem]⟩
 | k+1,ht=>simp at ht
def tab:List UInt8:=[0,1,2,2,3,3,3,3,4,4,4,4,4,4,4,4,5,5,5,5,5,5,5,5,5,5,5,5,5,5,5,5,6,6,6,6,6,6,6,6,6,6,6,6,6,6,6,6,6,6,6,6,6,6,6,6,6,6,6,6,6,6,6,6,7,7,7,7,7,7,7,7,7,7,7,7,7,7,7,7,7,7,7,7,7,7,7,7,7,7,7,7,7,7,7,7,7,7,7,7,7,7,7,7,7,7,7,7,7,7,7,7,7,7,7,7,7,7,7,7,7,7,7,7,7,7,7,7,8,8,8,8,8,8,8,8,8,8,8,8,8,8,8,8,8,8,8,8,8,8,8,8,8,8,8,8,8,8,8,8,8,8,8,8,8,8,8,8,8,8,8,8,8,8,8,8,8,8,8,8,8,8,8,8,8,8,8,8,8,8,8,8,8,8,8,8,8,8,8,8,8,8,8,8,8,8,8,8,8,8,8,8,8,8,8,8,8,8,8,8,8,8,8,8,8,8,8,8,8,8,8,8,8,8,8,8,8,8,8,8,8,8,8,8,8,8,8,8,8,8,8,8,8,8,8,8]
def lenB (N b:Nat):Bool:=(N == 0 && b == 0) || (decide (1≤N) && decide (N≤64) && decide (2 ^ (N-1)≤b) && decide (b<2 ^ N))
def Len (N:Nat) (x:Int):Prop:=N≤64∧(N=0∧x=0∨1≤N∧((2 ^ (N-1):Nat):Int)≤x∧x<((2 ^ N:Nat):Int))
theorem tab_all:(List.range 256).all (fun b=>decide ((tab.getD b 0).toNat≤8) && lenB (tab.getD b 0).toNat b)=true:=by kernel_rfl
theorem tab_len:tab.length=256:=by kernel_rfl
theorem tab_spec (b:Nat) (h:b<256):(tab.getD b 0).toNat≤8∧Len (tab.getD b 0).toNat (b:Int):=by
 have:=List.all_eq_true.1 tab_all b (by simpa using h)
 generalize (tab.getD b 0).toNat=L at *
 simp only [Bool.and_eq_true,decide_eq_true_eq,lenB,Bool.or_eq_true,beq_iff_eq] at this
 refine ⟨this.1,by omega,?_⟩
 omega
theorem len_up (B L:Nat) (y x:Int) (hL:L≤8) (hB:B=0∨B=8∨B=16∨B=24∨B=32∨B=40∨B=48∨B=56) (h:Len L y) (hy:x / ((2 ^ B:Nat):Int)=y) (h1:B=0∨1≤y):Len (B+L) x:=by
 unfold Len at *
 refine ⟨by omega,?_⟩
 rcases (by omega:L=0∨L=1∨L=2∨L=3∨L=4∨L=5∨L=6∨L=7∨L=8) with rfl|rfl|rfl|rfl|rfl|rfl|rfl|rfl|rfl <;>
 rcases hB with rfl|rfl|rfl|rfl|rfl|rfl|rfl|rfl <;> simp only [Nat.reducePow,Nat.reduceSub,Nat.reduceAdd,Nat.add_zero,Nat.zero_add,Int.cast_ofNat_Int] at*<;> first|omega|(simp at *;omega)
theorem tab_end (B:Nat) (y x:Int) (T:ByteArray) (hT:T.data.toList=tab) (hi:y.toNat<T.size) (hB:B=0∨B=8∨B=16∨B=24∨B=32∨B=40∨B=48∨B=56) (hy:x / ((2 ^ B:Nat):Int)=y) (y0:0≤y) (h1:B=0∨1≤y):∃ n:Nat,wrap64 ((B:Int)+wrap64 ((T[y.toNat].toNat:Nat):Int))=n∧Len n x:=by
 have hz:T.size=256:=by rw [← tab_len,← hT];simp
 have hs:=tab_spec y.toNat (by omega)
 have e:T[y.toNat]=tab.getD y.toNat 0:=by
  rw [← hT]
  simp [List.getD,ByteArray.getElem_eq_getElem_data]
  have:y.toNat<T.data.size:=hi
  rw [Array.getElem?_eq_getElem this];rfl
 rw [e]
 refine ⟨B+(tab.getD y.toNat 0).toNat,?_,len_up B _ y x hs.1 hB (by have:=hs.2;rwa [Int.toNat_of_nonneg y0] at this) hy h1⟩
 unfold wrap64
 omega
theorem tab_fin (B:Nat) (y x:Int) (T:ByteArray) (hi:y.toNat<T.size) (hT:T.data.toList=tab) (hB:B=0∨B=8∨B=16∨B=24∨B=32∨B=40∨B=48∨B=56) (hy:x / ((2 ^ B:Nat):Int)=y) (y0:0≤y) (h1:B=0∨1≤y) (v:Int) (hv:v=wrap64 ((B:Int)+wrap64 ((T[y.toNat].toNat:Nat):Int))):∃ n:Nat,Ending.returned (.int .i64 v)=.returned (.int .i64 n)∧Len n x:=by
 obtain ⟨n,a,b⟩:=tab_end B y x T hT hi hB hy y0 h1
 exact ⟨n,by rw [hv,a],b⟩
set_option maxRecDepth 100000 in
theorem len64_any (x:Int) (w:World) (x0:0≤x) (x1:x≤18446744073709551615):Calls Tryz.prog 197 #[.int .u64 x] w fun e w'=>(∃ n:Nat,e=.returned (.int .i64 n)∧Len n x)∧w=w':=by
 by_cases h1:4294967296≤x
 ·go_enter Tryz.func197,Tryz.ntmps197
  go_wp2
  all_goals
   go_ret
   refine ⟨?_,rfl⟩
   first
    | exact tab_fin 56 _ x _ _ (by kernel_rfl) (by decide) (by (simp only [Nat.reducePow,Int.cast_ofNat_Int]) <;> omega) (by omega) (by omega) _ rfl
    | exact tab_fin 48 _ x _ _ (by kernel_rfl) (by decide) (by (simp only [Nat.reducePow,Int.cast_ofNat_Int]) <;> omega) (by omega) (by omega) _ rfl
    | exact tab_fin 40 _ x _ _ (by kernel_rfl) (by decide) (by (simp only [Nat.reducePow,Int.cast_ofNat_Int]) <;> omega) (by omega) (by omega) _ rfl
    | exact tab_fin 32 _ x _ _ (by kernel_rfl) (by decide) (by (simp only [Nat.reducePow,Int.cast_ofNat_Int]) <;> omega) (by omega) (by omega) _ rfl
    | exact tab_fin 24 _ x _ _ (by kernel_rfl) (by decide) (by (simp only [Nat.reducePow,Int.cast_ofNat_Int]) <;> omega) (by omega) (by omega) _ rfl
    | exact tab_fin 16 _ x _ _ (by kernel_rfl) (by decide) (by (simp only [Nat.reducePow,Int.cast_ofNat_Int]) <;> omega) (by omega) (by omega) _ rfl
    | exact tab_fin 8 _ x _ _ (by kernel_rfl) (by decide) (by (simp only [Nat.reducePow,Int.cast_ofNat_Int]) <;> omega) (by omega) (by omega) _ rfl
    | exact tab_fin 0 _ x _ _ (by kernel_rfl) (by decide) (by (simp only [Nat.reducePow,Int.cast_ofNat_Int]) <;> omega) (by omega) (by omega) _ (congrArg wrap64 (Int.zero_add _).symm)
 ·go_enter Tryz.func197,Tryz.ntmps197
  go_wp2
  all_goals
   go_ret
   refine ⟨?_,rfl⟩
   first
    | exact tab_fin 56 _ x _ _ (by kernel_rfl) (by decide) (by (simp only [Nat.reducePow,Int.cast_ofNat_Int]) <;> omega) (by omega) (by omega) _ rfl
    | exact tab_fin 48 _ x _ _ (by kernel_rfl) (by decide) (by (simp only [Nat.reducePow,Int.cast_ofNat_Int]) <;> omega) (by omega) (by omega) _ rfl
    | exact tab_fin 40 _ x _ _ (by kernel_rfl) (by decide) (by (simp only [Nat.reducePow,Int.cast_ofNat_Int]) <;> omega) (by omega) (by omega) _ rfl
    | exact tab_fin 32 _ x _ _ (by kernel_rfl) (by decide) (by (simp only [Nat.reducePow,Int.cast_ofNat_Int]) <;> omega) (by omega) (by omega) _ rfl
    | exact tab_fin 24 _ x _ _ (by kernel_rfl) (by decide) (by (simp only [Nat.reducePow,Int.cast_ofNat_Int]) <;> omega) (by omega) (by omega) _ rfl
    | exact tab_fin 16 _ x _ _ (by kernel_rfl) (by decide) (by (simp only [Nat.reducePow,Int.cast_ofNat_Int]) <;> omega) (by omega) (by omega) _ rfl
    | exact tab_fin 8 _ x _ _ (by kernel_rfl) (by decide) (by (simp only [Nat.reducePow,Int.cast_ofNat_Int]) <;> omega) (by omega) (by omega) _ rfl
    | exact tab_fin 0 _ x _ _ (by kernel_rfl) (by decide) (by (simp only [Nat.reducePow,Int.cast_ofNat_Int]) <;> omega) (by omega) (by omega) _ (congrArg wrap64 (Int.zero_add _).symm)
end Go.Proofs.YtdnmgpcfgcidbaaGreatDoor
namespace Go.Proofs.YtdnmgpcfgcidbaaGreatDoor
set_option linter.unusedVariables false
set_option linter.unusedSimpArgs false
def p2:Nat→Int
 | 0=>1
 | k+1=>2*p2 k
def p4:Nat→Int
 | 0=>1
 | k+1=>4*p4 k
theorem p4_pos (k:Nat):1≤p4 k:=by
 induction k with
 | zero=>simp [p4]
 | succ k ih=>simp only [p4];omega
def hpl:Nat→Int→Int→Int
 | 0,_,_=>0
 | k+1,x,y=>if x<p2 k then (if y<p2 k then hpl k y x else p4 k+hpl k x (y-p2 k)) else if p2 k≤y then 2*p4 k+hpl k (x-p2 k) (y-p2 k) else 3*p4 k+hpl k (p2 k-1-y) (p2 k-1-(x-p2 k))
def bas:Nat→Int
 | 0=>0
 | k+1=>bas k+p4 k
theorem bas_three (k:Nat):3*bas k+1=p4 k:=by
 induction k with
 | zero=>rfl
 | succ k ih=>simp only [bas,p4];omega
theorem bas_mono (a b:Nat) (h:a≤b):bas a≤bas b:=by
 induction h with
 | refl=>exact Int.le_refl _
 | step h ih=>rename_i m;simp only [bas];have:=p4_pos m;omega
theorem bas_nn (k:Nat):0≤bas k:=bas_mono 0 k (Nat.zero_le _)
theorem bas_all:bas 27=6004799503160661:=by decide
def zof:Nat→Int→Int
 | 0,_=>-1
 | k+1,d=>if bas k≤d∧d<bas (k+1) then k else zof k d
theorem zof_at (n k:Nat) (d:Int) (h:k<n) (h0:bas k≤d) (h1:d<bas (k+1)):zof n d=k:=by
 induction n with
 | zero=>omega
 | succ n ih =>
  rw [zof]
  by_cases e:k=n
  ·subst e;rw [if_pos ⟨h0,h1⟩]
  ·rw [if_neg,ih (by omega)]
   intro hh
   have:=bas_mono (k+1) n (by omega)
   omega
theorem zof_no (n:Nat) (d:Int) (h:¬ (0≤d∧d<bas n)):zof n d=-1:=by
 induction n with
 | zero=>rfl
 | succ n ih =>
  have:=p4_pos n
  have:=bas_nn n
  rw [zof,if_neg,ih]
  ·simp only [bas] at h;omega
  ·simp only [bas] at h ⊢;omega
theorem zof_ex (n:Nat) (d:Int) (h0:0≤d) (h1:d<bas n):∃ k,k<n∧bas k≤d∧d<bas (k+1)∧zof n d=k:=by
 induction n with
 | zero=>simp only [bas] at h1;omega
 | succ n ih =>
  by_cases h:d<bas n
  ·obtain ⟨k,a,b,c,e⟩:=ih h
   exact ⟨k,by omega,b,c,zof_at (n+1) k d (by omega) b c⟩
  ·exact ⟨n,by omega,by omega,h1,zof_at (n+1) n d (by omega) (by omega) h1⟩
end Go.Proofs.YtdnmgpcfgcidbaaGreatDoor
namespace Go.Proofs.YtdnmgpcfgcidbaaGreatDoor
set_option linter.unusedVariables false
set_option linter.unusedSimpArgs false
open Go.RowKit
set_option maxRecDepth 20000
theorem bas_succ (k:Nat):bas (k+1)=bas k+p4 k:=rfl
def zofV (d:Int):Int:=zof 27 d
theorem zof_yes (d:Int) (h0:0≤d) (h1:d<6004799503160661):∃ k:Nat,k≤26∧bas k≤d∧d<bas k+p4 k∧zofV d=k:=by
 obtain ⟨k,a,b,c,e⟩:=zof_ex 27 d h0 (by rw [bas_all];exact h1)
 exact ⟨k,by omega,b,by rw [← bas_succ];exact c,e⟩
theorem zofV_no (d:Int) (h:¬ d<6004799503160661):zofV d=-1:=zof_no 27 d (by rw [bas_all];omega)
theorem two4 (k:Nat):((2 ^ (2*k):Nat):Int)=p4 k:=by
 induction k with
 | zero=>rfl
 | succ k ih=>rw [show 2*(k+1)=2*k+2 from by omega,Nat.pow_add,p4,← ih];omega
theorem len_zoom (X:Int) (n k:Nat) (h:Len n X) (h0:p4 k≤X) (h1:X<4*p4 k):n=2*k+1∨n=2*k+2:=by
 obtain ⟨h64,h⟩:=h
 have hp:=p4_pos k
 have e:=two4 k
 have e2:=two4 (k+1)
 rw [p4] at e2
 rcases h with ⟨rfl,h⟩|⟨hn,ha,hb⟩
 ·omega
 have g1:2*k<n:=by
  rcases Nat.lt_or_ge (2*k) n with hc|hc
  ·exact hc
  ·have:=Nat.pow_le_pow_right (by omega:0<2) hc
   omega
 have g2:n-1<2*(k+1):=by
  rcases Nat.lt_or_ge (n-1) (2*(k+1)) with hc|hc
  ·exact hc
  ·have:=Nat.pow_le_pow_right (by omega:0<2) hc
   omega
 omega
theorem zoom_any (d:Int) (d0:0≤d) (w:World):Calls Tryz.prog 153 #[.int .u64 d] w fun e w'=>e=.returned (.int .i64 (zofV d))∧w=w':=by
 by_cases h:d<6004799503160661
 ·obtain ⟨k,hk,a,b,e⟩:=zof_yes d d0 h
  rw [e]
  have h3:=bas_three k
  have hl:=fun n hn=>len_zoom (3*d+1) n k hn (by omega) (by omega)
  have HL:=Lib.hid hl
  clear hl h3 a b e
  go_enter Tryz.func153,Tryz.ntmps153
  go_wp2_with fail
  refine (len64_any _ _ (by omega) (by omega)).mono ?_
  rintro e w' ⟨⟨n,rfl,hn⟩,rfl⟩
  have hs:=HL.out n hn
  clear hn HL
  go_wp2
  go_ret
  refine ⟨?_,rfl⟩
  have:n=2*k+1∨n=2*k+2:=hs
  rcases this with rfl|rfl
  ·show Ending.returned (.int .i64 _)=.returned (.int .i64 _)
   congr 2
   omega
  ·show Ending.returned (.int .i64 _)=.returned (.int .i64 _)
   congr 2
   omega
 ·rw [zofV_no d h]
  go_enter Tryz.func153,Tryz.ntmps153
  go_wp2_with fail
  go_ret
  exact ⟨rfl,rfl⟩
def zlo:List It→Int
 | []=>0
 | t :: _=>zofV (t.1:Int)
def zhi (l:List It):Int:=match l.getLast? with|none=>0|some t=>zofV (t.1:Int)
end Go.Proofs.YtdnmgpcfgcidbaaGreatDoor
namespace Go.Proofs.YtdnmgpcfgcidbaaGreatDoor
set_option linter.unusedVariables false
set_option linter.unusedSimpArgs false
theorem cat_found (l:List ByteArray) (s:ByteArray):∀ n k,findF s l n=some k→(catF l).extract (k-n) (k-n+s.size)=s:=by
 induction l with
 | nil=>intro n k h;simp [findF] at h
 | cons t l ih =>
  intro n k h
  rw [findF] at h
  rw [catF]
  by_cases e:t=s
  ·rw [if_pos e] at h;injection h with h;subst e;subst h
   rw [Nat.sub_self,Nat.zero_add]
   apply ByteArray.ext
   simp
  ·rw [if_neg e] at h
   have hle:=(findF_le s l _ _ h).1
   have h2:=ih _ _ h
   rw [show k-n=t.size+(k-(n+t.size)) by omega]
   conv=>rhs;rw [← h2]
   apply ByteArray.ext
   simp [Nat.add_assoc]
end Go.Proofs.YtdnmgpcfgcidbaaGreatDoor
namespace Go.Proofs.YtdnmgpcfgcidbaaGreatDoor
set_option linter.unusedVariables false
set_option linter.unusedSimpArgs false
set_option maxRecDepth 20000
theorem snoc_ind {α:Type} {M:List α→Prop} (h0:M []) (hs:∀ l a,M l→M (l++[a])) (l:List α):M l:=by
 rw [← List.reverse_reverse l]
 induction l.reverse with
 | nil=>exact h0
 | cons a r ih=>rw [List.reverse_cons];exact hs _ _ ih
def oneE (a b:En):Bool:=decide (b.id=laN a+1∧a.off=b.off∧a.ln=b.ln)
def addE (rows:List En) (e:En):List En:=match rows.getLast? with
 | some a=>if oneE a e then rows.dropLast++[{ a with rn:=a.rn+1 }] else rows++[e]
 | none=>rows++[e]
theorem addE_nil (e:En):addE [] e=[e]:=rfl
theorem addE_concat (r:List En) (a e:En):addE (r++[a]) e=if oneE a e then r++[{ a with rn:=a.rn+1 }] else r++[a]++[e]:=by
 unfold addE
 rw [List.getLast?_concat]
 simp only [List.dropLast_concat]
def newE (ts:List ByteArray) (t:It):En:=⟨t.1,offA ts t.2,lenA ts t.2,1⟩
def stepR (p:List En × List ByteArray) (t:It):List En × List ByteArray:=(addE p.1 (newE p.2 t),newL p.2 t.2)
def rowsS (L:List It):List En × List ByteArray:=L.foldl stepR ([],[])
theorem rowsS_snoc (L:List It) (t:It):rowsS (L++[t])=stepR (rowsS L) t:=by unfold rowsS;rw [List.foldl_append];rfl
theorem rowsS_step (L:List It) (k:Nat) (t:It) (h:L[k]?=some t):rowsS (L.take (k+1))=stepR (rowsS (L.take k)) t:=by rw [itake_at L k t h,rowsS_snoc]
def txN (e:En) (d:ByteArray):ByteArray:=d.extract e.off.toNat (e.off.toNat+e.ln.toNat)
def runN (e:En) (d:ByteArray):List It:=(List.range e.rn.toNat).map (fun k=>(e.id.toNat+k,txN e d))
def expN (l:List En) (d:ByteArray):List It:=l.flatMap (fun e=>runN e d)
theorem expN_append (a b:List En) (d:ByteArray):expN (a++b) d=expN a d++expN b d:=by simp [expN]
theorem expN_one (e:En) (d:ByteArray):expN [e] d=runN e d:=by simp [expN]
theorem runN_len (e:En) (d:ByteArray):(runN e d).length=e.rn.toNat:=by simp [runN]
theorem mem_runN (e:En) (d:ByteArray) (t:It):t ∈ runN e d↔∃ k,k<e.rn.toNat∧t=(e.id.toNat+k,txN e d):=by
 unfold runN
 rw [List.mem_map]
 constructor
 ·rintro ⟨k,hk,rfl⟩;exact ⟨k,List.mem_range.1 hk,rfl⟩
 ·rintro ⟨k,hk,rfl⟩;exact ⟨k,List.mem_range.2 hk,rfl⟩
def NoOne (l:List En):Prop:=∀ i a b,l[i]?=some a→l[i+1]?=some b→oneE a b=false
theorem noOne_nil:NoOne []:=fun i a b h=>by simp at h
theorem noOne_snoc {l:List En} {e:En} (h:NoOne l) (hl:∀ r a,l=r++[a]→oneE a e=false):NoOne (l++[e]):=by
 intro i a b ha hb
 have hi:i+1<(l++[e]).length:=(List.getElem?_eq_some_iff.1 hb).1
 rw [List.length_append,List.length_singleton] at hi
 rw [List.getElem?_append_left (by omega)] at ha
 rcases Nat.lt_or_ge (i+1) l.length with h1|h1
 ·rw [List.getElem?_append_left h1] at hb
  exact h i a b ha hb
 ·have hb':b=e:=by
   rw [List.getElem?_append_right h1,show i+1-l.length=0 by omega] at hb
   simpa using hb.symm
  subst hb'
  rcases List.eq_nil_or_concat l with rfl|⟨r,x,rfl⟩
  ·simp at ha
  ·rw [List.concat_eq_append] at *
   refine hl r a ?_
   have:i=r.length:=by simp at hi h1;omega
   subst this
   simp at ha
   rw [ha]
theorem noOne_left {l:List En} {e:En} (h:NoOne (l++[e])):NoOne l:=by
 intro i a b ha hb
 have h1:=(List.getElem?_eq_some_iff.1 ha).1
 have h2:=(List.getElem?_eq_some_iff.1 hb).1
 exact h i a b (by rw [List.getElem?_append_left h1];exact ha) (by rw [List.getElem?_append_left h2];exact hb)
theorem noOne_last {r:List En} {a b:En} (h:NoOne (r++[a])) (hb:b.id=a.id∧b.off=a.off∧b.ln=a.ln):NoOne (r++[b]):=by
 refine noOne_snoc (noOne_left h) (fun r' x hx=>?_)
 have h1:=h r'.length x a (by rw [hx];simp) (by rw [hx];simp)
 unfold oneE at h1 ⊢
 rw [hb.1,hb.2.1,hb.2.2]
 exact h1
structure OkE (e:En) (ts:List ByteArray):Prop where
 may:MayN e
 ck:ckN e=0
 run:1≤e.rn
 txt:∃ s,findF s ts 0=some e.off.toNat∧e.ln=(s.size:Int)
theorem ok_text {e:En} {ts:List ByteArray} {s:ByteArray} (h:findF s ts 0=some e.off.toNat) (hl:e.ln=(s.size:Int)):txN e (catF ts)=s:=by
 have h1:=cat_found ts s 0 _ h
 unfold txN
 rw [hl,Int.toNat_natCast]
 exact h1
theorem find_grow (ts:List ByteArray) (s t:ByteArray) (k:Nat) (h:findF s ts 0=some k):findF s (newL ts t) 0=some k:=by
 unfold newL
 split
 ·rw [findF_append,h]
 ·exact h
theorem OkE.grow {e:En} {ts:List ByteArray} (h:OkE e ts) (t:ByteArray):OkE e (newL ts t)∧txN e (catF (newL ts t))=txN e (catF ts):=by
 obtain ⟨s,h1,h2⟩:=h.txt
 have h3:=find_grow ts s t _ h1
 exact ⟨⟨h.may,h.ck,h.run,s,h3,h2⟩,by rw [ok_text h3 h2,ok_text h1 h2]⟩
theorem run_grow {e:En} {ts:List ByteArray} (h:OkE e ts) (t:ByteArray):runN e (catF (newL ts t))=runN e (catF ts):=by
 unfold runN
 rw [(h.grow t).2]
theorem exp_grow {l:List En} {ts:List ByteArray} (h:∀ e ∈ l,OkE e ts) (t:ByteArray):expN l (catF (newL ts t))=expN l (catF ts):=by
 unfold expN
 induction l with
 | nil=>rfl
 | cons e l ih=>rw [List.flatMap_cons,List.flatMap_cons,run_grow (h e (by simp)) t,ih (fun x hx=>h x (by simp [hx]))]
theorem new_place {ts:List ByteArray} {s:ByteArray} (h0:0<s.size) (h1:s.size≤65536) (hl:ts.length<2048):lenA ts s=s.size∧findF s (newL ts s) 0=some (offA ts s):=by
 have he:eV ts s=0:=(eV_iff ts s).2 ⟨h0,h1,.inr hl⟩
 refine ⟨by unfold lenA;rw [if_pos he],?_⟩
 by_cases hm:s ∈ ts
 ·have hn:isNew ts s=false:=by
   cases hh:isNew ts s with
   | false=>rfl
   | true=>exact absurd hm ((isNew_iff ts s).1 hh).2.2.1
  unfold newL offA
  rw [hn,if_neg (by simp),if_neg (by simp),if_pos he]
  obtain ⟨k,hk⟩:=Option.isSome_iff_exists.1 ((findF_mem s ts 0).2 hm)
  rw [hk]
  rfl
 ·have hn:isNew ts s=true:=(isNew_iff ts s).2 ⟨h0,h1,hm,hl⟩
  unfold newL offA
  rw [hn,if_pos rfl,if_pos rfl,findF_append,(findF_none s ts 0).2 hm]
  simp [findF]
theorem mem_newL (ts:List ByteArray) (s x:ByteArray) (h0:0<s.size) (h1:s.size≤65536) (hl:ts.length<2048):x ∈ newL ts s↔x ∈ ts∨x=s:=by
 unfold newL
 split
 ·simp
 ·rename_i hn
  constructor
  ·exact .inl
  ·rintro (h|rfl)
   ·exact h
   ·have:x ∈ ts:=Classical.byContradiction fun hm=>hn ((isNew_iff ts x).2 ⟨h0,h1,hm,hl⟩)
    exact this
end Go.Proofs.YtdnmgpcfgcidbaaGreatDoor
