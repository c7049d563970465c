/- dJd dLb dLc dNk dNn dPl dPm dNo dNc dPb dPp dNq dPc dPd. -/
import Derived.Test.YtdnmgpcfgcidbaaGreatDoorRt
import Derived.Test.YtdnmgpcfgcidbaaGreatDoorTd2
namespace Go.Proofs.YtdnmgpcfgcidbaaGreatDoor
set_option linter.unusedVariables false
set_option linter.unusedSimpArgs false
set_option maxRecDepth 20000
theorem takeP_in (l:List Int) (p:Nat) (t:List Int) (h:l.drop p=34 :: t) (hp:p<l.length):takeP l p=takeG l.length t (p+1) []:=by
 unfold takeP
 have h1:l.getD p 0=34:=by
  rw[List.getD_eq_getElem?_getD,List.getElem?_eq_getElem hp]
  rw[List.drop_eq_getElem_cons hp] at h
  injection h
 have h2:l.drop (p+1)=t:=by
  rw[List.drop_eq_getElem_cons hp] at h
  injection h
 rw[if_neg (by omega),if_neg (by omega),Int.toNat_natCast,if_neg (by rw[h1];simp),h2]
theorem takeP_zero (l:List Int):takeP l 0=match l with
  | []=>([],0,3)
  | b :: t=>if b=34 then takeG (t.length+1) t 1 [] else ([],0,4):=by
 cases l with
 | nil=>rfl
 | cons b t =>
  by_cases h:b=34
  ·subst h
   have:=takeP_in (34 :: t) 0 t rfl (by simp)
   rw[show ((0:Nat):Int)=0 from rfl] at this
   rw[this]
   simp
  ·unfold takeP
   rw[if_neg (by simp;omega),if_neg (by simp;omega)]
   simp[h]
theorem take_badDd (l:List Int) (h:(takeP l 0).2.2≠0):(takeP l 0).1=[]∧(takeP l 0).2.1≤l.length∧((takeP l 0).2.2=3→(takeP l 0).2.1=l.length):=by
 rw[takeP_zero] at h ⊢
 cases l with
 | nil=>exact⟨rfl,Nat.le_refl _,fun _=>rfl⟩
 | cons b t =>
  simp only at h ⊢
  by_cases hb:b=34
  ·rw[if_pos hb] at h ⊢
   obtain⟨a,c,d⟩:=takeG_bad _ t 1 [] (by omega) h
   refine⟨a,by rw[List.length_cons];omega,fun e=>?_⟩
   have:=d e
   rw[List.length_cons]
   omega
  ·rw[if_neg hb]
   exact⟨rfl,Nat.zero_le _,fun e=>by cases e⟩
theorem take_good (l:List Int) (h:(takeP l 0).2.2=0):(∃ k,Val (takeP l 0).1 k)∧2≤(takeP l 0).2.1∧(takeP l 0).2.1≤l.length∧(∀ x,takeP (l.take (takeP l 0).2.1++x) 0=takeP l 0) ∧
  ∀ j,j<(takeP l 0).2.1→(takeP (l.take j) 0).1=[]∧((takeP (l.take j) 0).2.2=3∧(takeP (l.take j) 0).2.1=j∨(takeP (l.take j) 0).2.2=4):=by
 have hz:=takeP_zero l
 cases l with
 | nil=>rw[hz] at h;cases h
 | cons b t =>
  simp only at hz
  by_cases hb:b=34
  ·rw[if_pos hb] at hz
   subst hb
   rw[hz] at h ⊢
   obtain⟨n,u,k,e1,e2,e3,e4,e5,e6⟩:=takeG_good _ t 1 [] (by omega) h
   rw[e1]
   simp only[List.nil_append] at e5 ⊢
   refine⟨⟨k,e4⟩,by omega,by rw[List.length_cons];omega,fun x=>?_,fun j hj=>?_⟩
   ·rw[show 1+n=n+1 by omega,List.take_succ_cons,List.cons_append,takeP_zero]
    simp only
    rw[if_pos trivial,e5 x _ (by omega)]
    congr 2
    omega
   ·cases j with
    | zero=>rw[List.take_zero,takeP_zero];exact⟨rfl,.inl ⟨rfl,rfl⟩⟩
    | succ j =>
     rw[List.take_succ_cons,takeP_zero]
     simp only
     rw[if_pos trivial]
     have:=e6 j ((t.take j).length+1) (by omega) (by omega)
     rw[show 1+j=j+1 by omega] at this
     exact this
  ·rw[if_neg hb] at hz
   rw[hz] at h
   cases h
theorem isD_iff (b:Int):isD b=true↔48≤b∧b≤57:=by simp[isD]
theorem valD_nn (a:List Int) (h:∀ b ∈ a,isD b=true):0≤valD a:=by
 suffices H:∀ (a:List Int) (n:Int),0≤n→(∀ b ∈ a,isD b=true)→0≤a.foldl (fun n c=>10*n+(c - 48)) n from H a 0 (Int.le_refl 0) h
 intro a
 induction a with
 | nil=>intro n hn _;exact hn
 | cons c a ih =>
  intro n hn h
  rw[List.foldl_cons]
  have:=(isD_iff c).1 (h c (.head _))
  exact ih _ (by omega) (fun b hb=>h b (.tail _ hb))
theorem spanN_le:∀ l:List Int,spanN l≤l.length
 | []=>Nat.le_refl _
 | b :: t=>by
  rw[spanN,List.length_cons]
  have:=spanN_le t
  split <;> omega
theorem blankN_le:∀ l:List Int,blankN l≤l.length
 | []=>Nat.le_refl _
 | b :: t=>by
  rw[blankN,List.length_cons]
  have:=blankN_le t
  split <;> omega
theorem numP_good (l:List Int) (h:(numP l).2.2=0):∃ n,(numP l).1=.num n∧n≤maxI∧-maxI≤n∧(numP l).2.1=spanN l∧1≤spanN l:=by
 unfold numP at h ⊢
 by_cases hb:badD (l.take (spanN l))
 ·rw[if_pos hb] at h;cases h
 rw[if_neg hb] at h ⊢
 by_cases hm:maxI<valD (unsgn (l.take (spanN l)))
 ·rw[if_pos hm] at h;cases h
 rw[if_neg hm]
 have ha:(unsgn (l.take (spanN l))).all isD=true:=by
  by_cases ha:(unsgn (l.take (spanN l))).all isD=true
  ·exact ha
  ·exact absurd (.inr (.inr ha)) hb
 have h0:=valD_nn _ (List.all_eq_true.1 ha)
 refine⟨_,rfl,?_,?_,rfl,?_⟩
 ·split <;> simp only[maxI] at hm ⊢ <;> omega
 ·split <;> simp only[maxI] at hm ⊢ <;> omega
 ·rcases Nat.eq_zero_or_pos (spanN l) with e|e
  ·refine absurd (.inl ?_) hb
   rw[e]
   rfl
  ·exact e
theorem numP_le (l:List Int):(numP l).2.1≤l.length:=by
 unfold numP
 split
 ·exact Nat.zero_le _
 split
 ·exact Nat.zero_le _
 ·exact spanN_le l
theorem textP_is (l:List Int):textP l=takeP l 0:=by rw[takeP_zero];cases l <;> rfl
theorem textP_le (l:List Int):(textP l).2.1≤l.length:=by
 rw[textP_is]
 by_cases h:(takeP l 0).2.2=0
 ·exact(take_good l h).2.2.1
 ·exact(take_badDd l h).2.1
theorem textP_one (l:List Int) (h:(textP l).2.2=0):2≤(textP l).2.1∧0≤countP (textP l).1:=by
 rw[textP_is] at h ⊢
 obtain⟨⟨k,hv⟩,h2,_⟩:=take_good l h
 exact⟨h2,by rw[count_is hv];omega⟩
theorem wordG_le:∀ (w l:List Int) (i:Nat),(wordG w l i).1≤i+l.length∧((wordG w l i).2=0→(wordG w l i).1=i+w.length)
 | [],l,i=>⟨Nat.le_add_right _ _,fun _=>rfl⟩
 | _ :: _,[],i=>⟨Nat.le_add_right _ _,fun h=>by cases h⟩
 | c :: w,b :: t,i=>by
  rw[wordG]
  split
  ·obtain⟨a,d⟩:=wordG_le w t (i+1)
   exact⟨by rw[List.length_cons];omega,fun h=>by rw[d h,List.length_cons];omega⟩
  ·exact⟨Nat.zero_le _,fun h=>by cases h⟩
theorem wordP_le (w:List Int) (v:Js) (l:List Int) (hw:1≤w.length):(wordP w v l).2.1≤l.length∧((wordP w v l).2.2=0→1≤(wordP w v l).2.1∧(wordP w v l).1=v):=by
 obtain⟨a,d⟩:=wordG_le w l 0
 unfold wordP
 split
 ·rename_i h
  exact⟨by simpa using a,fun _=>⟨by rw[d h];omega,rfl⟩⟩
 ·rename_i h
  exact⟨by simpa using a,fun h'=>absurd h' h⟩
theorem pairP_le (ob:Bool) (names:List (List Int)) (l:List Int):(pairP ob names l).2.1≤l.length:=by
 unfold pairP
 by_cases ho:ob=false
 ·rw[if_pos ho];exact Nat.zero_le _
 rw[if_neg ho]
 have hl:=textP_le l
 rcases ht:textP l with ⟨name,n,e⟩
 rw[ht] at hl
 simp only at hl ⊢
 have hb:=blankN_le (l.drop n)
 have hb2:=blankN_le (l.drop (n+blankN (l.drop n)+1))
 rw[List.length_drop] at hb hb2
 split
 ·exact hl
 split
 ·exact Nat.zero_le _
 split
 ·simp only;omega
 rename_i h3
 have h3:n+blankN (l.drop n)<l.length:=by
  have:=mt List.drop_eq_nil_iff.2 h3
  omega
 split <;> simp only <;> omega
def restP (f d:Nat) (ob:Bool) (fin:Int) (names:List (List Int)) (k:Nat) (l name:List Int) (v:Js) (m:Nat):Jl × Nat × Int :=
 if l.drop m=[] then (.nil,m,3) else if head0 (l.drop m)=fin then (.cons name v .nil,m+1,0) else if head0 (l.drop m)≠44 then (.nil,m,4) else
 if (itemsP f d ob fin (names++[name]) (k+1) (l.drop (m+1+blankN (l.drop (m+1))))).2.2≠0 then
  (.nil,m+1+blankN (l.drop (m+1))+(itemsP f d ob fin (names++[name]) (k+1) (l.drop (m+1+blankN (l.drop (m+1))))).2.1,(itemsP f d ob fin (names++[name]) (k+1) (l.drop (m+1+blankN (l.drop (m+1))))).2.2)
 else (.cons name v (itemsP f d ob fin (names++[name]) (k+1) (l.drop (m+1+blankN (l.drop (m+1))))).1,m+1+blankN (l.drop (m+1))+(itemsP f d ob fin (names++[name]) (k+1) (l.drop (m+1+blankN (l.drop (m+1))))).2.1,0)
theorem itemsP_step (f d:Nat) (ob:Bool) (fin:Int) (names:List (List Int)) (k:Nat) (l:List Int):itemsP (f+1) d ob fin names k l =
  if l≠[]∧64≤k then (.nil,0,21) else if (pairP ob names l).2.2≠0 then (.nil,(pairP ob names l).2.1,(pairP ob names l).2.2) else
  if (valueP f (d+1) (l.drop (pairP ob names l).2.1)).2.2≠0 then (.nil,(pairP ob names l).2.1+(valueP f (d+1) (l.drop (pairP ob names l).2.1)).2.1,(valueP f (d+1) (l.drop (pairP ob names l).2.1)).2.2)
  else restP f d ob fin names k l (pairP ob names l).1 (valueP f (d+1) (l.drop (pairP ob names l).2.1)).1 ((pairP ob names l).2.1+(valueP f (d+1) (l.drop (pairP ob names l).2.1)).2.1+blankN (l.drop ((pairP ob names l).2.1+(valueP f (d+1) (l.drop (pairP ob names l).2.1)).2.1))):=by
 rw[itemsP]
 rfl
theorem valueP_box (f d:Nat) (b:Int) (t:List Int) (h:b=91∨b=123):valueP (f+1) d (b :: t) =
  if 4<d then (.nul,0,20) else if head0 (t.drop (blankN t))=b+2 then (if b=91 then .arr .nil else .obj .nil,blankN t+2,0)
   else if (itemsP f d (decide (b=123)) (b+2) [] 0 (t.drop (blankN t))).2.2≠0 then (.nul,blankN t+1+(itemsP f d (decide (b=123)) (b+2) [] 0 (t.drop (blankN t))).2.1,(itemsP f d (decide (b=123)) (b+2) [] 0 (t.drop (blankN t))).2.2)
   else (if b=91 then .arr (itemsP f d (decide (b=123)) (b+2) [] 0 (t.drop (blankN t))).1 else .obj (itemsP f d (decide (b=123)) (b+2) [] 0 (t.drop (blankN t))).1,blankN t+1+(itemsP f d (decide (b=123)) (b+2) [] 0 (t.drop (blankN t))).2.1,0):=by
 rw[valueP,if_neg (by omega),if_neg (by omega),if_neg (by omega),if_neg (by omega),if_pos h]
def flatPDd (l:List Int):Js × Nat × Int :=
 match l with
 | []=>(.nul,0,3)
 | b :: t =>
  if b=110 then wordP [110,117,108,108] .nul (b :: t)
  else if b=102 then wordP [102,97,108,115,101] (.bool false) (b :: t)
  else if b=116 then wordP [116,114,117,101] (.bool true) (b :: t)
  else if b=34 then (if (textP (b :: t)).2.2=0 then (.str (textP (b :: t)).1,(textP (b :: t)).2.1,0) else (.nul,(textP (b :: t)).2.1,(textP (b :: t)).2.2))
  else if b=45∨isD b=true then numP (b :: t)
  else (.nul,0,4)
theorem valueP_flat (f d:Nat) (l:List Int) (h:head0 l≠91∧head0 l≠123):valueP (f+1) d l=flatPDd l:=by
 cases l with
 | nil=>rfl
 | cons b t =>
  have h1:¬ (b=91∨b=123):=by rintro(e|e);exact h.1 e;exact h.2 e
  rw[valueP,flatPDd]
  repeat' split
  all_goals first|rfl|exact absurd ‹b=91∨b=123› h1
theorem flatP_le (l:List Int):(flatPDd l).2.1≤l.length∧((flatPDd l).2.2=0→1≤(flatPDd l).2.1):=by
 cases l with
 | nil=>exact⟨Nat.le_refl _,fun h=>by cases h⟩
 | cons b t =>
  rw[flatPDd]
  by_cases h1:b=110
  ·rw[if_pos h1]
   obtain⟨a,c⟩:=wordP_le [110,117,108,108] .nul (b :: t) (by simp)
   exact⟨a,fun h=>(c h).1⟩
  rw[if_neg h1]
  by_cases h2:b=102
  ·rw[if_pos h2]
   obtain⟨a,c⟩:=wordP_le [102,97,108,115,101] (.bool false) (b :: t) (by simp)
   exact⟨a,fun h=>(c h).1⟩
  rw[if_neg h2]
  by_cases h3:b=116
  ·rw[if_pos h3]
   obtain⟨a,c⟩:=wordP_le [116,114,117,101] (.bool true) (b :: t) (by simp)
   exact⟨a,fun h=>(c h).1⟩
  rw[if_neg h3]
  by_cases h4:b=34
  ·rw[if_pos h4]
   have ht:=textP_le (b :: t)
   have ho:=textP_one (b :: t)
   split
   ·rename_i h;exact⟨ht,fun _=>by have:=ho h;simp only;omega⟩
   ·rename_i h;exact⟨ht,fun h'=>absurd h' h⟩
  rw[if_neg h4]
  by_cases h5:b=45∨isD b=true
  ·rw[if_pos h5]
   refine⟨numP_le _,fun h=>?_⟩
   obtain⟨n,e1,e2,e3,e4,e5⟩:=numP_good _ h
   omega
  rw[if_neg h5]
  exact⟨Nat.zero_le _,fun h=>by cases h⟩
def InV (r:Js × Nat × Int) (n:Nat):Prop:=r.2.1≤n∧(r.2.2=0→1≤r.2.1)
def InL (r:Jl × Nat × Int) (n:Nat):Prop:=r.2.1≤n∧(r.2.2=0→1≤r.2.1)
theorem drop_pos {l:List Int} {m:Nat} (h:l.drop m≠[]):m<l.length:=by
 have:=mt List.drop_eq_nil_iff.2 h
 omega
theorem head0_len {l:List Int} {b:Int} (h:head0 l=b) (hb:b≠-1):1≤l.length:=by
 cases l with
 | nil=>exact absurd h.symm hb
 | cons c t=>simp
theorem within (f:Nat):(∀ d l,InV (valueP f d l) l.length)∧∀ d ob fin names k l,InL (itemsP f d ob fin names k l) l.length:=by
 induction f with
 | zero=>exact⟨fun d l=>⟨by rw[valueP];exact Nat.le_refl _,fun h=>by rw[valueP] at h;cases h⟩,fun d ob fin names k l=>⟨by rw[itemsP];exact Nat.le_refl _,fun h=>by rw[itemsP] at h;cases h⟩⟩
 | succ f ih =>
  refine⟨fun d l=>?_,fun d ob fin names k l=>?_⟩
  ·by_cases h:head0 l=91∨head0 l=123
   ·cases l with
    | nil=>rcases h with h|h <;> cases h
    | cons b t =>
     have h:b=91∨b=123:=h
     rw[valueP_box f d b t h]
     have hb:=blankN_le t
     have hi:=ih.2 d (decide (b=123)) (b+2) [] 0 (t.drop (blankN t))
     unfold InL at hi
     rw[List.length_drop] at hi
     unfold InV
     rw[List.length_cons]
     split
     ·exact⟨Nat.zero_le _,fun h=>by cases h⟩
     split
     ·rename_i h2
      have:=head0_len h2 (by omega)
      rw[List.length_drop] at this
      exact⟨by simp only;omega,fun _=>by simp only;omega⟩
     split
     ·rename_i h3;exact⟨by simp only;omega,fun h'=>absurd h' h3⟩
     ·exact⟨by simp only;omega,fun _=>by simp only;omega⟩
   ·rw[valueP_flat f d l ⟨fun e=>h (.inl e),fun e=>h (.inr e)⟩]
    exact flatP_le l
  ·rw[itemsP_step]
   have hp:=pairP_le ob names l
   generalize pairP ob names l=P at hp ⊢
   have hv:=ih.1 (d+1) (l.drop P.2.1)
   generalize valueP f (d+1) (l.drop P.2.1)=V at hv ⊢
   unfold InV at hv
   rw[List.length_drop] at hv
   have hm:=blankN_le (l.drop (P.2.1+V.2.1))
   rw[List.length_drop] at hm
   have hm:P.2.1+V.2.1+blankN (l.drop (P.2.1+V.2.1))≤l.length:=by omega
   generalize P.2.1+V.2.1+blankN (l.drop (P.2.1+V.2.1))=m at hm ⊢
   unfold InL
   split
   ·exact⟨Nat.zero_le _,fun h=>by cases h⟩
   split
   ·rename_i h;exact⟨hp,fun h'=>absurd h' h⟩
   split
   ·rename_i h;exact⟨by simp only;omega,fun h'=>absurd h' h⟩
   unfold restP
   split
   ·exact⟨hm,fun h=>by cases h⟩
   rename_i h4
   have h4:=drop_pos h4
   split
   ·exact⟨by simp only;omega,fun _=>by simp only;omega⟩
   split
   ·exact⟨hm,fun h=>by cases h⟩
   have hq:=blankN_le (l.drop (m+1))
   rw[List.length_drop] at hq
   have hq:m+1+blankN (l.drop (m+1))≤l.length:=by omega
   have hq1:1≤m+1+blankN (l.drop (m+1)):=by omega
   generalize m+1+blankN (l.drop (m+1))=q at hq hq1 ⊢
   have hi:=ih.2 d ob fin (names++[P.1]) (k+1) (l.drop q)
   unfold InL at hi
   rw[List.length_drop] at hi
   split
   ·rename_i h;exact⟨by simp only;omega,fun h'=>absurd h' h⟩
   ·exact⟨by simp only;omega,fun _=>by simp only;omega⟩
theorem enough (f:Nat):(∀ g d l,2*l.length+1≤f→2*l.length+1≤g→valueP f d l=valueP g d l)∧∀ g d ob fin names k l,2*l.length+2≤f→2*l.length+2≤g→itemsP f d ob fin names k l=itemsP g d ob fin names k l:=by
 induction f with
 | zero=>exact⟨fun g d l h=>by omega,fun g d ob fin names k l h=>by omega⟩
 | succ f ih =>
  refine⟨fun g d l hf hg=>?_,fun g d ob fin names k l hf hg=>?_⟩
  ·cases g with
   | zero=>omega
   | succ g =>
    by_cases h:head0 l=91∨head0 l=123
    ·cases l with
     | nil=>rcases h with h|h <;> cases h
     | cons b t =>
      have h:b=91∨b=123:=h
      rw[List.length_cons] at hf hg
      rw[valueP_box f d b t h,valueP_box g d b t h,ih.2 g d _ _ _ _ _ (by rw[List.length_drop];omega) (by rw[List.length_drop];omega)]
    ·have h:head0 l≠91∧head0 l≠123:=⟨fun e=>h (.inl e),fun e=>h (.inr e)⟩
     rw[valueP_flat f d l h,valueP_flat g d l h]
  ·cases g with
   | zero=>omega
   | succ g =>
    rw[itemsP_step,itemsP_step,ih.1 g (d+1) _ (by rw[List.length_drop];omega) (by rw[List.length_drop];omega)]
    unfold restP
    by_cases hl:l.length=0
    ·obtain rfl:l=[]:=List.eq_nil_of_length_eq_zero hl
     simp only[List.drop_nil,if_true]
    ·rw[ih.2 g d _ _ _ _ _ (by rw[List.length_drop];omega) (by rw[List.length_drop];omega)]
end Go.Proofs.YtdnmgpcfgcidbaaGreatDoor
namespace Go.Proofs.YtdnmgpcfgcidbaaGreatDoor
set_option linter.unusedVariables false
set_option linter.unusedSimpArgs false
open Go.RowKit
set_option maxRecDepth 20000
theorem heap_new17 (w:World) (o:Obj):(w.alloc o).heap[w.heap.size]?=some o:=by
 show (w.heap.push o)[w.heap.size]?=_
 simp
theorem heap_old17 {w:World} {o:Obj} {k:Nat} (h:k<w.heap.size):(w.alloc o).heap[k]?=w.heap[k]?:=((Below.refl w.heap.size w).alloc (Nat.le_refl _) o).block k h
theorem rappend_runDd (sz bytes:Nat) (W:World) (B:Nat) (TS E ty:TypeId) (z:Value) (ht:Tryz.prog.underlying TS=some (.slice E)) (hI:(Tryz.prog.info? E).map (fun i=>(i.zero,i.size,i.bytes))=some (some z,sz,bytes)) (hzs:z.cells.size=sz) (hsz:0<sz) (hby:bytes≤64)
  (v:Value) (n:Nat) (L:List Value) (hown:W.ownsRow B E sz v n L) (ad:Addr) (m c:Nat) (xs:List Value) (hxs:xs.length=m*sz) (hnews:∀ j u,xs[j]?=some u→W.cell? (ad.add j)=some u) (hone:∀ u ∈ xs,u.oneCell'=true) (hm:0<m) (hl:n+m≤1000000000) (hb:B≤W.heap.size) :
  ∃ v' w',(Builtin.append_ #[TS,TS] ty #[v,.slice (some ad) m c]).run Tryz.prog W=.ok v' w'∧w'.ownsRow B E sz v' (n+m) (L++xs)∧W.grownBy w' v.ownBlock∧(v'.ownBlock=v.ownBlock∨∃ g,v'.ownBlock=some g∧W.heap.size≤g):=by
 obtain⟨i0,hi,hz0,hz1,hz2⟩:=info_parts hI
 have hbb:(n+m)*bytes≤1000000000*64:=Nat.mul_le_mul hl hby
 obtain⟨v',w',hr,h2,h3,h4⟩:=run_append_own (P:=Tryz.prog) W B TS ty E i0 _ sz bytes ht hi hz0 hz1 hz2 hzs hsz v n L hown ad m c xs hxs hnews hone (by unfold maxLen;omega) (by omega) hb
 refine⟨v',w',hr,h2,h3,?_⟩
 rcases hown.2 with ⟨rfl,hn⟩|⟨g,cap,cur,rfl,hbg,hg,hnc,hcm,hcs,htake⟩
 ·obtain⟨_,_,hr2,h22,_,_⟩:=run_append_own (P:=Tryz.prog) W W.heap.size TS ty E i0 _ sz bytes ht hi hz0 hz1 hz2 hzs hsz (.slice none 0 0) n L ⟨hown.1,.inl ⟨rfl,hn⟩⟩ ad m c xs hxs hnews hone (by unfold maxLen;omega) (by omega) (Nat.le_refl _)
  rw[hr] at hr2
  injection hr2 with e1 e2
  subst e1 e2
  rcases h22.2 with ⟨rfl,_⟩|⟨g,cap,cur,rfl,hg,_⟩
  ·exact .inl rfl
  ·exact .inr ⟨g,rfl,hg⟩
 ·have hL:L.length=n*i0.size:=by rw[hz1];exact hown.1
  by_cases hroom:n+m≤cap
  ·have hmul:(n+m)*sz≤cap*sz:=Nat.mul_le_mul_right _ hroom
   have hr2:=run_append_room (P:=Tryz.prog) W TS ty E i0 ht hi g n cap cur hg ad m c xs (by rw[hz1];exact hxs) hnews hone hroom (by rw[hz1,hxs,hcs,← Nat.add_mul];exact hmul)
   rw[hr] at hr2
   injection hr2 with e1 e2
   rw[e1]
   exact .inl rfl
  ·have hr2:=run_append_grow (P:=Tryz.prog) W TS ty E i0 _ ht hi hz0 ⟨g,0,none⟩ n cap L hL (World.ownsRow.cells hown rfl) ad m c xs (by rw[hz1];exact hxs) hnews (by omega) (by omega) (growslice_fits (by omega) (by rw[hz2];omega))
   rw[hr] at hr2
   injection hr2 with e1 e2
   rw[e1]
   exact .inr ⟨_,rfl,Nat.le_refl _⟩
theorem infoAny:(Tryz.prog.info? 20).map (fun i=>(i.zero,i.size,i.bytes))=some (some .nilIface,1,16):=by kernel_rfl
theorem any_one {S:Nat→Prop} {w:World} {v:Js} {x:Value} (h:AnyAt S w v x):x.oneCell'=true:=by
 cases v <;> rw[AnyAt] at h
 ·rw[h];rfl
 ·rw[h];rfl
 ·rw[h];rfl
 ·obtain⟨t,rfl,_⟩:=h;rfl
 ·obtain⟨a,c,rfl,_⟩:=h;rfl
 ·obtain⟨a,c,rfl,_⟩:=h;rfl
 ·rw[h];rfl
abbrev Its:=List (List Int × Js)
def japp:Its→Jl→Jl
 | [],l=>l
 | (n,v) :: t,l=>.cons n v (japp t l)
theorem japp_more:∀ (vs:Its) (n:List Int) (v:Js) (l:Jl),japp (vs++[(n,v)]) l=japp vs (.cons n v l)
 | [],n,v,l=>rfl
 | (m,u) :: t,n,v,l=>by rw[List.cons_append,japp,japp_more t n v l,japp]
theorem japp_at:∀ (vs:Its) (j:Nat) (n:List Int) (v:Js),(japp vs .nil).at? j=some (n,v)→vs[j]?=some (n,v)
 | [],j,n,v,h=>by cases h
 | (m,u) :: t,0,n,v,h=>by simpa[japp,Jl.at?] using h
 | (m,u) :: t,j+1,n,v,h=>by simpa using japp_at t j n v h
theorem japp_len:∀ vs:Its,(japp vs .nil).length=vs.length
 | []=>rfl
 | (m,u) :: t=>by rw[japp,Jl.length,japp_len t];rfl
theorem japp_names:∀ vs:Its,(japp vs .nil).names=vs.map (·.1)
 | []=>rfl
 | (m,u) :: t=>by rw[japp,Jl.names,japp_names t];rfl
def szI (pr:Bool):Nat:=if pr then 2 else 1
def tyI (pr:Bool):TypeId:=if pr then 317 else 20
def slI (pr:Bool):TypeId:=if pr then 96 else 310
def ItemOk (pr:Bool) (S:Nat→Prop) (w:World) (p:List Int × Js) (cs:List Value):Prop :=
 ∃ x,AnyAt S w p.2 x∧if pr=true then ∃ t:ByteArray,cs=[.string t,x]∧bI t=p.1∧p.1.length≤5000 else cs=[x]
theorem ItemOk.len {pr:Bool} {S:Nat→Prop} {w:World} {p:List Int × Js} {cs:List Value} (h:ItemOk pr S w p cs):cs.length=szI pr:=by
 obtain⟨x,_,h⟩:=h
 cases pr
 ·simp at h;rw[h];rfl
 ·simp at h;obtain⟨t,rfl,_⟩:=h;rfl
theorem ItemOk.one {pr:Bool} {S:Nat→Prop} {w:World} {p:List Int × Js} {cs:List Value} (h:ItemOk pr S w p cs):∀ u ∈ cs,u.oneCell'=true:=by
 obtain⟨x,hx,h⟩:=h
 have:=any_one hx
 cases pr
 ·simp at h;subst h;intro u hu;obtain rfl:u=x:=by simpa using hu
  exact this
 ·simp at h;obtain⟨t,rfl,_⟩:=h;intro u hu
  rcases(by simpa using hu:u=.string t∨u=x) with rfl|rfl
  ·rfl
  ·exact this
theorem ItemOk.keep {pr:Bool} {S S':Nat→Prop} {w w':World} {p:List Int × Js} {cs:List Value} (hS:∀ b,S b→b<w.heap.size→S' b) (hs:w.heap.size≤w'.heap.size) (hk:∀ b,S b→b<w.heap.size→w'.heap[b]?=w.heap[b]?) (h:ItemOk pr S w p cs):ItemOk pr S' w' p cs:=by
 obtain⟨x,hx,h⟩:=h
 exact⟨x,AnyAt.keep hS hs hk _ _ hx,h⟩
def GrowG (pr:Bool) (B:Nat) (X:Nat→Prop) (vs:Its) (l:Value) (w:World):Prop :=
 ∃ xs:List Value,w.ownsRow B (tyI pr) (szI pr) l vs.length xs∧∀ j p,vs[j]?=some p→ItemOk pr (fun b=>X b∧l.ownBlock≠some b) w p ((xs.drop (j*szI pr)).take (szI pr))
theorem grow_lt {pr:Bool} {B:Nat} {X:Nat→Prop} {vs:Its} {l:Value} {w:World} (h:GrowG pr B X vs l w):∀ b,l.ownBlock=some b→B≤b∧b<w.heap.size:=by
 obtain⟨xs,h1,_⟩:=h
 exact World.ownsRow.lt h1
theorem grow_keep {pr:Bool} {B:Nat} {X:Nat→Prop} {vs:Its} {l:Value} {w w':World} (h:GrowG pr B X vs l w) (hs:w.heap.size≤w'.heap.size) (hr:∀ b,l.ownBlock=some b→w'.heap[b]?=w.heap[b]?) (hk:∀ b,X b→l.ownBlock≠some b→b<w.heap.size→w'.heap[b]?=w.heap[b]?):GrowG pr B X vs l w':=by
 obtain⟨xs,h1,h2⟩:=h
 refine⟨xs,?_,fun j p hp=>(h2 j p hp).keep (fun _ e _=>e) hs (fun b hb hlt=>hk b hb.1 hb.2 hlt)⟩
 obtain⟨g1,g2⟩:=h1
 refine⟨g1,?_⟩
 rcases g2 with g2|⟨g,cap,cur,hv,hg,hh,r⟩
 ·exact .inl g2
 ·refine .inr ⟨g,cap,cur,hv,hg,?_,r⟩
  rw[hr g (by rw[hv];rfl)];exact hh
theorem grow_below {pr:Bool} {B:Nat} {X:Nat→Prop} {vs:Its} {l:Value} {w w':World} (h:GrowG pr B X vs l w) (hb:Below w.heap.size w w'):GrowG pr B X vs l w' :=
 grow_keep h hb.size (fun b e=>hb.block b (grow_lt h b e).2) (fun b _ _ hlt=>hb.block b hlt)
theorem grow_more {pr:Bool} {B:Nat} {X:Nat→Prop} {vs:Its} {l:Value} {w:World} {p:List Int × Js} {cs:List Value} (ty:TypeId) (h:GrowG pr B X vs l w) (hi:vs.length≤1000000) (h0:B≤w.heap.size)
  (hx:ItemOk pr (fun b=>X b∧l.ownBlock≠some b) w p cs):∃ v' w',(Builtin.append_ #[slI pr,slI pr] ty #[l,.slice (some ⟨w.heap.size,0,none⟩) 1 1]).run Tryz.prog (w.alloc (.cells cs.toArray (tyI pr)))=.ok v' w'∧GrowG pr B X (vs++[p]) v' w' ∧
   (w.alloc (.cells cs.toArray (tyI pr))).grownBy w' l.ownBlock∧(v'.ownBlock=l.ownBlock∨∃ g,v'.ownBlock=some g∧w.heap.size≤g):=by
 obtain⟨xs,h1,h2⟩:=h
 have hlt:=World.ownsRow.lt h1
 have hxl:xs.length=vs.length*szI pr:=h1.1
 have hcl:=hx.len
 have hcell:∀ j u,cs[j]?=some u→(w.alloc (.cells cs.toArray (tyI pr))).cell? ((⟨w.heap.size,0,none⟩:Addr).add j)=some u:=by
  intro j u hu
  rw[Go.WideShapes.add_plain,World.cell?_alloc_mark]
  simpa using hu
 obtain⟨v',w',hr,g1,g2,g3⟩:∃ v' w',(Builtin.append_ #[slI pr,slI pr] ty #[l,.slice (some ⟨w.heap.size,0,none⟩) 1 1]).run Tryz.prog (w.alloc (.cells cs.toArray (tyI pr)))=.ok v' w'∧w'.ownsRow B (tyI pr) (szI pr) v' (vs.length+1) (xs++cs)∧(w.alloc (.cells cs.toArray (tyI pr))).grownBy w' l.ownBlock∧(v'.ownBlock=l.ownBlock∨∃ g,v'.ownBlock=some g∧(w.alloc (.cells cs.toArray (tyI pr))).heap.size≤g):=by
  cases pr
  ·exact rappend_runDd 1 16 (w.alloc (.cells cs.toArray 20)) B 310 20 ty _ Tryz.underlying310 infoAny rfl (by omega) (by omega) l vs.length xs (h1.alloc _) ⟨w.heap.size,0,none⟩ 1 1 cs (by rw[hcl];rfl) hcell hx.one (by omega) (by omega) (by simp;omega)
  ·exact rappend_runDd 2 32 (w.alloc (.cells cs.toArray 317)) B 96 317 ty (.agg #[.string { data:=#[] },.nilIface]) Tryz.underlying96 (by kernel_rfl) rfl (by omega) (by omega) l vs.length xs (h1.alloc _) ⟨w.heap.size,0,none⟩ 1 1 cs (by rw[hcl];rfl) hcell hx.one (by omega) (by omega) (by simp;omega)
 have hsz:(w.alloc (.cells cs.toArray (tyI pr))).heap.size=w.heap.size+1:=by simp
 have hS:∀ b,(X b∧l.ownBlock≠some b)→b<w.heap.size→X b∧v'.ownBlock≠some b:=by
  intro b hb hlt
  refine⟨hb.1,?_⟩
  rcases g3 with e|⟨g,e,hg⟩
  ·rw[e];exact hb.2
  ·rw[e]
   intro e'
   obtain rfl:g=b:=by simpa using e'
   omega
 have hk:∀ b,(X b∧l.ownBlock≠some b)→b<w.heap.size→w'.heap[b]?=w.heap[b]?:=fun b hb hlt =>
  (g2.block b (by omega) (fun e=>hb.2 e.symm)).trans (heap_old17 hlt)
 have hs:w.heap.size≤w'.heap.size:=by have:=g2.size;omega
 refine⟨v',w',hr,⟨xs++cs,by rw[List.length_append];exact g1,fun j q hq=>?_⟩,g2,?_⟩
 ·by_cases hj:j<vs.length
  ·rw[List.getElem?_append_left hj] at hq
   have hmul:(j+1)*szI pr≤vs.length*szI pr:=Nat.mul_le_mul_right _ hj
   rw[Nat.add_mul,Nat.one_mul] at hmul
   rw[List.drop_append_of_le_length (by omega),List.take_append_of_le_length (by rw[List.length_drop];omega)]
   exact(h2 j q hq).keep hS hs hk
  ·have hjl:=(List.getElem?_eq_some_iff.1 hq).1
   rw[List.length_append,List.length_singleton] at hjl
   obtain rfl:j=vs.length:=by omega
   rw[List.getElem?_append_right (by omega),Nat.sub_self] at hq
   obtain rfl:p=q:=by simpa using hq
   rw[← hxl,List.drop_left,List.take_of_length_le (by omega)]
   exact hx.keep hS hs hk
 ·rcases g3 with e|⟨g,e,hg⟩
  ·exact .inl e
  ·exact .inr ⟨g,e,by omega⟩
theorem grow_form {pr:Bool} {B:Nat} {X:Nat→Prop} {vs:Its} {l:Value} {w:World} (h:GrowG pr B X vs l w):∃ a cap,l=.slice a vs.length cap∧vs.length≤cap∧cap≤maxLen ∧
  ∀ k p,vs[k]?=some p→∃ g cs,a=some ⟨g,0,none⟩∧B≤g∧g<w.heap.size∧(∀ j u,cs[j]?=some u→w.cell? ⟨g,k*szI pr+j,none⟩=some u)∧ItemOk pr X w p cs:=by
 obtain⟨xs,h1,h2⟩:=h
 have hlt:=World.ownsRow.lt h1
 have h1':=h1
 have hxl:xs.length=vs.length*szI pr:=h1.1
 rcases h1.2 with ⟨rfl,hn⟩|⟨g,cap,cur,rfl,hg,hh,hle,hm,_⟩
 ·refine⟨none,0,by rw[hn],by omega,by omega,fun k p hk=>?_⟩
  have:=(List.getElem?_eq_some_iff.1 hk).1
  omega
 ·refine⟨some ⟨g,0,none⟩,cap,rfl,hle,hm,fun k p hk=>?_⟩
  have hkl:=(List.getElem?_eq_some_iff.1 hk).1
  refine⟨g,(xs.drop (k*szI pr)).take (szI pr),rfl,(hlt g rfl).1,(hlt g rfl).2,fun j u hu=>?_,(h2 k p hk).keep (fun _ e _=>e.1) (Nat.le_refl _) (fun _ _ _=>rfl)⟩
  have hj:=(List.getElem?_eq_some_iff.1 hu).1
  rw[List.length_take] at hj
  rw[List.getElem?_take_of_lt (by omega),List.getElem?_drop] at hu
  have:=World.ownsRow.cells h1' rfl (k*szI pr+j) u hu
  rw[Go.WideShapes.add_plain,Nat.zero_add] at this
  exact this
theorem grow_rowA {B:Nat} {X:Nat→Prop} {vs:Its} {l:Value} {w:World} (h:GrowG false B X vs l w) (hX:∀ b,B≤b→b<w.heap.size→l.ownBlock=some b→X b):AnyAt X w (.arr (japp vs .nil)) (.iface 310 l):=by
 obtain⟨a,cap,rfl,h1,h2,h3⟩:=grow_form h
 rw[AnyAt,japp_len]
 refine⟨a,cap,rfl,h1,h2,RowA.of _ _ fun k n v hk=>?_⟩
 obtain⟨g,cs,rfl,hg,hlt,hc,x,hx,hcs⟩:=h3 k (n,v) (japp_at vs k n v hk)
 simp only[Bool.false_eq_true,if_false] at hcs
 subst hcs
 refine⟨g,0,x,rfl,hX g hg hlt rfl,hlt,?_,hx⟩
 have:=hc 0 x rfl
 simpa[szI] using this
theorem grow_rowP {B:Nat} {X:Nat→Prop} {vs:Its} {l:Value} {w:World} (h:GrowG true B X vs l w) (hX:∀ b,B≤b→b<w.heap.size→l.ownBlock=some b→X b):AnyAt X w (.obj (japp vs .nil)) (.iface 96 l):=by
 obtain⟨a,cap,rfl,h1,h2,h3⟩:=grow_form h
 rw[AnyAt,japp_len]
 refine⟨a,cap,rfl,h1,h2,RowP.of _ _ fun k n v hk=>?_⟩
 obtain⟨g,cs,rfl,hg,hlt,hc,x,hx,hcs⟩:=h3 k (n,v) (japp_at vs k n v hk)
 simp only[if_true] at hcs
 obtain⟨t,rfl,ht,hn⟩:=hcs
 refine⟨g,0,x,t,rfl,hX g hg hlt rfl,hlt,?_,ht,hn,?_,hx⟩
 ·have:=hc 0 _ rfl
  simpa[szI] using this
 ·have:=hc 1 _ rfl
  simpa[szI] using this
end Go.Proofs.YtdnmgpcfgcidbaaGreatDoor
namespace Go.Proofs.YtdnmgpcfgcidbaaGreatDoor
set_option linter.unusedVariables false
set_option linter.unusedSimpArgs false
open Go.RowKit
set_option maxRecDepth 20000
set_option maxHeartbeats 2000000
theorem esc_len (l t:List Int) (n:Nat) (h:escP l=.piece t n):t.length≤n:=by
 match l,h with
 | [],h=>cases h
 | [a],h=>cases h
 | a :: b :: r,h =>
  rw[esc_of] at h
  cases h2:twoP b with
  | some x=>rw[h2] at h;simp only[St.piece.injEq] at h;rw[← h.1,← h.2];simp
  | none =>
   rw[h2] at h
   simp only at h
   split at h
   ·unfold badE at h;split at h <;> cases h
   split at h
   ·simp only[St.piece.injEq] at h;rw[← h.1,← h.2];have:=encC_len (fourP (a :: b :: r)).1;omega
   split at h
   ·cases h
   split at h
   ·unfold badE at h;split at h <;> cases h
   split at h
   ·cases h
   ·simp only[St.piece.injEq] at h;rw[← h.1,← h.2];have:=encC_len (65536+1024*((fourP (a :: b :: r)).1 - 55296)+(fourP ((a :: b :: r).drop 6)).1 - 56320);omega
theorem piece_lenDd (l t:List Int) (n:Nat) (h:stepP l=.piece t n):t.length≤n:=by
 cases l with
 | nil=>cases h
 | cons b s =>
  rw[stepP] at h
  split at h
  ·cases h
  split at h
  ·exact esc_len _ _ _ h
  split at h
  ·cases h
  ·simp only[St.piece.injEq] at h;rw[← h.1,← h.2];exact Nat.le_refl _
theorem takeG_len:∀ (f:Nat) (l:List Int) (p:Nat) (out:List Int),(takeG f l p out).1.length≤out.length+l.length
 | 0,l,p,out=>by simp[takeG]
 | f+1,l,p,out=>by
  rw[takeG_step]
  cases hs:stepP l with
  | short=>simp
  | form=>simp
  | fin=>simp
  | piece t n =>
   have h1:=piece_lenDd l t n hs
   have h2:=(step_piece l t n hs).len
   have:=takeG_len f (l.drop n) (p+n) (out++t)
   simp only
   rw[List.length_append,List.length_drop] at this
   omega
theorem textP_len (l:List Int):(textP l).1.length≤l.length:=by
 cases l with
 | nil=>simp[textP]
 | cons b t =>
  rw[textP]
  split
  ·have:=takeG_len (t.length+1) t 1 [];simp at this ⊢;omega
  ·simp
def BEq (l:List Int) (n k:Nat):Prop:=n≤k∧k≤l.length∧k+blankN (l.drop k)=n+blankN (l.drop n)
theorem BEq.same {l:List Int} {n:Nat} (h:n≤l.length):BEq l n n:=⟨Nat.le_refl _,h,rfl⟩
def oneP (g d:Nat) (ob:Bool) (names:List (List Int)) (l:List Int):(List Int × Js) × Nat × Int :=
 if (pairP ob names l).2.2≠0 then (([],.nul),(pairP ob names l).2.1,(pairP ob names l).2.2) else
 (((pairP ob names l).1,(valueP g (d+1) (l.drop (pairP ob names l).2.1)).1),(pairP ob names l).2.1+(valueP g (d+1) (l.drop (pairP ob names l).2.1)).2.1,(valueP g (d+1) (l.drop (pairP ob names l).2.1)).2.2)
theorem items_one17 (f d:Nat) (ob:Bool) (fin:Int) (names:List (List Int)) (k:Nat) (l:List Int):itemsP (f+1) d ob fin names k l =
  if l≠[]∧64≤k then (.nil,0,21) else if (oneP f d ob names l).2.2≠0 then (.nil,(oneP f d ob names l).2.1,(oneP f d ob names l).2.2)
  else restP f d ob fin names k l (oneP f d ob names l).1.1 (oneP f d ob names l).1.2 ((oneP f d ob names l).2.1+blankN (l.drop (oneP f d ob names l).2.1)):=by
 rw[itemsP_step]
 unfold oneP
 by_cases h1:l≠[]∧64≤k
 ·rw[if_pos h1,if_pos h1]
 rw[if_neg h1,if_neg h1]
 by_cases h2:(pairP ob names l).2.2≠0
 ·rw[if_pos h2,if_pos h2,if_pos h2]
 ·rw[if_neg h2,if_neg h2]
def TkE (R:Js × Nat × Int) (l:List Int) (p:Nat) (w:World) (e:Ending) (w':World):Prop :=
 (∃ x v k,e=.returned (.tuple #[x,.int .i64 ((p+k:Nat):Int),.int .i64 R.2.2])∧AnyAt (fun b=>w.heap.size≤b) w' v x∧(R.2.2=0→v=R.1∧BEq l R.2.1 k)∧(R.2.2≠0→k=R.2.1))∧Below w.heap.size w w'
def TkOk (g:Nat):Prop:=∀ (d:Nat) (s:ByteArray) (p:Nat) (w:World),p≤s.size→s.size≤5000→2*(s.size - p)+1≤g→d≤5→QTab w →
 Calls Tryz.prog 101 #[.string s,.int .i64 p,.int .i64 d] w (TkE (valueP g d ((bI s).drop p)) ((bI s).drop p) p w)
def TkAt (g:Nat) (s:ByteArray) (q:Nat):Prop:=∀ (d p:Nat) (w:World),q≤p→p≤s.size→d≤5→QTab w →
 Calls Tryz.prog 101 #[.string s,.int .i64 p,.int .i64 d] w (TkE (valueP g d ((bI s).drop p)) ((bI s).drop p) p w)
theorem TkOk.at {g0 g:Nat} (h:TkOk g0) {s:ByteArray} {q:Nat} (hs:s.size≤5000) (h0:2*(s.size - q)+1≤g0) (h1:2*(s.size - q)+1≤g):TkAt g s q:=by
 intro d p w hqp hp hd ht
 have hl:((bI s).drop p).length=s.size - p:=by rw[List.length_drop,bI_len]
 rw[(enough g).1 g0 d ((bI s).drop p) (by rw[hl];omega) (by rw[hl];omega)]
 exact h d s p w hp hs (by omega) hd ht
def OneE (R:(List Int × Js) × Nat × Int) (l:List Int) (q:Nat) (I:Its→World→Prop) (vs:Its) (e:Ending) (W':World):Prop :=
 ∃ vs' k,e=.returned (.tuple #[.int .i64 ((q+k:Nat):Int),.int .i64 R.2.2])∧I vs' W'∧(R.2.2=0→vs'=vs++[R.1]∧BEq l R.2.1 k)∧(R.2.2≠0→k=R.2.1)
structure Ls (pr:Bool) (bs bd B bl:Nat) (s:ByteArray) (d:Nat) (w0:World) (vs:Its) (W:World):Prop where
 ex:∃ l,W.cell? ⟨bl,0,none⟩=some l∧GrowG pr B (fun b=>B≤b∧b≠bl) vs l W∧l.ownBlock≠some bl
 free:W.frozen? ⟨bl,0,none⟩=false
 cs:W.cell? ⟨bs,0,none⟩=some (.string s)
 cd:W.cell? ⟨bd,0,none⟩=some (.int .i64 d)
 ord:w0.heap.size≤bs∧bs<B∧w0.heap.size≤bd∧bd<B∧B≤bl∧bl<W.heap.size
 bel:Below w0.heap.size w0 W
theorem Ls.below {pr:Bool} {bs bd B bl:Nat} {s:ByteArray} {d:Nat} {w0:World} {vs:Its} {W W':World} (h:Ls pr bs bd B bl s d w0 vs W) (hb:Below W.heap.size W W'):Ls pr bs bd B bl s d w0 vs W':=by
 obtain⟨⟨l,h1,h2,h3⟩,hf,hs,hd,⟨o1,o2,o3,o4,o5,o6⟩,hbl⟩:=h
 refine⟨⟨l,(hb.cell (p:=⟨bl,0,none⟩) o6).trans h1,grow_below h2 hb,h3⟩,(World.frozen?_of_block (a:=⟨bl,0,none⟩) (hb.block bl o6)).trans hf,(hb.cell (p:=⟨bs,0,none⟩) (by show bs<_;omega)).trans hs,(hb.cell (p:=⟨bd,0,none⟩) (by show bd<_;omega)).trans hd,⟨o1,o2,o3,o4,o5,Nat.lt_of_lt_of_le o6 hb.size⟩,hbl.trans (hb.mono hbl.size)⟩
theorem Ls.more {pr:Bool} {bs bd B bl:Nat} {s:ByteArray} {d:Nat} {w0:World} {vs:Its} {W:World} (h:Ls pr bs bd B bl s d w0 vs W) (hv:vs.length≤1000000) :
  ∃ l,W.cell? ⟨bl,0,none⟩=some l∧(∀ b,l.ownBlock=some b→b<W.heap.size)∧∀ (W1:World) (m:Nat) (p:List Int × Js) (cs:List Value),Below W.heap.size W W1→W.heap.size≤m→ItemOk pr (fun b=>m≤b) W1 p cs →
   ∃ v' W2,(Builtin.append_ #[slI pr,slI pr] (slI pr) #[l,.slice (some ⟨W1.heap.size,0,none⟩) 1 1]).run Tryz.prog (W1.alloc (.cells cs.toArray (tyI pr)))=.ok v' W2∧W2.cell? ⟨bl,0,none⟩=some l∧W2.frozen? ⟨bl,0,none⟩=false ∧
    Ls pr bs bd B bl s d w0 (vs++[p]) (W2.setCell ⟨bl,0,none⟩ v'):=by
 obtain⟨l,h1,h2,h3⟩:=h.ex
 refine⟨l,h1,fun b e=>(grow_lt h2 b e).2,fun W1 m p cs hb hm hx=>?_⟩
 have hord:=h.ord
 obtain⟨⟨l',h1',h2',h3'⟩,hf,hs,hd,⟨o1,o2,o3,o4,o5,o6⟩,hbl⟩:=h.below hb
 have hll:l=l':=by
  have:=(hb.cell (p:=⟨bl,0,none⟩) hord.2.2.2.2.2).trans h1
  rw[h1'] at this
  exact(Option.some.inj this).symm
 subst hll
 obtain⟨v',W2,hr,g1,g2,g3⟩:=grow_more (slI pr) h2' hv (by omega) (hx.keep (S':=fun b=>(B≤b∧b≠bl)∧l.ownBlock≠some b) (fun b e _=>⟨⟨by omega,by have:=hord.2.2.2.2.2;omega⟩,fun x=>by have:=(grow_lt h2 b x).2;omega⟩) (Nat.le_refl _) (fun _ _ _=>rfl))
 have hsz:(W1.alloc (.cells cs.toArray (tyI pr))).heap.size=W1.heap.size+1:=by simp
 have hB:=fun b e=>(grow_lt h2' b e).1
 have k1:∀ k,k<W1.heap.size→l.ownBlock≠some k→W2.heap[k]?=W1.heap[k]?:=fun k hk hne=>(g2.block k (by omega) (fun e=>hne e.symm)).trans (heap_old17 hk)
 have hs2:=g2.size
 have c0:W2.cell? ⟨bl,0,none⟩=some l:=(World.cell?_of_block (a:=⟨bl,0,none⟩) (k1 bl o6 h3)).trans h1'
 have c1:W2.frozen? ⟨bl,0,none⟩=false:=(World.frozen?_of_block (a:=⟨bl,0,none⟩) (k1 bl o6 h3)).trans hf
 have hset:∀ k,k≠bl→(W2.setCell ⟨bl,0,none⟩ v').heap[k]?=W2.heap[k]?:=fun k hk=>Below.heap_setCell _ _ _ k hk
 have hsz2:(W2.setCell ⟨bl,0,none⟩ v').heap.size=W2.heap.size:=by simp[World.size_setCell]
 have hvb:v'.ownBlock≠some bl:=by
  rcases g3 with e|⟨g,e,hg⟩
  ·rw[e];exact h3
  ·rw[e];intro e2;injection e2 with e2;omega
 refine⟨v',W2,hr,c0,c1,⟨⟨v',World.cell?_setCell_same _ _ _ c0,?_,hvb⟩,?_,?_,?_,⟨o1,o2,o3,o4,o5,by omega⟩,?_⟩⟩
 ·exact grow_keep g1 (by omega) (fun b e=>hset b (fun x=>hvb (by rw[e,x]))) (fun b hb _ _=>hset b hb.2)
 ·rw[World.frozen?_setCell];exact c1
 ·exact(World.cell?_of_block (a:=⟨bs,0,none⟩) ((hset bs (by omega)).trans (k1 bs (by omega) (fun e=>by have:=hB bs e;omega)))).trans hs
 ·exact(World.cell?_of_block (a:=⟨bd,0,none⟩) ((hset bd (by omega)).trans (k1 bd (by omega) (fun e=>by have:=hB bd e;omega)))).trans hd
 ·have hb1:Below w0.heap.size w0 W2:=Below.grown (hbl.alloc (by omega) _) g2 (by omega) (fun k e=>by have:=hB k e;omega)
  exact hb1.setCell (p:=⟨bl,0,none⟩) (by show w0.heap.size≤bl;omega) _
end Go.Proofs.YtdnmgpcfgcidbaaGreatDoor
namespace Go.Proofs.YtdnmgpcfgcidbaaGreatDoor
set_option linter.unusedVariables false
set_option linter.unusedSimpArgs false
open Go.RowKit
set_option maxRecDepth 20000
theorem any_form {S:Nat→Prop} {w:World} {v:Js} {x:Value} (h:AnyAt S w v x):x=.nilIface∨∃ t y,x=.iface t y:=by
 cases v <;> rw[AnyAt] at h
 ·exact .inl h
 ·exact .inr ⟨_,_,h⟩
 ·exact .inr ⟨_,_,h⟩
 ·obtain⟨t,rfl,_⟩:=h;exact .inr ⟨_,_,rfl⟩
 ·obtain⟨a,c,rfl,_⟩:=h;exact .inr ⟨_,_,rfl⟩
 ·obtain⟨a,c,rfl,_⟩:=h;exact .inr ⟨_,_,rfl⟩
 ·exact .inr ⟨_,_,h⟩
theorem maxL:maxLen=9223372036854775807:=by decide
end Go.Proofs.YtdnmgpcfgcidbaaGreatDoor
namespace Go.Proofs.YtdnmgpcfgcidbaaGreatDoor
set_option linter.unusedVariables false
set_option linter.unusedSimpArgs false
open Go.RowKit
set_option maxRecDepth 20000
set_option maxHeartbeats 1000000
theorem place1_any (t name:ByteArray) (y:Value) (hy:y=.nilIface∨∃ u z,y=.iface u z) (b:Nat) (w:World) (hb:b<w.heap.size) (hc:w.cell? ⟨b,0,none⟩=some (.string name)) :
  Calls Tryz.prog 236 #[.agg #[.string t,y],.pointer (some ⟨b,0,none⟩)] w fun e w'=>e=.returned (.bool (decide (t=name)))∧Below w.heap.size w w':=by
 have hne:b≠w.heap.size:=by omega
 obtain⟨q,hq,hqd⟩:∃ q,(t.toList == name.toList)=q∧q=decide (t=name):=by
  by_cases h:t=name
  ·exact⟨_,str_yes h,by rw[decide_eq_true h]⟩
  ·exact⟨_,str_no h,by rw[decide_eq_false h]⟩
 rw[← hqd]
 clear hqd
 rcases hy with rfl|⟨u,z,rfl⟩
 ·go_enter Tryz.func236,Tryz.ntmps236
  go_wp2_with fail
  go_ret
  exact⟨rfl,by go_grown⟩
 ·go_enter Tryz.func236,Tryz.ntmps236
  go_wp2_with fail
  go_ret
  exact⟨rfl,by go_grown⟩
theorem any_iface {S:Nat→Prop} {w:World} {v:Js} {x:Value} (h:AnyAt S w v x):x=.nilIface∨∃ u z,x=.iface u z:=any_form h
theorem pidx_any (S:Nat→Prop) (a:Option Addr) (n cap:Nat) (l:Jl) (name:ByteArray) (b:Nat) (w:World) (hr:RowP S w a 0 l) (hn:n≤l.length) (hcap:n≤cap) (hm:cap≤maxLen) (hb:b<w.heap.size) (hcb:w.cell? ⟨b,0,none⟩=some (.string name)) :
  Calls Tryz.prog 235 #[.slice a n cap,.func (.func 236) #[] #[.pointer (some ⟨b,0,none⟩)]] w fun e w'=>(∃ r,e=.returned (.int .i64 r)∧PlR (bI name) (l.names.take n) r)∧Below w.heap.size w w':=by
 have HR:=Lib.hid hr
 have hml:(n:Int)≤9223372036854775807:=by rw[maxL] at hm;omega
 clear hr
 go_enter Tryz.func235,Tryz.ntmps235
 go_wp2_with fail
 go_loopw [8] (fun s wr=>∃ i:Nat,i≤n∧s=.int .i64 i∧Hid (∀ j,j<i→l.names[j]?≠some (bI name))∧Below w.heap.size w wr) (fun s _=>n - (intOf s).toNat)
 case atStart=>exact⟨0,Nat.zero_le _,rfl,Lib.hid (fun j hj=>absurd hj (Nat.not_lt_zero _)),Below.refl _ _⟩
 case round =>
  obtain⟨i,hi,rfl,HM,hbw⟩:=hrel
  by_cases hlt:i<n
  ·obtain⟨nm,v,hat⟩:=Jl.lt_at l i (by omega)
   obtain⟨g,off,y,t,rfl,_,hg,l0,hbt,_,l1,hav⟩:=RowP.at l 0 i nm v HR.out hat
   rw[Nat.zero_add] at l0 l1
   replace l0:=(hbw.cell hg).trans l0
   replace l1:=(hbw.cell hg).trans l1
   have hi2:(i:Int)<(n:Int):=by omega
   have HNA:=Lib.hid (Jl.names_at l i nm v hat)
   have HBT:=Lib.hid hbt
   have hyf:=any_iface hav
   have HE:=Lib.hid (place1_any t name y hyf b wr (Nat.lt_of_lt_of_le hb hbw.size) ((hbw.cell hb).trans hcb))
   have hy1:=any_one hav
   clear hbt hav hat
   by_cases hp:t=name
   ·have HP:=Lib.hid hp
    rw[decide_eq_true hp] at HE
    clear hp
    rcases hyf with rfl|⟨u,z,rfl⟩
    ·go_wp2_with fail
     refine HE.out.mono ?_
     rintro e w1 ⟨rfl,hb⟩
     have hbw1:=hbw.trans (hb.mono hbw.size)
     clear hb hbw l0 l1 HE
     go_wp2_with fail
     go_ret
     exact⟨⟨i,rfl,.inr ⟨i,rfl,by rw[List.getElem?_take_of_lt hlt,HNA.out,← HBT.out,HP.out],fun j hj e=>HM.out j hj (by rwa[List.getElem?_take_of_lt (by omega)] at e)⟩⟩,hbw1⟩
    ·go_wp2_with fail
     refine HE.out.mono ?_
     rintro e w1 ⟨rfl,hb⟩
     have hbw1:=hbw.trans (hb.mono hbw.size)
     clear hb hbw l0 l1 HE
     go_wp2_with fail
     go_ret
     exact⟨⟨i,rfl,.inr ⟨i,rfl,by rw[List.getElem?_take_of_lt hlt,HNA.out,← HBT.out,HP.out],fun j hj e=>HM.out j hj (by rwa[List.getElem?_take_of_lt (by omega)] at e)⟩⟩,hbw1⟩
   ·have HP:=Lib.hid hp
    rw[decide_eq_false hp] at HE
    clear hp
    have HM2:Hid (∀ j,j<i+1→l.names[j]?≠some (bI name)):=Lib.hid (fun j hj e=>by
     rcases Nat.lt_or_ge j i with h|h
     ·exact HM.out j h e
     ·obtain rfl:j=i:=by omega
      rw[HNA.out,← HBT.out] at e
      exact HP.out (bI_inj (by simpa using e)))
    rcases hyf with rfl|⟨u,z,rfl⟩
    ·go_wp2_with fail
     refine HE.out.mono ?_
     rintro e w1 ⟨rfl,hb⟩
     have hbw1:=hbw.trans (hb.mono hbw.size)
     clear hb hbw l0 l1 HE
     go_wp2_with fail
     go_roundw
     case rel=>exact⟨i+1,by omega,by go_num,HM2,hbw1⟩
     case measure=>simp[intOf];omega
    ·go_wp2_with fail
     refine HE.out.mono ?_
     rintro e w1 ⟨rfl,hb⟩
     have hbw1:=hbw.trans (hb.mono hbw.size)
     clear hb hbw l0 l1 HE
     go_wp2_with fail
     go_roundw
     case rel=>exact⟨i+1,by omega,by go_num,HM2,hbw1⟩
     case measure=>simp[intOf];omega
  ·obtain rfl:i=n:=by omega
   go_wp2_with fail
   go_ret
   refine⟨⟨-1,rfl,.inl ⟨rfl,fun hmem=>?_⟩⟩,hbw⟩
   obtain⟨j,hj⟩:=List.getElem?_of_mem hmem
   have hjl:=(List.getElem?_eq_some_iff.1 hj).1
   rw[List.length_take] at hjl
   rw[List.getElem?_take_of_lt (by omega)] at hj
   exact HM.out j (by omega) hj
theorem pplace_anyDd (S:Nat→Prop) (a:Option Addr) (n cap:Nat) (l:Jl) (name:ByteArray) (w:World) (hr:RowP S w a 0 l) (hn:n≤l.length) (hcap:n≤cap) (hm:cap≤maxLen) :
  Calls Tryz.prog 213 #[.slice a n cap,.string name] w fun e w'=>(∃ r,e=.returned (.int .i64 r)∧PlR (bI name) (l.names.take n) r)∧Below w.heap.size w w':=by
 have H:=Lib.hid (fun W T (hW:W=w.alloc (.cells #[.string name] T))=>pidx_any S a n cap l name w.heap.size W (by subst hW;exact RowP.keep (fun _ e _=>e) (by simp) (fun b _ h=>heap_old17 h) l a 0 hr) hn hcap hm (by subst hW;simp) (by subst hW;rw[World.cell?_alloc_mark];rfl))
 clear hr
 go_enter Tryz.func213,Tryz.ntmps213
 go_wp2_with fail
 refine(H.out _ _ rfl).mono ?_
 rintro e w1 ⟨⟨r,rfl,hr⟩,hb⟩
 have HR:=Lib.hid hr
 have HB:=Lib.hid (((Below.refl _ w).alloc (Nat.le_refl _) _).trans (hb.mono (by simp)))
 clear hr hb
 go_wp2_with fail
 go_ret
 exact⟨⟨r,rfl,HR.out⟩,HB.out⟩
end Go.Proofs.YtdnmgpcfgcidbaaGreatDoor
namespace Go.Proofs.YtdnmgpcfgcidbaaGreatDoor
set_option linter.unusedVariables false
set_option linter.unusedSimpArgs false
open Go.RowKit
set_option maxRecDepth 20000
def uI (l:List UInt8):List Int:=l.map (fun c=>(c.toNat:Int))
theorem bI_arr (l:List UInt8):bI ⟨l.toArray⟩=uI l:=by unfold bI uI;simp
theorem bI_u (s:ByteArray):bI s=uI s.data.toList:=rfl
theorem u8_all (f g:UInt8→Bool) (h:∀ n,n<256→f (UInt8.ofNat n)=g (UInt8.ofNat n)) (c:UInt8):f c=g c:=by
 have:=h c.toNat c.toNat_lt
 rwa[UInt8.ofNat_toNat] at this
theorem span_drop (f:List Int→Nat) (p:Int→Bool) (q:UInt8→Bool) (h0:f []=0) (h1:∀ b t,f (b :: t)=if p b then f t+1 else 0) (hq:∀ c:UInt8,q c=p (c.toNat:Int)) :
  ∀ l:List UInt8,(l.dropWhile q).length+f (uI l)=l.length
 | []=>by simp[uI,h0]
 | c :: t=>by
  have ih:=span_drop f p q h0 h1 hq t
  unfold uI at ih ⊢
  rw[List.map_cons,h1,← hq,List.dropWhile_cons]
  cases q c
  ·simp
  ·simp only[if_true,List.length_cons];omega
theorem blank_drop (l:List UInt8):(Lib.trimLeftS l [32,9,10,13]).length+blankN (uI l)=l.length :=
 span_drop blankN isB _ rfl (fun b t=>by rw[blankN]) (u8_all _ (fun c=>isB (c.toNat:Int)) (by decide +kernel)) l
theorem numer_drop (l:List UInt8):(Lib.trimLeftS l [48,49,50,51,52,53,54,55,56,57,43,45,46,101,69]).length+spanN (uI l)=l.length :=
 span_drop spanN isN _ rfl (fun b t=>by rw[spanN]) (u8_all _ (fun c=>isN (c.toNat:Int)) (by decide +kernel)) l
theorem dig_u (c:UInt8):([48,49,50,51,52,53,54,55,56,57]:List UInt8).contains c=isD (c.toNat:Int) :=
 u8_all (fun c=>([48,49,50,51,52,53,54,55,56,57]:List UInt8).contains c) (fun c=>isD (c.toNat:Int)) (by decide +kernel) c
theorem dropWhile_nil (q:UInt8→Bool):∀ l:List UInt8,l.dropWhile q=[]↔l.all q=true
 | []=>by simp
 | c :: t=>by
  rw[List.dropWhile_cons,List.all_cons]
  cases h:q c
  ·simp
  ·simp[dropWhile_nil q t]
theorem trim_dig (l:List UInt8):(Lib.trimS l [48,49,50,51,52,53,54,55,56,57]=[])↔(uI l).all isD=true:=by
 unfold Lib.trimS Lib.trimLeftS Lib.trimRightS
 rw[dropWhile_nil]
 have hall:∀ m:List UInt8,(uI m).all isD=m.all (fun c=>([48,49,50,51,52,53,54,55,56,57]:List UInt8).contains c):=by
  intro m
  unfold uI
  rw[List.all_map]
  congr 1
  funext c
  exact(dig_u c).symm
 rw[hall]
 constructor
 ·intro h
  have h1:=fun x (hx:x ∈ (l.reverse.dropWhile (fun c=>([48,49,50,51,52,53,54,55,56,57]:List UInt8).contains c)).reverse)=>List.all_eq_true.1 h x hx
  cases hd:l.reverse.dropWhile (fun c=>([48,49,50,51,52,53,54,55,56,57]:List UInt8).contains c) with
  | nil =>
   have:=(dropWhile_nil _ _).1 hd
   rw[List.all_eq_true] at this ⊢
   exact fun x hx=>this x (List.mem_reverse.2 hx)
  | cons c t =>
   have hc:=h1 c (by rw[hd];simp)
   have:=List.head?_dropWhile_not (fun c=>([48,49,50,51,52,53,54,55,56,57]:List UInt8).contains c) l.reverse
   rw[hd] at this
   simp only[List.head?_cons] at this
   rw[hc] at this
   cases this
 ·intro h
  rw[List.all_eq_true] at h ⊢
  intro x hx
  exact h x (List.mem_reverse.1 ((List.dropWhile_sublist _).subset (List.mem_reverse.1 hx)))
theorem fold_geDd:∀ (l:List Int) (a b:Int),(∀ c ∈ l,48≤c)→0≤b→b≤a→b≤l.foldl (fun n c=>10*n+(c - 48)) a
 | [],a,b,_,_,h=>h
 | c :: t,a,b,hl,h0,h=>by
  rw[List.foldl_cons]
  have:=hl c (List.mem_cons_self ..)
  exact fold_geDd t _ b (fun x hx=>hl x (List.mem_cons_of_mem _ hx)) h0 (by omega)
theorem parse_dig:∀ (l:List UInt8) (acc:Nat),(uI l).all isD=true →
  (∃ u,Lib.parseUint10 acc l=.ok u∧(uI l).foldl (fun n c=>10*n+(c - 48)) (acc:Int)=u)∨Lib.parseUint10 acc l=.range∧18446744073709551616≤(uI l).foldl (fun n c=>10*n+(c - 48)) (acc:Int)
 | [],acc,_=>.inl ⟨acc,rfl,rfl⟩
 | c :: t,acc,h=>by
  have hc:uI (c :: t)=(c.toNat:Int) :: uI t:=rfl
  rw[hc,List.all_cons,Bool.and_eq_true] at h
  obtain⟨h1,h2⟩:=h
  have hd:48≤c.toNat∧c.toNat≤57:=by
   unfold isD at h1
   simp only[Bool.and_eq_true,decide_eq_true_eq] at h1
   omega
  have h48:∀ x ∈ uI t,48≤x:=by
   intro x hx
   have:=List.all_eq_true.1 h2 x hx
   unfold isD at this
   simp only[Bool.and_eq_true,decide_eq_true_eq] at this
   exact this.1
  rw[hc,List.foldl_cons,Lib.parseUint10,if_pos hd]
  by_cases g1:1844674407370955162≤acc
  ·rw[if_pos g1]
   exact .inr ⟨rfl,fold_geDd _ _ _ h48 (by omega) (by omega)⟩
  rw[if_neg g1]
  by_cases g2:18446744073709551616≤acc*10+(c.toNat - 48)
  ·rw[if_pos g2]
   exact .inr ⟨rfl,fold_geDd _ _ _ h48 (by omega) (by omega)⟩
  rw[if_neg g2]
  have hcast:((acc*10+(c.toNat - 48):Nat):Int)=10*(acc:Int)+((c.toNat:Int) - 48):=by omega
  have:=parse_dig t (acc*10+(c.toNat - 48)) h2
  rw[hcast] at this
  exact this
theorem ato_dig (l:List UInt8) (h:¬ badD (uI l)):(∃ v,Lib.atoiAll l=.ok v∧v=(if isNeg (uI l) then - valD (unsgn (uI l)) else valD (unsgn (uI l))))∨Lib.atoiAll l=.range∧maxI<valD (unsgn (uI l)):=by
 unfold badD at h
 have h1:¬ unsgn (uI l)=[]:=fun e=>h (.inl e)
 have h3:(unsgn (uI l)).all isD=true:=Decidable.byContradiction fun e=>h (.inr (.inr e))
 cases l with
 | nil=>exact absurd rfl h1
 | cons c t =>
  have hc:uI (c :: t)=(c.toNat:Int) :: uI t:=rfl
  rw[hc] at h1 h3 ⊢
  by_cases hm:(c.toNat:Int)=45
  ·have hc45:c=45:=UInt8.toNat_inj.1 (by simpa using (show c.toNat=45 by omega))
   rw[unsgn,if_pos hm] at h1 h3 ⊢
   have hn:isNeg ((c.toNat:Int) :: uI t)=true:=by unfold isNeg;rw[hm];rfl
   rw[hn,if_pos rfl,hc45,Lib.atoiAll_minus]
   have ht:¬ t=[]:=fun e=>h1 (by rw[e];rfl)
   unfold Lib.parseMag
   rw[if_neg ht]
   rcases parse_dig t 0 h3 with ⟨u,e1,e2⟩|⟨e1,e2⟩
   ·rw[e1,Lib.signed]
    have e2:valD (uI t)=u:=e2
    by_cases g:9223372036854775808<u
    ·rw[if_pos g];exact .inr ⟨rfl,by unfold maxI;omega⟩
    ·rw[if_neg g];exact .inl ⟨_,rfl,by rw[e2]⟩
   ·rw[e1,Lib.signed]
    have e2:18446744073709551616≤valD (uI t):=e2
    exact .inr ⟨rfl,by unfold maxI;omega⟩
  ·rw[unsgn,if_neg hm] at h1 h3 ⊢
   have hn:isNeg ((c.toNat:Int) :: uI t)=false:=by unfold isNeg;simpa using hm
   rw[hn]
   have hd:isD (c.toNat:Int)=true:=by rw[List.all_cons,Bool.and_eq_true] at h3;exact h3.1
   have hd:48≤c.toNat∧c.toNat≤57:=by
    unfold isD at hd
    simp only[Bool.and_eq_true,decide_eq_true_eq] at hd
    omega
   rw[Lib.atoiAll_plain c t (by omega) (by omega)]
   unfold Lib.parseMag
   rw[if_neg (by simp)]
   rcases parse_dig (c :: t) 0 h3 with ⟨u,e1,e2⟩|⟨e1,e2⟩
   ·rw[e1,Lib.signless]
    have e2:valD ((c.toNat:Int) :: uI t)=u:=e2
    by_cases g:9223372036854775808≤u
    ·rw[if_pos g];exact .inr ⟨rfl,by unfold maxI;omega⟩
    ·rw[if_neg g];exact .inl ⟨_,rfl,by rw[e2];simp⟩
   ·rw[e1,Lib.signless]
    have e2:18446744073709551616≤valD ((c.toNat:Int) :: uI t):=e2
    exact .inr ⟨rfl,by unfold maxI;omega⟩
theorem word_pre:∀ (w l:List Int) (i:Nat),wordG w l i=if w <+: l then (i+w.length,0) else if l <+: w then (i+l.length,3) else (0,4)
 | [],l,i=>by rw[wordG,if_pos (List.nil_prefix)];simp
 | c :: w,[],i=>by rw[wordG,if_neg (by simp),if_pos (List.nil_prefix)];simp
 | c :: w,b :: t,i=>by
  rw[wordG]
  by_cases h:b=c
  ·subst h
   rw[if_pos rfl,word_pre w t (i+1)]
   simp only[List.cons_prefix_cons,true_and,List.length_cons]
   simp only[show i+1+w.length=i+(w.length+1) by omega,show i+1+t.length=i+(t.length+1) by omega]
  ·rw[if_neg h,if_neg (by rw[List.cons_prefix_cons];exact fun e=>h e.1.symm),if_neg (by rw[List.cons_prefix_cons];exact fun e=>h e.1)]
theorem pre_u (p l:List UInt8):Lib.hasPrefix l p=decide (uI p <+: uI l):=by
 have:Lib.hasPrefix l p=p.isPrefixOf l:=rfl
 rw[this]
 have h:=map_pre p l
 rw[Bool.eq_iff_iff,h,decide_eq_true_iff]
 exact⟨fun⟨t,e⟩=>⟨t,e.symm⟩,fun⟨t,e⟩=>⟨t,e.symm⟩⟩
theorem idx_u:∀ (l:List UInt8) (c:Int),0≤c→c<256→(Lib.indexByte l c.toNat.toUInt8<0↔c ∉ uI l)∧-1≤Lib.indexByte l c.toNat.toUInt8
 | [],c,h0,h1=>by simp[Lib.indexByte,uI]
 | b :: l,c,h0,h1=>by
  have ih:=idx_u l c h0 h1
  have hc:uI (b :: l)=(b.toNat:Int) :: uI l:=rfl
  rw[hc,List.mem_cons,Lib.indexByte]
  have he:(b == c.toNat.toUInt8)=decide (c=(b.toNat:Int)):=by
   rw[Bool.eq_iff_iff,beq_iff_eq,decide_eq_true_iff]
   constructor
   ·rintro rfl
    have:c.toNat<256:=by omega
    show c=((UInt8.ofNat c.toNat).toNat:Int)
    rw[UInt8.toNat_ofNat_of_lt' (by show _<256;omega)];omega
   ·rintro rfl
    simp[Nat.toUInt8]
  rw[he]
  by_cases hb:c=(b.toNat:Int)
  ·rw[decide_eq_true hb];simp[hb]
  ·rw[decide_eq_false hb]
   simp only[Bool.false_eq_true,if_false,hb,false_or]
   by_cases g:Lib.indexByte l c.toNat.toUInt8=-1
   ·rw[g];simp only[beq_self_eq_true,if_true]
    exact⟨⟨fun _=>(ih.1.1 (by omega)),fun _=>by omega⟩,by omega⟩
   ·have g2:(Lib.indexByte l c.toNat.toUInt8 == -1)=false:=by rw[beq_eq_false_iff_ne];exact g
    rw[g2]
    simp only[Bool.false_eq_true,if_false]
    exact⟨⟨fun h=>by omega,fun h=>absurd (ih.1.2 h) (by omega)⟩,by omega⟩
theorem trim_min (l:List UInt8):uI (Lib.trimPrefix l [45])=unsgn (uI l):=by
 unfold Lib.trimPrefix
 cases l with
 | nil=>rfl
 | cons c t =>
  have hp:Lib.hasPrefix (c :: t) [45]=decide ((c.toNat:Int)=45):=by
   rw[pre_u,Bool.eq_iff_iff,decide_eq_true_iff,decide_eq_true_iff]
   show [(45:Int)] <+: (c.toNat:Int) :: uI t↔_
   rw[List.cons_prefix_cons]
   exact⟨fun h=>h.1.symm,fun h=>⟨h.symm,List.nil_prefix⟩⟩
  have hc:uI (c :: t)=(c.toNat:Int) :: uI t:=rfl
  rw[hp,hc,unsgn]
  by_cases h:(c.toNat:Int)=45
  ·rw[decide_eq_true h,if_pos h];rfl
  ·rw[decide_eq_false h,if_neg h];rfl
theorem takeG_shift:∀ (f:Nat) (l:List Int) (p q:Nat) (out:List Int),takeG f l (p+q) out=((takeG f l p out).1,(takeG f l p out).2.1+q,(takeG f l p out).2.2)
 | 0,l,p,q,out=>by simp[takeG];omega
 | f+1,l,p,q,out=>by
  rw[takeG_step,takeG_step]
  cases stepP l with
  | short=>simp;omega
  | form=>simp
  | fin=>simp;omega
  | piece t n =>
   simp only
   rw[show p+q+n=p+n+q by omega]
   exact takeG_shift f _ _ q _
theorem takeP_drop (l:List Int) (p:Nat) (hp:p≤l.length):takeP l p=((textP (l.drop p)).1,p+(textP (l.drop p)).2.1,(textP (l.drop p)).2.2):=by
 unfold takeP
 rw[if_neg (by omega)]
 by_cases he:(p:Int)=l.length
 ·rw[if_pos he,List.drop_of_length_le (by omega)]
  simp[textP]
 ·rw[if_neg he,Int.toNat_natCast]
  have hlt:p<l.length:=by omega
  have hd:l.drop p=l.getD p 0 :: l.drop (p+1):=by
   rw[List.getD_eq_getElem?_getD,List.getElem?_eq_getElem hlt,Option.getD_some,List.drop_eq_getElem_cons hlt]
  rw[hd,textP]
  by_cases h:l.getD p 0=34
  ·rw[if_neg (by rw[h];simp),if_pos h,show p+1=1+p by omega,takeG_shift l.length _ 1 p []]
   have:=takeG_fuel l.length ((l.drop (1+p)).length+1) (l.drop (1+p)) 1 [] (by rw[List.length_drop];omega) (by omega)
   rw[this,Nat.add_comm p]
  ·rw[if_pos h,if_neg h];simp
def plainT:TypeDesc→Bool
 | .interface _=>false
 | _=>true
theorem assert_nil (X T:TypeId) (d:TypeDesc) (z:Value) (hu:Tryz.prog.underlying T=some d) (hd:plainT d=true) (hz:(Tryz.prog.info? T).map (·.zero)=some (some z)) (w:World) :
  (Instr.typeAssert .nilIface X T true).run Tryz.prog w=.ok (.tuple #[z,.bool false]) w:=by
 obtain⟨i,hi,hiz⟩:∃ i,Tryz.prog.info? T=some i∧i.zero=some z:=by
  cases h:Tryz.prog.info? T with
  | none=>simp[h] at hz
  | some i=>exact⟨i,rfl,by simpa[h] using hz⟩
 unfold Instr.typeAssert
 rw[Sem.run_bind,run_underlying hu w]
 cases d <;> simp_all [plainT,zeroValue,typeInfo]
theorem assert_no (X T t:TypeId) (v:Value) (d:TypeDesc) (z:Value) (hu:Tryz.prog.underlying T=some d) (hd:plainT d=true) (hz:(Tryz.prog.info? T).map (·.zero)=some (some z)) (ht:t≠T) (w:World) :
  (Instr.typeAssert (.iface t v) X T true).run Tryz.prog w=.ok (.tuple #[z,.bool false]) w:=by
 obtain⟨i,hi,hiz⟩:∃ i,Tryz.prog.info? T=some i∧i.zero=some z:=by
  cases h:Tryz.prog.info? T with
  | none=>simp[h] at hz
  | some i=>exact⟨i,rfl,by simpa[h] using hz⟩
 unfold Instr.typeAssert
 rw[Sem.run_bind,run_underlying hu w]
 cases d <;> simp_all [plainT,zeroValue,typeInfo]
theorem assert_yes (X T:TypeId) (v:Value) (d:TypeDesc) (hu:Tryz.prog.underlying T=some d) (hd:plainT d=true) (w:World) :
  (Instr.typeAssert (.iface T v) X T true).run Tryz.prog w=.ok (.tuple #[v,.bool true]) w:=by
 unfold Instr.typeAssert
 rw[Sem.run_bind,run_underlying hu w]
 cases d <;> simp_all [plainT]
theorem zBool:(Tryz.prog.info? 4).map (·.zero)=some (some (.bool false)):=by kernel_rfl
theorem zPrs:(Tryz.prog.info? 96).map (·.zero)=some (some (.slice none 0 0)):=by kernel_rfl
end Go.Proofs.YtdnmgpcfgcidbaaGreatDoor
namespace Go.Proofs.YtdnmgpcfgcidbaaGreatDoor
set_option linter.unusedVariables false
set_option linter.unusedSimpArgs false
open Go.RowKit
set_option maxRecDepth 20000
set_option maxHeartbeats 2000000
def CkOk (v:Js):Prop:=∀ (S:Nat→Prop) (d:Nat) (w:World) (x:Value),AnyAt S w v x→d≤5→Calls Tryz.prog 242 #[x,.int .i64 d] w fun e w'=>e=.returned (.int .i64 (chkV d v))∧Below w.heap.size w w'
theorem ck_num (n:Int):CkOk (.num n):=by
 intro S d w x h hd
 rw[AnyAt] at h
 subst h
 rw[chkV]
 have a1:=fun W=>assert_no 20 4 3 (.int .i64 n) _ _ Tryz.underlying4 rfl zBool (by decide) W
 have a2:=fun W=>assert_yes 20 3 (.int .i64 n) _ Tryz.underlying3 rfl W
 unfold maxI
 by_cases h1:n < -9007199254740991
 ·rw[if_pos (by omega)]
  have e1:decide (n < -9007199254740991)=true:=by simp;omega
  go_enter Tryz.func242,Tryz.ntmps242
  go_wp2_with fail
  go_ret
  exact⟨rfl,by go_grown⟩
 have e1:decide (n < -9007199254740991)=false:=by simp;omega
 by_cases h2:9007199254740991<n
 ·rw[if_pos (by omega)]
  have e2:decide (9007199254740991<n)=true:=by simp;omega
  go_enter Tryz.func242,Tryz.ntmps242
  go_wp2_with fail
  go_ret
  exact⟨rfl,by go_grown⟩
 rw[if_neg (by omega)]
 have e2:decide (9007199254740991<n)=false:=by simp;omega
 go_enter Tryz.func242,Tryz.ntmps242
 go_wp2_with fail
 go_ret
 exact⟨rfl,by go_grown⟩
theorem pcheck_num (S:Nat→Prop) (n:Int) (x:Value) (w:World) (h:AnyAt S w (.num n) x):Calls Tryz.prog 217 #[x] w fun e w'=>e=.returned (.int .i64 (chkV 1 (.num n)))∧Below w.heap.size w w':=by
 have H:=Lib.hid (fun W (hb:Below w.heap.size w W)=>ck_num n S 1 W x (h.below hb) (by omega))
 clear h
 generalize chkV 1 (.num n)=R at H
 go_enter Tryz.func217,Tryz.ntmps217
 go_wp2_with fail
 refine(H.out _ (by go_grown)).mono ?_
 rintro e w1 ⟨rfl,hb⟩
 go_wp2_with fail
 go_ret
 exact⟨rfl,hb⟩
end Go.Proofs.YtdnmgpcfgcidbaaGreatDoor
