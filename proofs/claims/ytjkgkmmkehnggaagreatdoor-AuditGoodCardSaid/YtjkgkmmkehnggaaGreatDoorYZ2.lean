/- Wc Wd We Wf. -/
import Derived.Test.YtjkgkmmkehnggaaGreatDoorYZ1
import Derived.Lib.BufferOwn
import Derived.Test.YtjkgkmmkehnggaaGreatDoorYs
set_option maxHeartbeats 16000000
namespace Go.Proofs.YtjkgkmmkehnggaaGreatDoor
set_option linter.unusedVariables false
set_option linter.unusedSimpArgs false
open Go.RowKit
set_option maxRecDepth 20000
theorem xiY {s:ByteArray} {f l:Int} (h0:0≤f) (h1:0≤l) (h2:f+l≤s.size):xeh s f l=xpm s f l:=by
 unfold xeh xpm
 rw[show min f (s.size:Int)=f by omega,show min (f+l) (s.size:Int)=f+l by omega,show (f+l).toNat=f.toNat+l.toNat by omega]
def xk3:List ByteArray→Nat→List (Int × Int)
 | [],_=>[]
 | t :: r,n=>((n:Int),(t.size:Int)) :: xk3 r (n+t.size)
theorem xnx:∀ (l:List ByteArray) (n:Nat) (p:Int × Int),p ∈ xk3 l n→(n:Int)≤p.1
 | [],n,p,h=>by simp[xk3] at h
 | t :: r,n,p,h=>by
  rw[xk3,List.mem_cons] at h
  rcases h with rfl|h
  ·exact Int.le_refl _
  ·have:=xnx r _ p h;omega
theorem xqE:∀ (l:List ByteArray) (n:Nat),(∀ t ∈ l,0<t.size)→SU (xk3 l n)
 | [],n,_=>List.Pairwise.nil
 | t :: r,n,h=>by
  rw[xk3]
  refine List.pairwise_cons.2 ⟨fun p hp=>?_,xqE r _ (fun x hx=>h x (by simp[hx]))⟩
  have:=xnx r _ p hp
  have h0:=h t (by simp)
  rw[xdj]
  left
  show (n:Int)<p.1
  omega
theorem xnZ:∀ (l:List ByteArray) (n:Nat),(xk3 l n).length=l.length
 | [],_=>rfl
 | t :: r,n=>by rw[xk3,List.length_cons,List.length_cons,xnZ]
theorem xnm:∀ (l:List ByteArray) (n:Nat) (p:Int × Int),l.Nodup→(p ∈ xk3 l n↔∃ s ∈ l,∃ k,xaK s l n=some k∧p=((k:Int),(s.size:Int)))
 | [],n,p,_=>by simp[xk3]
 | t :: r,n,p,h=>by
  obtain⟨h1,h2⟩:=List.nodup_cons.1 h
  rw[xk3,List.mem_cons,xnm r _ p h2]
  constructor
  ·rintro(rfl|⟨s,hs,k,hk,rfl⟩)
   ·exact⟨t,by simp,n,by rw[xaK,if_pos rfl],rfl⟩
   ·exact⟨s,by simp[hs],k,by rw[xaK,if_neg (show ¬ t=s from fun e=>h1 (by rw[e];exact hs))];exact hk,rfl⟩
  ·rintro⟨s,hs,k,hk,rfl⟩
   rw[xaK] at hk
   split at hk
   ·rename_i e
    subst e
    cases hk
    exact .inl rfl
   ·rename_i e
    rcases List.mem_cons.1 hs with rfl|hs
    ·exact absurd rfl e
    ·exact .inr ⟨s,hs,k,hk,rfl⟩
theorem xnM (ts:List ByteArray) (hn:ts.Nodup):∀ (r a:List ByteArray),ts=a++r→xeq (xb7 ts) (totF a:Nat) a (xk3 r (totF a))=true
 | [],a,h=>by
  rw[List.append_nil] at h
  rw[xk3,xeq,h,xdB]
  simp
 | t :: r,a,h=>by
  have ht:xyn (xb7 ts) ((totF a:Nat),(t.size:Int))=t:=by
   have hk:ts[a.length]?=some t:=by rw[h];simp
   have hf:=xt0 ts a.length t hk hn 0
   have hc:=xeH ts t 0 _ hf
   have e1:ts.take a.length=a:=by rw[h];simp
   rw[e1] at hc
   unfold xyn
   simp only
   rw[show ((totF a:Nat):Int).toNat=totF a by omega,show (((totF a:Nat):Int)+(t.size:Int)).toNat=totF a+t.size by omega]
   simpa using hc
  have hnew:t ∉ a:=by
   rw[h] at hn
   intro hm
   exact(List.nodup_append.1 hn).2.2 t hm t (by simp) rfl
  rw[xk3,xeq,if_neg (by simp),ht,if_neg hnew]
  have:=xnM ts hn r (a++[t]) (by rw[h];simp)
  rw[xda,xi5] at this
  rw[← this]
  congr 1
theorem xtK {L:List It} (hg:GoodC L):(xje (xad L).1).map prE=xk3 (xad L).2 0:=by
 have R:=xcA hg
 obtain⟨u1,u2,_⟩:=xf2 (xad L).1
 refine xBr u1 (xqE _ _ R.good.pos) (fun q=>?_)
 rw[u2,xnm _ _ _ R.good.once]
 constructor
 ·intro hq
  obtain⟨e,he,rfl⟩:=List.mem_map.1 hq
  have ho:=R.ok e he
  obtain⟨s,hs,hl⟩:=ho.txt
  have hm:=ho.may
  unfold xa1 at hm
  refine⟨s,(xbV s _ 0).1 (by rw[hs];rfl),_,hs,?_⟩
  unfold prE
  rw[hl]
  congr 1
  omega
 ·rintro⟨s,hs,k,hk,rfl⟩
  obtain⟨t,ht,rfl⟩:=(R.mem s).1 hs
  rw[← R.exp] at ht
  obtain⟨e,he,hr⟩:=List.mem_flatMap.1 ht
  have ho:=R.ok e he
  obtain⟨s',hs',hl⟩:=ho.txt
  obtain⟨j,_,e1⟩:=(xmD e _ t).1 hr
  have e2:t.2=txN e (xb7 (xad L).2):=by rw[e1]
  rw[xgK hs' hl] at e2
  subst e2
  have hm:=ho.may
  unfold xa1 at hm
  rw[hk] at hs'
  refine List.mem_map.2 ⟨e,he,?_⟩
  unfold prE
  rw[hl,Option.some.inj hs']
  congr 1
  omega
theorem xsd {l:List En} {n:Int} (h:∀ e ∈ l,e.off+e.ln≤n):∀ k,k≤l.length→inT l n k=true
 | 0,_=>rfl
 | k+1,hk=>by rw[inT,xsd h k (by omega)];simpa using h _ (xcO l k (by omega))
theorem xnf {l:List En} (hm:xaT l) (h:xa2 l=0):∀ k,k≤l.length→xpF l k=true
 | 0,_=>rfl
 | k+1,hk=>by
  rw[xpF,xnf hm h k (by omega)]
  by_cases e:k=0
  ·simp[e]
  ·have:=xBw hm h (show k - 1<k by omega) (by omega)
   simp[this]
theorem xnp {l:List En} (h:xhj l):∀ k,k≤l.length→xpn l k=true
 | 0,_=>rfl
 | k+1,hk=>by
  rw[xpn,xnp h k (by omega)]
  by_cases e:k=0
  ·simp[e]
  ·have h1:=h (k - 1) _ _ (xdZ l (k - 1) (by omega)) (by rw[show k - 1+1=k by omega];exact xdZ l k (by omega))
   have h2:xAs (gS l (k - 1)) (gS l k)=false:=by
    unfold xn0 at h1
    rw[decide_eq_false_iff_not] at h1
    unfold xAs
    rw[← Bool.not_eq_true]
    intro h2
    simp only[Bool.and_eq_true,decide_eq_true_eq] at h2
    exact h1 ⟨h2.1,h2.2.1.symm,h2.2.2.symm⟩
   simp[h2]
theorem xim (l:List En) (hc:∀ e ∈ l,ckN e=0):∀ k,k≤l.length→xu9 l k=xlW (l.take k)
 | 0,_=>by simp[xu9,xlW]
 | k+1,hk=>by
  have hk':=xdZ l k (by omega)
  rw[xu9,xim l hc k (by omega),List.take_add_one,hk']
  show _=xlW (l.take k++[gS l k])
  rw[xtu,if_pos (hc _ (xcO l k (by omega)))]
theorem xwu {L:List It} (hg:GoodC L):xtN (xad L).1=zlo L∧xvm (xad L).1=zhi L:=by
 have R:=xcA hg
 have hrow:=R.row
 cases hr:(xad L).1 with
 | nil =>
  have he:=R.exp
  rw[hr] at he
  have:L=[]:=by rw[← he];rfl
  subst this
  exact⟨rfl,rfl⟩
 | cons e r =>
  have he:=R.exp
  rw[hr] at he
  have ho:=R.ok e (by rw[hr];simp)
  have hm:=ho.may
  unfold xa1 at hm
  constructor
  ·unfold xtN
   rw[if_neg (by simp)]
   have h1:=ho.run
   have e1:xh1 (e :: r) (xb7 (xad L).2)=xjg e (xb7 (xad L).2)++xh1 r (xb7 (xad L).2):=by simp[xh1]
   rw[e1] at he
   have e2:(xjg e (xb7 (xad L).2))=(e.id.toNat,txN e (xb7 (xad L).2)) :: ((List.range (e.rn.toNat - 1)).map (fun k=>(e.id.toNat+(k+1),txN e (xb7 (xad L).2)))):=by
    unfold xjg
    rw[show e.rn.toNat=(e.rn.toNat - 1)+1 by omega,List.range_succ_eq_map]
    simp[Function.comp_def]
   rw[e2] at he
   generalize txN e (xb7 (xad L).2)=tx at *
   rw[← he]
   show xhr e.id=xhr ((e.id.toNat:Nat):Int)
   congr 1
   omega
  ·unfold xvm
   rw[if_neg (by simp)]
   obtain⟨r',a,ha⟩:∃ r' a,e :: r=r'++[a]:=⟨(e :: r).dropLast,(e :: r).getLast (by simp),(List.dropLast_concat_getLast (by simp)).symm⟩
   obtain⟨P',t,hP,hl⟩:=R.last r' a (by rw[hr,ha])
   rw[ha,show gS (r'++[a]) ((r'++[a]).length - 1)=a from xw1 (by simp),hl,hP]
   unfold zhi
   simp
theorem xig (k:Int):∀ l:List Bool,(∀ b ∈ l,b=true)→xbq k l=[]
 | [],_=>rfl
 | b :: r,h=>by rw[xbq,if_pos (h b (by simp)),xig (k+1) r (fun x hx=>h x (by simp[hx]))]
theorem xtq {L:List It} {h:Hd} (hg:GoodC L) (had:h.ad=(L.length:Nat)) (hen:h.en=((xad L).1.length:Nat)) (hco:h.co=(conN (xad L).1:Nat)) (hz0:h.z0=zlo L) (hz1:h.z1=zhi L):xbq 10 (xj6 h (xad L).1 (xb7 (xad L).2))=[]:=by
 have R:=xcA hg
 obtain⟨_,hrow,_,hcnt,_,hok,_⟩:=xdF hg
 have hmay:=xcw hg
 have hin:∀ e ∈ (xad L).1,e.off+e.ln≤((xb7 (xad L).2).size:Int):=fun e he=>by
  obtain⟨s,hs,hl⟩:=(hok e he).txt
  have hm:=hmay e he
  unfold xa1 at hm
  have:=xev s _ 0 _ hs
  rw[xdB,hl]
  omega
 obtain⟨z0,z1⟩:=xwu hg
 have hu:=xtK hg
 have hul:(xje (xad L).1).length=(xad L).2.length:=by rw[← List.length_map (f:=prE),hu,xnZ]
 have hone:=xnM (xad L).2 R.good.once (xad L).2 [] rfl
 refine xig _ _ (fun b hb=>?_)
 unfold xj6 at hb
 simp only[List.mem_cons,List.not_mem_nil,or_false] at hb
 rcases hb with rfl|rfl|rfl|rfl|rfl|rfl
 ·exact xnf hmay hrow _ (Nat.le_refl _)
 ·exact xsd hin _ (Nat.le_refl _)
 ·exact xnp R.one _ (Nat.le_refl _)
 ·rw[hu]
  rw[show xeq (xb7 (xad L).2) 0 [] (xk3 (xad L).2 0)=true from hone]
  simp
 ·have hs:=xim (xad L).1 (fun e he=>(hok e he).ck) _ (Nat.le_refl _)
  rw[List.take_length,hcnt] at hs
  rw[hs,had,hen,hco,xp7 hg,hul]
  simp
 ·rw[hz0,hz1,z0,z1]
  simp
theorem xym {e:En} {d:ByteArray} (h:(xd1 e d).2=0):xfm e d=some (xd1 e d).1∧xrr (xd1 e d).1=false:=by
 have hb:xwm e d=(d.extract e.off.toNat (e.off+e.ln).toNat).data.toList:=rfl
 unfold xd1 at h ⊢
 unfold xfm
 rw[← hb] at h ⊢
 split at h
 ·cases h
 rename_i h1
 rw[if_neg h1,if_neg h1]
 split at h
 ·rename_i h2;exact absurd h h2
 rename_i h2
 rw[if_neg h2,if_neg h2]
 split at h
 ·cases h
 rename_i h3
 rw[if_neg h3]
 split at h
 ·cases h
 rename_i h4
 rw[if_neg h4,if_neg h4]
 refine⟨rfl,?_⟩
 unfold xrr
 rw[List.any_eq_false]
 intro x hx
 unfold xal at h3
 have:=List.filter_eq_nil_iff.1 (Classical.not_not.1 h3) x hx
 simp only[decide_eq_true_eq] at this ⊢
 exact this
theorem xsw:∀ (l:List En) (d:ByteArray) (out:List En),(∀ e ∈ l,0≤e.rn)→(goJ l d out).2=0→l.foldl (xip d) ⟨out,false,false⟩=⟨(goJ l d out).1,false,false⟩
 | [],d,out,_,_=>rfl
 | e :: l,d,out,hr,h=>by
  have h0:=hr e (by simp)
  have hr':∀ x ∈ l,0≤x.rn:=fun x hx=>hr x (by simp[hx])
  rw[goJ] at h
  rw[List.foldl_cons,goJ]
  split at h
  ·rename_i h1
   rw[if_pos h1,show xip d ⟨out,false,false⟩ e=⟨out++[e],false,false⟩ by unfold xip;rw[if_pos (by omega)]]
   exact xsw l d _ hr' h
  ·rename_i h1
   rw[if_neg h1]
   split at h
   ·rename_i h2;exact absurd h h2
   ·rename_i h2
    rw[if_neg h2]
    obtain⟨h3,h4⟩:=xym (Classical.not_not.1 h2)
    rw[show xip d ⟨out,false,false⟩ e=⟨out++(xd1 e d).1,false,false⟩ by unfold xip;rw[if_neg (by omega),h3];simp[h4]]
    exact xsw l d _ hr' h
theorem xwF {root l:List En} {d:ByteArray} (hm:xaT root) (h:xpd root d=(l,0)):xjd d root=⟨l,false,false⟩:=by
 unfold xpd at h
 split at h
 ·rename_i h1;simp only[Prod.mk.injEq] at h;exact absurd h.2 h1
 split at h
 ·rename_i h1;simp only[Prod.mk.injEq] at h;exact absurd h.2 h1
 rename_i h2
 split at h
 ·rename_i h1;simp only[Prod.mk.injEq] at h;exact absurd h.2 h1
 simp only[Prod.mk.injEq,and_true] at h
 unfold xjd
 rw[xsw root d [] (fun e he=>(hm e he).2.2.2.1) (Classical.not_not.1 h2),h]
theorem xzr {t:ByteArray} {X:Hd} {p:Pt} (h:xgA t=⟨X,p,0⟩):xcB (xb2 t)=(X,0)∧¬ xkX X t.size∧p=⟨xpm t X.rf X.rl,xpm t X.mf X.ml,xpm t X.lf X.ll,xpm t X.df X.dl⟩:=by
 unfold xgA at h
 split at h
 ·rename_i h1;simp only[Ct.mk.injEq] at h;exact absurd h.2.2 h1
 ·rename_i h1
  have h1:=Classical.not_not.1 h1
  split at h
  ·simp only[Ct.mk.injEq] at h;omega
  ·rename_i h2
   simp only[Ct.mk.injEq,and_true] at h
   obtain⟨rfl,rfl⟩:=h
   exact⟨Prod.ext rfl h1,h2,rfl⟩
theorem xmz {L:List It} {b k b':Int} {s:ByteArray} (hg:GoodC L) (hl:L.length≤150) (hk:U8 k) (hs:s.size≤1000) (ht:totF (xad L).2≤100000) (hc:ckP b k s=0) (hb:b≤b') :
  ∃ y,xcr L b k s=(y,0)∧y.size≤1000000∧xbs y b'=[]:=by
 obtain⟨y,X,p,h1,W⟩:=xuo hg hl hk hs ht hc
 refine⟨y,h1,W.sz,?_⟩
 obtain⟨y',h1',hcut,hsz,hfew⟩:=xkZ hg hl hk (show s.size≤1000000 by omega) hc
 obtain rfl:y=y':=by rw[h1] at h1';simpa using h1'
 have hcw:=W.cut
 rw[hcut] at hcw
 simp only[Ct.mk.injEq,and_true] at hcw
 obtain⟨eX,ep⟩:=hcw
 obtain⟨c1,c2,c3⟩:=xzr hcut
 obtain⟨f0,f1,f2,f3,f4,f5,f6,f7⟩:=xg3 (h:=hdP L k) hfew
 have hfin:=W.fin
 have hco:(xe0 (hdP L k) (ptP L b s)).co=(conN (xad L).1:Nat):=rfl
 have hz0:(xe0 (hdP L k) (ptP L b s)).z0=zlo L:=rfl
 have hz1:(xe0 (hdP L k) (ptP L b s)).z1=zhi L:=rfl
 have h3c:(ptP L b s).p3=xb7 (xad L).2:=rfl
 have h1s:(ptP L b s).p1=s:=rfl
 rw[eX] at c1 c2 c3 f0 f1 f2 f3 f4 f5 f6 f7 hco hz0 hz1
 rw[ep] at c3 f1 f2 f3 f4 f5 f6 f7 h3c h1s
 unfold xkX at c2
 have e0:xeh y X.rf X.rl=p.p0:=by rw[xiY (by omega) (by omega) (by omega),c3]
 have e1:xeh y X.mf X.ml=p.p1:=by rw[xiY (by omega) (by omega) (by omega),c3]
 have e2:xeh y X.lf X.ll=p.p2:=by rw[xiY (by omega) (by omega) (by omega),c3]
 have e3:xeh y X.df X.dl=p.p3:=by rw[xiY (by omega) (by omega) (by omega),c3]
 obtain⟨n,hd⟩:=W.dec
 have hroot:xht X y=((xaq (xad L).1 b).root,n,0):=by unfold xht;rw[e0];exact hd
 unfold xbs
 rw[c1,if_neg (by simp)]
 unfold xmo
 rw[hroot,if_neg (by simp)]
 have hbud:=W.p0
 have hob:xu3 (xd5 (bI s)).1=true∧512≤b:=by
  unfold ckP at hc
  split at hc
  ·omega
  split at hc
  ·omega
  split at hc
  ·rename_i h;exact absurd hc h
  split at hc
  ·rename_i h;exact⟨h,by omega⟩
  ·omega
 have hf:xbq 2 (xeo X y b')=[]:=by
  refine xig _ _ (fun c hcm=>?_)
  unfold xeo at hcm
  simp only[List.mem_cons,List.not_mem_nil,or_false] at hcm
  rcases hcm with rfl|rfl|rfl|rfl|rfl|rfl
  ·rw[decide_eq_true_eq];exact W.laid
  ·unfold xep
   simp only[Bool.and_eq_true,decide_eq_true_eq]
   omega
  ·rw[W.inn,W.out,W.cl];rfl
  ·rw[e1,h1s];exact hob.1
  ·unfold xAQ
   simp only[Bool.and_eq_true,decide_eq_true_eq]
   omega
  ·rw[hroot];rfl
 rw[hf,List.nil_append]
 unfold xhs
 rw[hroot,e2,e3]
 simp only
 rw[xwF W.may W.join]
 simp only[Bool.or_self,Bool.false_eq_true,if_false]
 rw[h3c]
 exact xtq hg W.ad W.en hco hz0 hz1
end Go.Proofs.YtjkgkmmkehnggaaGreatDoor
namespace Go.Proofs.YtjkgkmmkehnggaaGreatDoor
set_option linter.unusedVariables false
set_option linter.unusedSimpArgs false
open Go.RowKit Go.Maps
set_option maxRecDepth 20000
theorem xl4 {H:Type} (u:DataW H) (acc:List Lit):IsMap (setOf u acc):=by
 induction acc using xie with
 | h0=>exact isMap_empty
 | hs l a ih=>rw[setOf_snoc];exact ih.put a u
theorem xmR {H:Type} (u z:DataW H) (k:Lit) (acc:List Lit) (hk:∀ x ∈ acc,WideAt.IsKeyLit x) (hd:k ∈ acc∨k ∉ acc):(setOf u acc).atKey k z=if acc.any (fun x=>x.sameKey k)=true then u else z:=by
 induction acc using xie with
 | h0=>simp only[List.any_nil,Bool.false_eq_true,if_false];exact atKey_of_not_has rfl z
 | hs l a ih =>
  have hl:∀ x ∈ l,WideAt.IsKeyLit x:=fun x hx=>hk x (by simp[hx])
  rw[setOf_snoc,List.any_append,List.any_cons,List.any_nil,Bool.or_false]
  by_cases e:k=a
  ·subst e
   rw[atKey_put_same (xl4 u l) (hk k (by simp)),WideAt.sameKey_self (hk k (by simp))]
   simp
  ·rw[atKey_put_other e,ih hl (Classical.em _),sameKey_ne (fun e'=>e e'.symm)]
   simp
def klU (x:Int):Lit:=.int .u8 x
theorem xrl (R:List Int):∀ x ∈ R.map klU,WideAt.IsKeyLit x:=fun x hx=>by obtain⟨q,_,rfl⟩:=List.mem_map.1 hx;trivial
theorem xqa (R:List Int) (x:Int):(R.map klU).any (fun y=>y.sameKey (klU x))=decide (x ∈ R):=by
 rw[List.any_map]
 by_cases h:x ∈ R
 ·rw[decide_eq_true h,List.any_eq_true]
  exact⟨x,h,by simp[Function.comp,klU,Lit.sameKey]⟩
 ·rw[decide_eq_false h,List.any_eq_false]
  intro y hy
  simp only[Function.comp,klU,Lit.sameKey]
  intro e
  have:y=x:=by simpa using e
  exact h (this ▸ hy)
def xtC (R:List Int):DataW Unit:=setOf (.lit (.bool true)) (R.map klU)
theorem xsp (R:List Int) (x:Int):xtC (R++[x])=(xtC R).put (klU x) (.lit (.bool true)):=by
 unfold xtC
 rw[List.map_append]
 exact setOf_snoc _ _ _
theorem xyC (R:List Int) (x:Int):(xtC R).atKey (klU x) (.lit (.bool false))=.lit (.bool (decide (x ∈ R))):=by
 unfold xtC
 rw[xmR _ _ _ _ (xrl R) (Classical.em _),xqa]
 by_cases h:x ∈ R <;> simp[h]
theorem xnU (R:List Int) (x:Int):has (xtC R) (klU x)=decide (x ∈ R):=by
 unfold xtC
 rw[has_setOf _ _ _ (xrl R),xqa]
theorem xnC {P:Program} {e:TypeId} (he:P.underlying e=some .bool) {v:Value} {z:DataW Unit × List MemPlace} (h:plainElem P e v=some z):∃ x,v=.bool x∧z.1=.lit (.bool x):=by
 unfold plainElem at h
 rw[he] at h
 cases v <;> simp at h
 subst h
 exact⟨_,rfl,rfl⟩
theorem xCf:Keyed Tryz.prog 5:=int_keyed Tryz.underlying5
theorem xDj (x:Int) (h:0≤x∧x≤255):keyOf Tryz.prog 5 (.int .u8 x)=some (klU x):=by
 have hw:(Lit.int .u8 x).wf=true:=WalkArith.wf_u8 h
 simp[keyOf,mapKey,Tryz.underlying5,hw,klU]
def xbr (W:World) (b:Nat) (R:List Int):Prop:=(∀ x ∈ R,0≤x∧x≤255)∧W.ownsMap Tryz.prog 5 (plainElem (H:=Unit) Tryz.prog 4) b R.length (xtC R)
theorem xbr.lt {W:World} {b:Nat} {R:List Int} (h:xbr W b R):b<W.heap.size:=h.2.lt
theorem xbr.made (w:World):xbr (w.alloc (.map #[] 0)) w.heap.size []:=⟨by simp,World.ownsMap_made _ _ _ _⟩
theorem xbr.below {W X:World} {b B:Nat} {R:List Int} (h:xbr W b R) (hb:Below B W X) (hB:b<B):xbr X b R:=by
 obtain⟨h0,es,clock,h1,h2⟩:=h
 exact⟨h0,es,clock,(hb.block b hB).trans h1,h2⟩
theorem xbr.look {W:World} {b:Nat} {R:List Int} (h:xbr W b R) (x:Int) (hx:0≤x∧x≤255):(Instr.lookup 48 (.map (some b)) (.int .u8 x) false).run Tryz.prog W=.ok (.bool (decide (x ∈ R))) W:=by
 obtain⟨v,ps,h1,h2⟩:=h.2.lookup xCf Tryz.underlying48 (Tryz.zeroValue4 W) (plainElem_bool Tryz.underlying4 false) (xDj x hx)
 obtain⟨y,rfl,hy⟩:=xnC Tryz.underlying4 h2
 rw[xyC] at hy
 simp only[DataW.lit.injEq,Lit.bool.injEq] at hy
 rw[h1,hy]
theorem xbr.tell {W:World} {b:Nat} {R:List Int} (h:xbr W b R) (x:Int) (hx:0≤x∧x≤255) (hn:R.length<maxLen):∃ W',(Instr.mapUpdate 48 (.map (some b)) (.int .u8 x) (.bool true)).run Tryz.prog W=.ok () W'∧xbr W' b (R++[x])∧W.grownBy W' (some b):=by
 obtain⟨W',h1,h2,h3⟩:=h.2.update xCf Tryz.underlying48 hn (xDj x hx) (plainElem_bool Tryz.underlying4 true)
 refine⟨W',h1,⟨fun y hy=>?_,?_⟩,h3⟩
 ·rcases List.mem_append.1 hy with hy|hy
  ·exact h.1 y hy
  ·rw[List.mem_singleton.1 hy];exact hx
 ·rw[xsp,List.length_append]
  exact h2
def klT (s:ByteArray):Lit:=.string s.data.toList
theorem xzI (R:List ByteArray):∀ x ∈ R.map klT,WideAt.IsKeyLit x:=fun x hx=>by obtain⟨q,_,rfl⟩:=List.mem_map.1 hx;trivial
theorem xzq {a b:ByteArray} (h:klT a=klT b):a=b:=by
 simp only[klT,Lit.string.injEq] at h
 exact ByteArray.ext (Array.toList_inj.1 h)
theorem xAn (R:List ByteArray) (x:ByteArray):(R.map klT).any (fun y=>y.sameKey (klT x))=decide (x ∈ R):=by
 rw[List.any_map]
 by_cases h:x ∈ R
 ·rw[decide_eq_true h,List.any_eq_true]
  exact⟨x,h,WideAt.sameKey_self (show WideAt.IsKeyLit (klT x) from trivial)⟩
 ·rw[decide_eq_false h,List.any_eq_false]
  intro y hy e
  have:=xzq (WideAt.sameKey_eq e)
  exact h (this ▸ hy)
def xAp (R:List ByteArray):DataW Unit:=setOf (.lit (.bool true)) (R.map klT)
theorem xsT (R:List ByteArray) (x:ByteArray):xAp (R++[x])=(xAp R).put (klT x) (.lit (.bool true)):=by
 unfold xAp
 rw[List.map_append]
 exact setOf_snoc _ _ _
theorem xxV (R:List ByteArray) (x:ByteArray):(xAp R).atKey (klT x) (.lit (.bool false))=.lit (.bool (decide (x ∈ R))):=by
 unfold xAp
 rw[xmR _ _ _ _ (xzI R) (Classical.em _),xAn]
 by_cases h:x ∈ R <;> simp[h]
theorem xC7:Keyed Tryz.prog 9:=string_keyed Tryz.underlying9
theorem xDg (s:ByteArray) (h:s.size≤maxLen):keyOf Tryz.prog 9 (.string s)=some (klT s):=by
 simp[keyOf,mapKey,Tryz.underlying9,h,klT]
def xbU (W:World) (b:Nat) (R:List ByteArray):Prop:=W.ownsMap Tryz.prog 9 (plainElem (H:=Unit) Tryz.prog 4) b R.length (xAp R)
theorem xbU.made (w:World):xbU (w.alloc (.map #[] 0)) w.heap.size []:=World.ownsMap_made _ _ _ _
theorem xbU.look {W:World} {b:Nat} {R:List ByteArray} (h:xbU W b R) (x:ByteArray) (hx:x.size≤maxLen):(Instr.lookup 295 (.map (some b)) (.string x) false).run Tryz.prog W=.ok (.bool (decide (x ∈ R))) W:=by
 obtain⟨v,ps,h1,h2⟩:=World.ownsMap.lookup h xC7 Tryz.underlying295 (Tryz.zeroValue4 W) (plainElem_bool Tryz.underlying4 false) (xDg x hx)
 obtain⟨y,rfl,hy⟩:=xnC Tryz.underlying4 h2
 rw[xxV] at hy
 simp only[DataW.lit.injEq,Lit.bool.injEq] at hy
 rw[h1,hy]
theorem xbU.tell {W:World} {b:Nat} {R:List ByteArray} (h:xbU W b R) (x:ByteArray) (hx:x.size≤maxLen) (hn:R.length<maxLen):∃ W',(Instr.mapUpdate 295 (.map (some b)) (.string x) (.bool true)).run Tryz.prog W=.ok () W'∧xbU W' b (R++[x])∧W.grownBy W' (some b):=by
 obtain⟨W',h1,h2,h3⟩:=World.ownsMap.update h xC7 Tryz.underlying295 hn (xDg x hx) (plainElem_bool Tryz.underlying4 true)
 refine⟨W',h1,?_,h3⟩
 unfold xbU
 rw[xsT,List.length_append]
 exact h2
theorem xam.grown {W X:World} {v:Value} {l:List En} {b:Nat} (h:xam W v l) (hg:W.grownBy X (some b)) (hb:∃ es c,W.heap[b]?=some (.map es c)):xam X v l:=by
 obtain⟨es,c,hm⟩:=hb
 obtain⟨a,cap,rfl,h1,h2,hc⟩:=h
 refine⟨a,cap,rfl,h1,h2,fun k t ht=>?_⟩
 obtain⟨g,off,ha,hgl,c0,c1,c2,c3⟩:=hc k t ht
 have hn:g≠b:=by
  rintro rfl
  simp[World.cell?,hm] at c3
 have hne:∀ o,some (⟨g,o,none⟩:Addr).block≠some b:=fun o e=>hn (Option.some.inj e)
 exact⟨g,off,ha,Nat.lt_of_lt_of_le hgl hg.size,hg.cell c0 (hne _),hg.cell c1 (hne _),hg.cell c2 (hne _),hg.cell c3 (hne _)⟩
theorem xbr.map {W:World} {b:Nat} {R:List Int} (h:xbr W b R):∃ es c,W.heap[b]?=some (.map es c):=by
 obtain⟨_,es,clock,h1,_⟩:=h
 exact⟨es,clock,h1⟩
end Go.Proofs.YtjkgkmmkehnggaaGreatDoor
namespace Go.Proofs.YtjkgkmmkehnggaaGreatDoor
set_option linter.unusedVariables false
set_option linter.unusedSimpArgs false
open Go.RowKit
set_option maxRecDepth 20000
theorem xnG (e:En) (w:World):Calls Tryz.prog 108 #[.agg (eC e)] w fun x w'=>x=.returned (.bool (decide (e.rn=0)))∧Below w.heap.size w w':=by
 obtain⟨i,o,l,r⟩:=e
 unfold eC
 dsimp only
 have hd:(r == 0)=decide (r=0):=by rw[Bool.eq_iff_iff];simp
 go_enter Tryz.func108,Tryz.ntmps108
 go_wp2_with fail
 go_ret
 exact⟨xkY (by first|exact hd|rfl|simp),by go_grown⟩
theorem xon (l:List En):xrr l=decide (xal l≠[]):=by
 unfold xrr xal
 rw[Bool.eq_iff_iff,List.any_eq_true,decide_eq_true_eq]
 constructor
 ·rintro⟨x,hx,h⟩ h0
  exact List.filter_eq_nil_iff.1 h0 x hx h
 ·intro h
  refine Classical.byContradiction (fun hn=>h (List.filter_eq_nil_iff.2 (fun x hx hr=>hn ⟨x,hx,hr⟩)))
theorem xtQ (v:Value) (l:List En) (w:World) (hv:xam w v l) (hl:l.length≤20000000):Calls Tryz.prog 184 #[v,.func (.func 108) #[] #[]] w (xC5 l w):=by
 obtain⟨a,cap,rfl,h1,h2,hc⟩:=hv
 have HC:=lH hc
 clear hc
 go_enter Tryz.func184,Tryz.ntmps184
 go_wp2_with fail
 go_loopw [8] (fun s wr=>∃ i:Nat,i≤l.length∧s=.int .i64 i∧Hid (xal (l.take i)=[])∧Below w.heap.size w wr) (fun s _=>l.length - (intOf s).toNat)
 case atStart=>exact⟨0,Nat.zero_le _,rfl,lH rfl,Below.refl _ _⟩
 case round =>
  obtain⟨i,hi,rfl,HM,hbw⟩:=hrel
  by_cases hlt:i<l.length
  ·obtain⟨t,ht⟩:∃ t,l[i]?=some t:=⟨_,List.getElem?_eq_getElem hlt⟩
   obtain⟨g,off,rfl,hg,hcs⟩:=HC.out i t ht
   obtain⟨l0,l1,l2,l3⟩:=xfI hbw hcs
   have hi2:(i:Int)<(l.length:Int):=by omega
   have HT:=lH ht
   have HE:=lH (xnG t wr)
   have HTK:=lH (xgX i t ht)
   have HSM:=lH (xgZ i t ht)
   clear ht hcs
   obtain⟨p1,p2,p3,p4⟩:=t
   unfold eC at HE
   dsimp only at l0 l1 l2 l3 HE HTK HSM
   by_cases hp:p4=0
   ·have HP:=lH (HSM.out hp)
    rw[decide_eq_true hp] at HE
    clear hp
    go_wp2_with fail
    refine HE.out.mono ?_
    rintro e w1 ⟨rfl,hb⟩
    have hbw1:=hbw.trans (hb.mono hbw.size)
    clear hb hbw l0 l1 l2 l3 HE
    go_wp2_with fail
    go_ret
    exact⟨i,rfl,by rw[decide_eq_true HP.out,decide_eq_true (by omega)],hbw1⟩
   ·have HP:Hid (xal (l.take (i+1))=[]):=lH (by rw[HTK.out,HM.out];unfold xal;simp[hp])
    rw[decide_eq_false hp] at HE
    clear hp
    go_wp2_with fail
    refine HE.out.mono ?_
    rintro e w1 ⟨rfl,hb⟩
    have hbw1:=hbw.trans (hb.mono hbw.size)
    clear hb hbw l0 l1 l2 l3 HE
    go_wp2_with fail
    go_roundw
    case rel=>exact⟨i+1,by omega,by go_num,HP,hbw1⟩
    case measure=>simp[intOf];omega
  ·obtain rfl:i=l.length:=by omega
   rw[List.take_length] at HM
   go_wp2_with fail
   go_ret
   exact⟨-1,rfl,by rw[HM.out];decide,hbw⟩
theorem xrS (v:Value) (l:List En) (w:World) (hv:xam w v l) (hl:l.length≤20000000):Calls Tryz.prog 110 #[v,.func (.func 108) #[] #[]] w fun x w'=>x=.returned (.bool (xrr l))∧Below w.heap.size w w':=by
 have HI:=lH (xtQ v l w hv hl)
 rw[xon]
 obtain⟨av,cv,rfl⟩:=xak hv
 clear hv
 go_enter Tryz.func110,Tryz.ntmps110
 go_wp2_with fail
 refine HI.out.mono ?_
 rintro x w1 ⟨r,rfl,hr,hb⟩
 have HR:=lH hr
 clear hr
 go_wp2_with fail
 go_ret
 exact⟨xkY HR.out,hb⟩
theorem xvc (s:ByteArray) (w:World) (hq:QTab w) (hs:s.size≤1000000):Calls Tryz.prog 42 #[.string s] w fun e w'=>e=.returned (.bool (xu3 (xd5 (bI s)).1))∧Below w.heap.size w w':=by
 have HT:=lH (xjI s w hq hs)
 obtain⟨V,hV⟩:∃ V,xd5 (bI s)=V:=⟨_,rfl⟩
 rw[hV] at HT ⊢
 unfold xwb at HT
 obtain⟨b,hbo⟩:∃ b,xu3 V.1=b:=⟨_,rfl⟩
 rw[hbo]
 have HBO:=lH hbo
 clear hq hV hbo
 go_enter Tryz.func42,Tryz.ntmps42
 go_wp2_with fail
 refine HT.out.mono ?_
 rintro e w1 ⟨⟨x,rfl,hx⟩,hb1⟩
 have HB:=lH hb1
 obtain⟨v,hv⟩:=xxb _ _ _ _ hx
 rw[HBO.out] at hv
 clear hx hb1 HT HBO
 generalize V.2.2=z at *
 generalize (V.2.1:Int)=n at *
 go_wp2_with fail
 go_ret
 exact⟨rfl,HB.out⟩
theorem xfe (s:ByteArray) (f l:Int) (w:World) (hs:s.size≤1000000) (f0:0≤f) (l0:0≤l) (hfl:f+l≤1099511627776) :
  Calls Tryz.prog 43 #[.string s,.agg #[.int .u64 f,.int .u64 l]] w fun e w'=>e=.returned (.string (xeh s f l))∧Below w.heap.size w w':=by
 have hw4:IntKind.u64.wrap (f+l)=f+l:=by rw[IntKind.wrap_u64];omega
 have hw5:IntKind.u64.wrap (s.size:Int)=(s.size:Int):=by rw[IntKind.wrap_u64];omega
 have HEN:=lH (fun W=>xmc f l W)
 rw[hw4] at HEN
 obtain⟨a,ha⟩:∃ a,min f (s.size:Int)=a:=⟨_,rfl⟩
 obtain⟨b,hb⟩:∃ b,min (f+l) (s.size:Int)=b:=⟨_,rfl⟩
 unfold xeh
 have a0:0≤a:=by omega
 have a1:a≤b:=by omega
 have a2:b≤(s.size:Int):=by omega
 rw[ha,hb]
 go_enter Tryz.func43,Tryz.ntmps43
 go_upto_region 2 with fail
 refine wp_region_held_drew (S:=fun w'=>w'.cell? ⟨w.heap.size,0,none⟩=some (.int .u64 f)∧w'.cell? ⟨w.heap.size,1,none⟩=some (.int .u64 l)∧w.heap.size<w'.heap.size∧Below w.heap.size w w') (by kernel_rfl) ⟨by simp[go_sem],by simp[go_sem],by simp,by go_grown⟩ (fun hH0=>?_)
 refine tK 0 9 hH0 ?_
 refine tK 1 10 hH0 ?_
 refine tK 2 11 hH0 ?_
 refine tK 3 12 hH0 ?_
 refine tK 4 13 hH0 ?_
 refine tK 5 14 hH0 ?_
 refine tK 7 16 hH0 ?_
 refine wpAnyH_ready (rs:=[6]) (by kernel_rfl) (by simp) ?_
 refine AllReadyH.cons rfl (fun K hK=>?_) AllReadyH.nil
 go_simp
 refine(HEN.out _).mono ?_
 rintro e w1 ⟨rfl,hb⟩
 go_wp2_with fail
 refine hK.out _ _ (⟨xaa hb hH0.1,xaa hb hH0.2.1,Nat.lt_of_lt_of_le hH0.2.2.1 hb.size,hH0.2.2.2.trans (hb.mono (Nat.le_of_lt hH0.2.2.1))⟩) (fun hH1=>?_)
 clear hb hH0
 clear hK K
 try simp only[Act.put,zsA,zsB,zsC]
 refine tK 8 17 hH1 ?_
 refine tK 9 18 hH1 ?_
 refine tK 10 4 hH1 ?_
 refine wpAnyH_done (by kernel_rfl) ?_ _
 go_wp2_with fail
 go_ret
 exact⟨rfl,by first|exact hH1.2.2.2|go_grown⟩
theorem xwA {w:World} {a:Addr} {v:Value} (h:w.cell? a=some v):a.block<w.heap.size:=by
 rcases Nat.lt_or_ge a.block w.heap.size with h'|h'
 ·exact h'
 ·simp[World.cell?,Array.getElem?_eq_none h'] at h
theorem xgq {w w':World} {a:Addr} {v:Value} (hb:Below w.heap.size w w') (h:w.cell? a=some v):w'.cell? a=some v:=(hb.cell (p:=a) (xwA h)).trans h
def xbH:List (Int × Int)→List Value
 | []=>[]
 | t :: l=>.int .u64 t.1 :: .int .u32 t.2 :: xbH l
theorem xcP (l:List (Int × Int)):(xbH l).length=l.length*2:=by
 induction l with
 | nil=>rfl
 | cons t l ih=>simp only[xbH,List.length_cons,ih];omega
theorem xpN (l:List (Int × Int)) (n:Nat):xbH (l.take n)=(xbH l).take (n*2):=by
 induction l generalizing n with
 | nil=>simp[xbH]
 | cons t l ih =>
  cases n with
  | zero=>simp[xbH]
  | succ n=>rw[show (n+1)*2=n*2+1+1 from by omega];simp[xbH,ih]
theorem xc1 (l:List (Int × Int)) (n:Nat) (t:Int × Int) (h:l[n]?=some t):(xbH l)[n*2]?=some (.int .u64 t.1)∧(xbH l)[n*2+1]?=some (.int .u32 t.2):=by
 induction l generalizing n with
 | nil=>simp at h
 | cons u l ih =>
  cases n with
  | zero=>simp only[List.getElem?_cons_zero,Option.some.injEq] at h;subst h;exact⟨rfl,rfl⟩
  | succ n =>
   have:=ih n (by simpa using h)
   rw[show (n+1)*2=n*2+1+1 from by omega]
   simpa[xbH] using this
def xtD (w:World) (v:Value) (l:List (Int × Int)):Prop :=
 ∃ a cap,v=.slice a l.length cap∧l.length≤cap∧cap≤maxLen∧∀ (k:Nat) (t:Int × Int),l[k]?=some t→∃ g off,a=some ⟨g,off,none⟩∧g<w.heap.size∧w.cell? ⟨g,off+k*2,none⟩=some (.int .u64 t.1)∧w.cell? ⟨g,off+k*2+1,none⟩=some (.int .u32 t.2)
theorem xtD.below {w w':World} {v:Value} {l:List (Int × Int)} (h:xtD w v l) (hb:Below w.heap.size w w'):xtD w' v l:=by
 obtain⟨a,cap,hv,h1,h2,hc⟩:=h
 refine⟨a,cap,hv,h1,h2,fun k t ht=>?_⟩
 obtain⟨g,off,ha,hg,c0,c1⟩:=hc k t ht
 exact⟨g,off,ha,Nat.lt_of_lt_of_le hg hb.size,xgq hb c0,xgq hb c1⟩
theorem xA3 (w:World):xtD w (.slice none 0 0) []:=⟨none,0,rfl,Nat.le_refl _,by unfold maxLen;omega,fun k t h=>by simp at h⟩
def xd7 (w:World) (B:Nat) (E:TypeId) (v:Value) (l:List (Int × Int)):Prop:=w.ownsRow B E 2 v l.length (xbH l)
theorem xd7.lt {w:World} {B:Nat} {E:TypeId} {v:Value} {l:List (Int × Int)} (h:xd7 w B E v l):∀ k,v.ownBlock=some k→B≤k∧k<w.heap.size:=World.ownsRow.lt h
theorem xd7.below {w w':World} {B:Nat} {E:TypeId} {v:Value} {l:List (Int × Int)} (h:xd7 w B E v l) (hb:Below w.heap.size w w'):xd7 w' B E v l:=by
 have hlt:=h.lt
 obtain⟨h1,h2⟩:=h
 refine⟨h1,?_⟩
 rcases h2 with h2|⟨g,cap,cur,hv,hg,hh,r⟩
 ·exact .inl h2
 ·refine .inr ⟨g,cap,cur,hv,hg,?_,r⟩
  rw[hb.block g (hlt g (by rw[hv];rfl)).2];exact hh
theorem xd7.form {w:World} {B:Nat} {E:TypeId} {v:Value} {l:List (Int × Int)} (h:xd7 w B E v l) :
  (v=.slice none 0 0∧l=[])∨∃ g cap,v=.slice (some ⟨g,0,none⟩) l.length cap∧B≤g∧g<w.heap.size∧l.length≤cap∧cap≤maxLen∧(∀ j,j<l.length*2→w.cell? ⟨g,j,none⟩=(xbH l)[j]?)∧∀ j,w.frozen? ⟨g,j,none⟩=false:=by
 have hlt:=h.lt
 have h':=h
 obtain⟨h1,h2⟩:=h
 rcases h2 with ⟨rfl,hn⟩|⟨g,cap,cur,rfl,hg,hh,hle,hm,_⟩
 ·exact .inl ⟨rfl,List.eq_nil_of_length_eq_zero hn⟩
 ·exact .inr ⟨g,cap,rfl,hg,(hlt g rfl).2,hle,hm,fun j hj=>World.ownsRow.cellAt h' j hj,fun j=>World.ownsRow.frozenAt h' j⟩
theorem xd7.pqAt {w:World} {B:Nat} {E:TypeId} {v:Value} {l:List (Int × Int)} (h:xd7 w B E v l):xtD w v l:=by
 rcases h.form with ⟨rfl,rfl⟩|⟨g,cap,rfl,hB,hg,hle,hm,hc,_⟩
 ·exact xA3 w
 ·refine⟨_,cap,rfl,hle,hm,fun k t ht=>⟨g,0,rfl,hg,?_⟩⟩
  have hk:k<l.length:=(List.getElem?_eq_some_iff.1 ht).1
  obtain⟨f0,f1⟩:=xc1 l k t ht
  exact⟨by rw[Nat.zero_add,hc _ (by omega)];exact f0,by rw[Nat.zero_add,hc _ (by omega)];exact f1⟩
theorem xeM {w:World} {B n:Nat} {E:TypeId} {v:Value} {xs:List Value} {l:List (Int × Int)} (h:w.ownsRow B E 2 v n xs) (hn:n=l.length) (hx:xs=xbH l):xd7 w B E v l:=by
 subst hn;subst hx;exact h
theorem xkh (M:List (Int × Int)) (k:Nat) (t:Int × Int):((xbH M).set (k*2) (.int .u64 t.1)).set (k*2+1) (.int .u32 t.2)=xbH (M.set k t):=by
 induction M generalizing k with
 | nil=>rfl
 | cons u M ih =>
  cases k with
  | zero=>rfl
  | succ k =>
   rw[show (k+1)*2+1=k*2+1+1+1 from by omega,show (k+1)*2=k*2+1+1 from by omega]
   simp only[xbH,List.set_cons_succ,ih]
theorem xpe (n:Nat):∀ v ∈ (Builtin.zeroCells #[.int .u64 0,.int .u32 0] n).toList,v.oneCell'=true:=by
 intro v hv
 rw[Array.mem_toList_iff] at hv
 obtain⟨i,hi,rfl⟩:=Array.mem_iff_getElem.1 hv
 simp only[Builtin.zeroCells,Array.getElem_map,Array.getElem_range] at hi ⊢
 generalize i % (#[Value.int .u64 0,Value.int .u32 0]:Array Value).size=r
 match r with
 | 0=>rfl
 | 1=>rfl
 | r+2=>rfl
theorem xot (W:World) (g o n c:Nat) (hn:0<n) (hc:∀ j,j<n*2→(W.cell? ⟨g,o+j,none⟩).isSome=true) (hf:∀ j,j<n*2→W.frozen? ⟨g,o+j,none⟩=false) (ty:TypeId) :
  (Builtin.clear_ #[216] ty #[.slice (some ⟨g,o,none⟩) n c]).run Tryz.prog W=.ok (.tuple #[]) (W.setCells g o (Builtin.zeroCells #[.int .u64 0,.int .u32 0] n).toList):=by
 have hlen:(Builtin.zeroCells #[.int .u64 0,.int .u32 0] n).toList.length=n*2:=by rw[Array.length_toList,size_zeroCells];rfl
 have hst:=run_storeCells_cells (P:=Tryz.prog) g o (Builtin.zeroCells #[.int .u64 0,.int .u32 0] n).toList 0 W (by rw[hlen];simpa using hc) (by rw[hlen];simpa using hf) (xpe n)
 simp only[Nat.add_zero] at hst
 obtain⟨m,rfl⟩:∃ m,n=m+1:=⟨n - 1,by omega⟩
 have ht:=Tryz.underlying216
 have hv:=Tryz.zeroValue214
 have hz:(Value.agg #[.int .u64 0,.int .u32 0]).cells=#[.int .u64 0,.int .u32 0]:=by kernel_rfl
 simp[Builtin.clear_,run_underlying ht,hv,hz,hst]
theorem xd7.cut {W:World} {B:Nat} {g cap n k:Nat} {M:List (Int × Int)} (h:xd7 W B 214 (.slice (some ⟨g,0,none⟩) n cap) M) (hn:M.length=n) (hk:k≤n):xd7 W B 214 (.slice (some ⟨g,0,none⟩) k cap) (M.take k):=by
 obtain⟨h1,h2⟩:=h
 rcases h2 with ⟨h2,_⟩|⟨g',cap',cur,hv,hg,hh,hle,hm,hs,ht⟩
 ·cases h2
 ·injection hv with e1 e2 e3
  injection e1 with e1
  injection e1 with e1
  subst e1 e3
  have hl:(M.take k).length=k:=by rw[List.length_take];omega
  refine⟨by rw[xcP],.inr ⟨g,cap,cur,by rw[hl],hg,hh,by omega,hm,hs,?_⟩⟩
  rw[hl,xpN,← ht,List.take_take,hn]
  congr 1
  omega
theorem xq5 (W:World) (B g cap k:Nat) (M:List (Int × Int)) (hk:M.length=k) (h:xd7 W B 214 (.slice (some ⟨g,0,none⟩) k cap) M) (vs:List Value) (o:Nat) (ho:k*2≤o) :
  xd7 (W.setCells g o vs) B 214 (.slice (some ⟨g,0,none⟩) k cap) M∧W.grownBy (W.setCells g o vs) (some g):=by
 induction vs generalizing W o with
 | nil=>exact⟨h,World.grownBy.refl _ _⟩
 | cons u vs ih =>
  have h2:=h
  unfold xd7 at h2
  rw[hk] at h2
  have h3:=World.ownsRow.stored h2 o u
  rw[List.set_eq_of_length_le (by rw[xcP];omega)] at h3
  have h4:xd7 (W.setCell ⟨g,o,none⟩ u) B 214 (.slice (some ⟨g,0,none⟩) k cap) M:=xeM h3.1 hk.symm rfl
  obtain⟨i1,i2⟩:=ih _ h4 (o+1) (by omega)
  exact⟨i1,h3.2.trans i2⟩
end Go.Proofs.YtjkgkmmkehnggaaGreatDoor
