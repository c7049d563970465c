/- dPq dPs dNo dNc dPb dPo dPn. -/
import Derived.Test.YtjkgkmmkehnggaaGreatDoorYd3
import Derived.Test.YtjkgkmmkehnggaaGreatDoorYs
namespace Go.Proofs.YtjkgkmmkehnggaaGreatDoor
set_option linter.unusedVariables false
set_option linter.unusedSimpArgs false
open Go.RowKit
set_option maxRecDepth 20000
set_option maxHeartbeats 2000000
theorem xBs:(Tryz.prog.info? (tlL_ren.t 116)).map (fun i=>(i.zero,i.size))=some (some (.agg (Array.replicate 256 (.bool false))),256):=by kernel_rfl
theorem xCP:(Tryz.prog.info? (trL_ren.t 116)).map (fun i=>(i.zero,i.size))=some (some (.agg (Array.replicate 256 (.bool false))),256):=by kernel_rfl
theorem xt5 (s:ByteArray) (w:World):Calls Tryz.prog 208 #[.string s,.string { data:=#[32,9,10,13] }] w fun e w'=>(∃ r:ByteArray,e=.returned (.string r)∧r.size+xab (bI s)=s.size)∧Below w.heap.size w w':=by
 refine(Any.strings_TrimLeft_laid tlL xBs s ⟨#[32,9,10,13]⟩ w (by decide) (ascii_of_all (by decide))).mono ?_
 rintro e w' ⟨rfl,hb⟩
 refine⟨⟨_,rfl,?_⟩,hb⟩
 have:=xpj s.data.toList
 rw[Array.length_toList] at this
 rw[xCK]
 show (List.toArray _).size+_=s.data.size
 rw[List.size_toArray]
 exact this
theorem xwT (s:ByteArray) (w:World):Calls Tryz.prog 208 #[.string s,.string { data:=#[48,49,50,51,52,53,54,55,56,57,43,45,46,101,69] }] w fun e w'=>(∃ r:ByteArray,e=.returned (.string r)∧r.size+xb8 (bI s)=s.size)∧Below w.heap.size w w':=by
 refine(Any.strings_TrimLeft_laid tlL xBs s ⟨#[48,49,50,51,52,53,54,55,56,57,43,45,46,101,69]⟩ w (by decide) (ascii_of_all (by decide))).mono ?_
 rintro e w' ⟨rfl,hb⟩
 refine⟨⟨_,rfl,?_⟩,hb⟩
 have:=xoO s.data.toList
 rw[Array.length_toList] at this
 rw[xCK]
 show (List.toArray _).size+_=s.data.size
 rw[List.size_toArray]
 exact this
theorem xAx (s:ByteArray) (w:World) (hs:s.size≤100000):Calls Tryz.prog 272 #[.string s,.string { data:=#[48,49,50,51,52,53,54,55,56,57] }] w fun e w'=>(∃ r:ByteArray,e=.returned (.string r)∧(r={ data:=#[] }↔(bI s).all isD=true))∧Below w.heap.size w w':=by
 refine(Any.strings_Trim_laid trL xCP s ⟨#[48,49,50,51,52,53,54,55,56,57]⟩ w (by omega) (by decide) (ascii_of_all (by decide))).mono ?_
 rintro e w' ⟨rfl,hb⟩
 refine⟨⟨_,rfl,?_⟩,hb⟩
 rw[xCK,← xuk]
 constructor
 ·intro h
  have:=congrArg (fun b:ByteArray=>b.data.toList) h
  simpa using this
 ·intro h
  have h':Lib.trimS s.data.toList (ByteArray.mk #[48,49,50,51,52,53,54,55,56,57]).data.toList=[]:=h
  rw[h']
theorem xBt (s:ByteArray) (w:World):Calls Tryz.prog 271 #[.string s,.string { data:=#[45] }] w fun e w'=>(∃ r:ByteArray,e=.returned (.string r)∧bI r=xaX (bI s))∧w'=w:=by
 refine(Any.strings_TrimPrefix tpL s ⟨#[45]⟩ w).mono ?_
 rintro e w' ⟨rfl,hb⟩
 exact⟨⟨_,rfl,by rw[xsS];exact xug s.data.toList⟩,hb⟩
theorem xgl (s p:ByteArray) (w:World):Calls Tryz.prog 237 #[.string s,.string p] w fun e w'=>e=.returned (.bool (decide (bI p <+: bI s)))∧w'=w:=by
 have:=xsW s p w
 rw[xAA] at this
 exact this
theorem xAD (s:ByteArray) (c:Int) (w:World) (h0:0≤c) (h1:c<256):Calls Tryz.prog 270 #[.string s,.int .u8 c] w fun e w'=>(∃ r:Int,e=.returned (.int .i64 r)∧(r<0↔c ∉ bI s))∧w'=w:=by
 refine(Any.strings_IndexByte ibL s c w).mono ?_
 rintro e w' ⟨rfl,hb⟩
 exact⟨⟨_,rfl,(xBh s.data.toList c h0 h1).1⟩,hb⟩
theorem xdI (s:ByteArray) (p:Nat) (w:World) (hp:p≤s.size) (hs:s.size≤10000):Calls Tryz.prog 135 #[.string s,.int .i64 p] w fun e w'=>e=.returned (.int .i64 ((p+xab ((bI s).drop p):Nat):Int))∧Below w.heap.size w w':=by
 have HT:=lH (fun W=>xt5 (s.extract p s.size) W)
 have hbe:bI (s.extract p s.size)=(bI s).drop p:=by
  rw[xch _ _ _ hp,List.take_of_length_le (by rw[List.length_drop,xaj];exact Nat.le_refl _)]
 have hsz:(s.extract p s.size).size=s.size - p:=by rw[ByteArray.size_extract];omega
 rw[hbe,hsz] at HT
 have n1:(p:Int)≤(s.size:Int):=by omega
 clear hbe hsz
 go_enter Tryz.func135,Tryz.ntmps135
 go_wp2_with fail
 refine(HT.out _).mono ?_
 rintro e w1 ⟨⟨r,rfl,hr⟩,hb⟩
 have hw:IntKind.i64.wrap ((s.size:Int) - (r.size:Int))=((p+xab ((bI s).drop p):Nat):Int):=by rw[IntKind.wrap_i64] <;> omega
 clear hr
 go_wp2_with fail
 go_ret
 exact⟨rfl,hb⟩
theorem xvi (s:ByteArray) (p:Nat) (hp:p≤s.size):bI (s.extract p s.size)=(bI s).drop p:=by
 rw[xch _ _ _ hp,List.take_of_length_le (by rw[List.length_drop,xaj];exact Nat.le_refl _)]
theorem xAh (s:ByteArray) (p:Nat) (hp:p≤s.size):(s.extract p s.size).size=s.size - p:=by rw[ByteArray.size_extract];omega
theorem xAB {a b:Int} {c d:Int} (h:a=b) (g:c=d):Ending.returned (.tuple #[.int .i64 a,.int .i64 c])=.returned (.tuple #[.int .i64 b,.int .i64 d]):=by rw[h,g]
theorem xft (s word:ByteArray) (p:Nat) (w:World) (hp:p≤s.size) (hs:s.size≤10000) (hw:word.size≤100):Calls Tryz.prog 203 #[.string s,.int .i64 p,.string word] w fun e w'=>e=.returned (.tuple #[.int .i64 ((p+(xb3 (bI word) ((bI s).drop p) 0).1:Nat):Int),.int .i64 (xb3 (bI word) ((bI s).drop p) 0).2])∧Below w.heap.size w w':=by
 have H1:=lH (fun W=>xgl (s.extract p s.size) word W)
 have H2:=lH (fun W=>xgl word (s.extract p s.size) W)
 rw[xvi s p hp] at H1 H2
 have HG:=lH (xmW (bI word) ((bI s).drop p) 0)
 have n1:(p:Int)≤(s.size:Int):=by omega
 have hl:((bI s).drop p).length=s.size - p:=by rw[List.length_drop,xaj]
 have hwl:=xaj word
 by_cases c1:bI word <+: (bI s).drop p
 ·rw[decide_eq_true c1] at H1
  have HR:Hid (xb3 (bI word) ((bI s).drop p) 0=(word.size,0)):=lH (by rw[HG.out,if_pos c1,hwl];simp)
  rw[HR.out]
  have hw2:IntKind.i64.wrap ((p:Int)+(word.size:Int))=((p+word.size:Nat):Int):=by rw[IntKind.wrap_i64] <;> omega
  clear HG HR hl hwl c1 H2
  go_enter Tryz.func203,Tryz.ntmps203
  go_wp2_with fail
  refine(H1.out _).mono ?_
  rintro e w1 ⟨rfl,rfl⟩
  go_wp2_with fail
  refine bodyPost_ret (v:=.tuple #[.int .i64 ((p+word.size:Nat):Int),.int .i64 0]) (by simp[results,Tryz.results203,go_sem]) rfl ⟨rfl,by go_grown⟩
 rw[decide_eq_false c1] at H1
 by_cases c2:(bI s).drop p <+: bI word
 ·rw[decide_eq_true c2] at H2
  have HR:Hid (xb3 (bI word) ((bI s).drop p) 0=(s.size - p,3)):=lH (by rw[HG.out,if_neg c1,if_pos c2,hl];simp)
  rw[HR.out]
  have hps:((p+(s.size - p):Nat):Int)=(s.size:Int):=by omega
  clear HG HR hl hwl c1 c2
  go_enter Tryz.func203,Tryz.ntmps203
  go_wp2_with fail
  refine(H1.out _).mono ?_
  rintro e w1 ⟨rfl,rfl⟩
  go_wp2_with fail
  refine(H2.out _).mono ?_
  rintro e w1 ⟨rfl,rfl⟩
  go_wp2_with fail
  refine bodyPost_ret (v:=.tuple #[.int .i64 (s.size:Int),.int .i64 3]) (by simp[results,Tryz.results203,go_sem]) rfl ⟨xAB hps.symm rfl,by go_grown⟩
 ·rw[decide_eq_false c2] at H2
  have HR:Hid (xb3 (bI word) ((bI s).drop p) 0=(0,4)):=lH (by rw[HG.out,if_neg c1,if_neg c2])
  rw[HR.out]
  clear HG HR hl hwl c1 c2
  go_enter Tryz.func203,Tryz.ntmps203
  go_wp2_with fail
  refine(H1.out _).mono ?_
  rintro e w1 ⟨rfl,rfl⟩
  go_wp2_with fail
  refine(H2.out _).mono ?_
  rintro e w1 ⟨rfl,rfl⟩
  go_wp2_with fail
  refine bodyPost_ret (v:=.tuple #[.int .i64 (p:Int),.int .i64 4]) (by simp[results,Tryz.results203,go_sem]) rfl ⟨rfl,by go_grown⟩
theorem xDb (s:ByteArray) (l:List UInt8):((s.toList == (⟨l.toArray⟩:ByteArray).toList)=true)↔bI s=uI l:=by
 constructor
 ·intro h
  by_cases e:s=⟨l.toArray⟩
  ·rw[e,xsS]
  ·rw[xnc e] at h;cases h
 ·intro h
  exact xiF (xxm (h.trans (xsS l).symm))
theorem xqw (l:List UInt8):l.isEmpty=(l == []):=by cases l <;> rfl
theorem xqL (s:ByteArray) (w:World) (hs:s.size≤10000):Calls Tryz.prog 244 #[.string s] w fun e w'=>e=.returned (.bool (decide (¬ xmb (bI s))))∧Below w.heap.size w w':=by
 have HM:=lH (fun W=>xBt s W)
 obtain⟨Q,hQ⟩:∃ Q,Q=decide (¬ xmb (bI s)):=⟨_,rfl⟩
 rw[← hQ]
 have HQ:=lH hQ
 clear hQ
 have e48:({ data:=#[48] }:ByteArray).toList=[48]:=by decide +kernel
 have e00:({ data:=#[] }:ByteArray).toList=[]:=by decide +kernel
 go_enter Tryz.func244,Tryz.ntmps244
 go_wp2_with fail
 refine(HM.out _).mono ?_
 rintro e w1 ⟨⟨r,rfl,hr⟩,rfl⟩
 have hrl:(xaX (bI s)).length≤s.size:=by
  rw[← xaj s]
  cases bI s with
  | nil=>simp[xaX]
  | cons b t=>rw[xaX];split <;> simp
 have hrs:r.size≤10000:=by rw[← xaj,hr];omega
 have H0:=lH (fun W=>xgl r { data:=#[48] } W)
 have HD:=lH (fun W=>xAx r W (by omega))
 have h48:bI { data:=#[48] }=[48]:=rfl
 rw[h48] at H0
 rw[hr] at H0 HD
 by_cases c0:[48] <+: xaX (bI s)
 ·rw[decide_eq_true c0] at H0
  have hq:(s.toList == [48])=Q:=by
   rw[HQ.out,← e48,Bool.eq_iff_iff,decide_eq_true_iff]
   have:=xDb s [48]
   refine this.trans ?_
   show bI s=[48]↔_
   obtain⟨t,ht⟩:=c0
   unfold xmb
   rw[← ht]
   constructor
   ·intro e
    rw[e] at ht ⊢
    have:t=[]:=by simpa[xaX] using ht
    subst this
    simp[xfz,isD]
   ·intro e
    have h1:¬ (1<([48]++t).length∨xfz (bI s)=true):=fun x=>e (.inr (.inl ⟨rfl,x⟩))
    have ht0:t=[]:=List.eq_nil_of_length_eq_zero (by simp at h1;have:=h1.1;rw[this];rfl)
    subst ht0
    have hn:xfz (bI s)=false:=by simpa using fun x=>h1 (.inr x)
    cases hb:bI s with
    | nil=>rw[hb] at ht;simp[xaX] at ht
    | cons b u =>
     rw[hb] at ht hn
     have hb45:b≠45:=by intro x;rw[x] at hn;simp[xfz] at hn
     rw[xaX,if_neg hb45] at ht
     simpa using ht.symm
  have HQ:=lH hq
  clear hq c0 hr hrl hrs
  go_wp2_with fail
  refine(H0.out _).mono ?_
  rintro e w2 ⟨rfl,rfl⟩
  go_wp2_with fail
  go_ret
  exact⟨by rw[← HQ.out];rfl,by go_grown⟩
 ·rw[decide_eq_false c0] at H0
  have hnil:(r.toList == ({ data:=#[] }:ByteArray).toList)=decide (xaX (bI s)=[]):=by
   rw[Bool.eq_iff_iff,decide_eq_true_iff,xDb r []]
   show bI r=[]↔_
   rw[hr]
  have hbad:xmb (bI s)↔(xaX (bI s)=[]∨¬ (xaX (bI s)).all isD=true):=by
   unfold xmb
   constructor
   ·rintro(h|h|h)
    ·exact .inl h
    ·exfalso
     apply c0
     cases hu:xaX (bI s) with
     | nil=>rw[hu] at h;simp at h
     | cons b t=>rw[hu] at h;simp at h;rw[h.1];exact⟨t,rfl⟩
    ·exact .inr h
   ·rintro(h|h)
    ·exact .inl h
    ·exact .inr (.inr h)
  by_cases c1:xaX (bI s)=[]
  ·rw[decide_eq_true c1] at hnil
   have hR:Q=false:=by rw[HQ.out,decide_eq_false_iff_not];exact fun h=>h (hbad.2 (.inl c1))
   subst hR
   have hne:r.toList.isEmpty=true:=by rw[xqw,← e00,hnil]
   clear hbad c0 c1 hr hrl hrs
   go_wp2_with fail
   refine(H0.out _).mono ?_
   rintro e w2 ⟨rfl,rfl⟩
   go_wp2_with fail
   go_ret
   exact⟨rfl,by go_grown⟩
  ·rw[decide_eq_false c1] at hnil
   have hne:r.toList.isEmpty=false:=by rw[xqw,← e00,hnil]
   have hR:Q=decide ((xaX (bI s)).all isD=true):=by
    rw[HQ.out,Bool.eq_iff_iff,decide_eq_true_iff,decide_eq_true_iff,hbad]
    constructor
    ·intro h;exact Decidable.byContradiction fun x=>h (.inr x)
    ·rintro h (x|x)
     ·exact c1 x
     ·exact x h
   have HRQ:=lH hR
   clear hR
   clear hbad c0 c1 hr hrl hrs
   go_wp2_with fail
   refine(H0.out _).mono ?_
   rintro e w2 ⟨rfl,rfl⟩
   go_wp2_with fail
   refine(HD.out _).mono ?_
   rintro e w3 ⟨⟨u,rfl,hu⟩,hb⟩
   have hq:u.toList.isEmpty=Q:=by
    rw[HRQ.out,xqw,← e00]
    by_cases e:u={ data:=#[] }
    ·rw[xiF e];rw[decide_eq_true (hu.1 e)]
    ·rw[xnc e];rw[decide_eq_false (fun x=>e (hu.2 x))]
   clear hu
   go_wp2_with fail
   go_ret
   exact⟨rfl,hb⟩
theorem xlZ:∀ l:List Int,xb8 l≤l.length
 | []=>Nat.le_refl _
 | b :: t=>by rw[xb8];split <;> simp;exact xlZ t
def xCz (R:Js × Nat × Int) (p:Nat) (w:World) (e:Ending) (w':World):Prop :=
 ∃ x,e=.returned (.tuple #[x,.int .i64 ((p+R.2.1:Nat):Int),.int .i64 R.2.2])∧(∀ S W,xas S W R.1 x)∧Below w.heap.size w w'
theorem xzP (s:ByteArray) (w:World) (hs:s.size≤10000) (hbad:¬ xmb (bI s)) (hq:QTab w):Calls Tryz.prog 245 #[.string s] w fun e w'=>(∃ v err,e=.returned (.tuple #[.int .i64 v,err])∧(err=.nilIface∧v=(if xfz (bI s) then - xhy (xaX (bI s)) else xhy (xaX (bI s)))∨(∃ t y,err=.iface t y)∧xkr<xhy (xaX (bI s))))∧Below w.heap.size w w':=by
 rcases xAa s.data.toList hbad with ⟨v,h1,h2⟩|⟨h1,h2⟩
 ·refine(Any.strconv_Atoi_ok atoL s (by omega) v h1 w).mono ?_
  rintro e w' ⟨rfl,hw⟩
  refine⟨⟨v,_,rfl,.inl ⟨rfl,h2⟩⟩,?_⟩
  rcases hw with rfl|⟨t,rfl⟩
  ·exact Below.refl _ _
  ·exact Joins.below_bytesWorld _ _ _ _ (Nat.le_refl _)
 ·obtain⟨_,ev,hev,hevf⟩:=hq
  refine(Any.strconv_Atoi_range atoL s (by omega) h1 ev w hev hevf).mono ?_
  rintro e w' ⟨N,rfl,_,_,hb⟩
  exact⟨⟨_,_,rfl,.inr ⟨⟨_,_,rfl⟩,h2⟩⟩,hb⟩
theorem xBo (l:List Int) (h:¬ xmb l):0≤xhy (xaX l):=by
 refine xeJ (xaX l) 0 0 (fun c hc=>?_) (Int.le_refl _) (Int.le_refl _)
 have h3:(xaX l).all isD=true:=Decidable.byContradiction fun e=>h (.inr (.inr e))
 have:=List.all_eq_true.1 h3 c hc
 unfold isD at this
 simp only[Bool.and_eq_true,decide_eq_true_eq] at this
 exact this.1
theorem xkI (s:ByteArray) (p:Nat) (w:World) (hp:p≤s.size) (hs:s.size≤10000) (hq:QTab w):Calls Tryz.prog 207 #[.string s,.int .i64 p] w (xCz (xhi ((bI s).drop p)) p w):=by
 obtain⟨n,hn⟩:∃ n,xb8 ((bI s).drop p)=n:=⟨_,rfl⟩
 have hnl:=xlZ ((bI s).drop p)
 rw[hn,List.length_drop,xaj] at hnl
 have H1:=lH (fun W=>xwT (s.extract p s.size) W)
 rw[xvi s p hp,hn,xAh s p hp] at H1
 have HW:=lH (fun W=>xqL (s.extract p (p+n)) W (by rw[ByteArray.size_extract];omega))
 have HA:=lH (fun W=>xzP (s.extract p (p+n)) W (by rw[ByteArray.size_extract];omega))
 have hbe:bI (s.extract p (p+n))=((bI s).drop p).take n:=by rw[xch _ _ _ (by omega),show p+n - p=n by omega]
 rw[hbe] at HW HA
 obtain⟨T,hT⟩:∃ T,((bI s).drop p).take n=T:=⟨_,rfl⟩
 have hR:xhi ((bI s).drop p)=if xmb T then (.nul,0,4) else if xkr<xhy (xaX T) then (.nul,0,11)
   else (.num (if xfz T then - xhy (xaX T) else xhy (xaX T)),n,0):=by
  rw[xhi,hn,hT]
 rw[hT] at HW HA
 have n1:(p:Int)≤(s.size:Int):=by omega
 have n2:((p+n:Nat):Int)≤(s.size:Int):=by omega
 have n3:(p:Int)≤((p+n:Nat):Int):=by omega
 have HQ:=lH hq
 unfold xCz
 clear hn hbe hT hq
 by_cases hb0:xmb T
 ·rw[if_pos hb0] at hR
  rw[hR]
  rw[decide_eq_false (fun h=>h hb0)] at HW
  clear hb0 hR HA
  go_enter Tryz.func207,Tryz.ntmps207
  go_wp2_with fail
  refine(H1.out _).mono ?_
  rintro e w1 ⟨⟨r,rfl,hr⟩,hb1⟩
  have hw:IntKind.i64.wrap ((s.size:Int) - (r.size:Int))=((p+n:Nat):Int):=by rw[IntKind.wrap_i64] <;> omega
  clear hr
  go_wp2_with fail
  refine(HW.out _).mono ?_
  rintro e w2 ⟨rfl,hb2⟩
  go_wp2_with fail
  refine bodyPost_ret (v:=.tuple #[.nilIface,.int .i64 p,.int .i64 4]) (by simp[results,Tryz.results207,go_sem]) rfl ⟨.nilIface,rfl,fun S W=>by rw[xas],hb1.trans (hb2.mono hb1.size)⟩
 ·rw[if_neg hb0] at hR
  rw[decide_eq_true hb0] at HW
  have hvn:=xBo T hb0
  have HA:=lH (fun W=>HA.out W hb0)
  have hwall:∀ R:Js × Nat × Int,xhi ((bI s).drop p)=R→(∀ w2:World,Below w.heap.size w w2→QTab w2):=fun _ _ w2 hb=>HQ.out.below hb
  clear hwall hb0
  obtain⟨R,hRR⟩:∃ R,xhi ((bI s).drop p)=R:=⟨_,rfl⟩
  rw[hRR] at hR ⊢
  have HRR:=lH hR
  clear hRR hR
  go_enter Tryz.func207,Tryz.ntmps207
  go_wp2_with fail
  refine(H1.out _).mono ?_
  rintro e w1 ⟨⟨r,rfl,hr⟩,hb1⟩
  have hw:IntKind.i64.wrap ((s.size:Int) - (r.size:Int))=((p+n:Nat):Int):=by rw[IntKind.wrap_i64] <;> omega
  clear hr
  go_wp2_with fail
  refine(HW.out _).mono ?_
  rintro e w2 ⟨rfl,hb2⟩
  have HB2:=lH (hb1.trans (hb2.mono hb1.size))
  clear hb1 hb2
  go_wp2_with fail
  refine(HA.out _ (HQ.out.below HB2.out)).mono ?_
  rintro e w3 ⟨⟨v,err,rfl,hv⟩,hb3⟩
  have HB3:=lH (HB2.out.trans (hb3.mono HB2.out.size))
  clear hb3
  have HC:=lH (fun W=>xok aB v (.iface 3 (.int .i64 v)) W (by rw[xas]))
  rcases hv with ⟨rfl,hv⟩|⟨⟨t,y,rfl⟩,hv⟩
  ·by_cases hov:xkr<xhy (xaX T)
   ·have hck:xtH 1 (.num v)=11:=by
     rw[xtH,if_pos]
     rw[hv]
     split <;> omega
    rw[hck] at HC
    have hR:R=(.nul,0,11):=by rw[HRR.out,if_pos hov]
    subst hR
    clear hck hv hov
    go_wp2_with fail
    refine(HC.out _).mono ?_
    rintro e w4 ⟨rfl,hb4⟩
    go_wp2_with fail
    refine bodyPost_ret (v:=.tuple #[.nilIface,.int .i64 p,.int .i64 11]) (by simp[results,Tryz.results207,go_sem]) rfl ⟨.nilIface,rfl,fun S W=>by rw[xas],HB3.out.trans (hb4.mono HB3.out.size)⟩
   ·have hck:xtH 1 (.num v)=0:=by
     rw[xtH,if_neg]
     rw[hv]
     split <;> omega
    rw[hck] at HC
    have hR:R=(.num v,n,0):=by rw[HRR.out,if_neg hov,hv]
    subst hR
    clear hck hv hov
    go_wp2_with fail
    refine(HC.out _).mono ?_
    rintro e w4 ⟨rfl,hb4⟩
    go_wp2_with fail
    refine bodyPost_ret (v:=.tuple #[.iface 3 (.int .i64 v),.int .i64 ((p+n:Nat):Int),.int .i64 0]) (by simp[results,Tryz.results207,go_sem]) rfl ⟨_,rfl,fun S W=>by rw[xas],HB3.out.trans (hb4.mono HB3.out.size)⟩
  ·have hR:R=(.nul,0,11):=by rw[HRR.out,if_pos hv]
   subst hR
   clear hv
   go_wp2_with fail
   refine bodyPost_ret (v:=.tuple #[.nilIface,.int .i64 p,.int .i64 11]) (by simp[results,Tryz.results207,go_sem]) rfl ⟨.nilIface,rfl,fun S W=>by rw[xas],HB3.out⟩
def xcR (sg l:List Int):Int × Nat × Int:=match l.drop (xab l) with
 | []=>(0,xab l,3)
 | b :: t=>if b ∈ sg then (b,xab l+1+xab t,0) else (0,xab l,4)
theorem xb5:∀ l:List Int,xab l≤l.length
 | []=>Nat.le_refl _
 | b :: t=>by rw[xab];split <;> simp;exact xb5 t
def xlz (R:Int × Nat × Int) (p:Nat) (w:World) (e:Ending) (w':World):Prop :=
 e=.returned (.tuple #[.int .u8 R.1,.int .i64 ((p+R.2.1:Nat):Int),.int .i64 R.2.2])∧Below w.heap.size w w'
theorem xeE (s sg:ByteArray) (p:Nat) (w:World) (hp:p≤s.size) (hs:s.size≤10000):Calls Tryz.prog 243 #[.string s,.int .i64 p,.string sg] w (xlz (xcR (bI sg) ((bI s).drop p)) p w):=by
 have HP:=lH (fun W=>xdI s p W hp hs)
 obtain⟨m,hm⟩:∃ m,xab ((bI s).drop p)=m:=⟨_,rfl⟩
 have hml:=xb5 ((bI s).drop p)
 rw[hm,List.length_drop,xaj] at hml
 rw[hm] at HP
 obtain⟨q,hq⟩:∃ q,p+m=q:=⟨_,rfl⟩
 have hR:xcR (bI sg) ((bI s).drop p)=match (bI s).drop q with
   | []=>(0,m,3)
   | b :: t=>if b ∈ bI sg then (b,m+1+xab t,0) else (0,m,4):=by
  unfold xcR
  rw[hm,List.drop_drop,hq]
 rw[hq] at HP
 have hl:=xaj s
 obtain⟨R,hRR⟩:∃ R,xcR (bI sg) ((bI s).drop p)=R:=⟨_,rfl⟩
 rw[hRR] at hR ⊢
 unfold xlz
 clear hm hRR
 have HMQ:=lH hq
 by_cases he:q=s.size
 ·have hR:R=(0,m,3):=by rw[hR,List.drop_of_length_le (by omega)]
  subst hR
  have q2:((q:Int) == (s.size:Int))=true:=by simpa using (show (q:Int)=s.size by omega)
  clear hl hml hq he
  go_enter Tryz.func243,Tryz.ntmps243
  go_wp2_with fail
  refine(HP.out _).mono ?_
  rintro e w1 ⟨rfl,hb1⟩
  go_wp2_with fail
  refine bodyPost_ret (v:=.tuple #[.int .u8 0,.int .i64 (q:Int),.int .i64 3]) (by simp[results,Tryz.results243,go_sem]) rfl ⟨by rw[← HMQ.out],hb1⟩
 have hlt:q<s.size:=by omega
 have q2:((q:Int) == (s.size:Int))=false:=by rw[beq_eq_false_iff_ne];omega
 have q3:(q:Int)<(s.size:Int):=by omega
 have hsp:=xf3 s q hlt
 have hbl:=(s[q]'hlt).toNat_lt
 obtain⟨b,hbv⟩:∃ b:Int,((s[q]'hlt).toNat:Int)=b:=⟨_,rfl⟩
 rw[hbv] at hsp
 rw[hsp] at hR
 have HI:=lH (fun W=>xAD sg b W (by omega) (by omega))
 have HP2:=lH (fun W=>xdI s (q+1) W (by omega) hs)
 obtain⟨z,hz⟩:∃ z,q+1+xab ((bI s).drop (q+1))=z:=⟨_,rfl⟩
 rw[hz] at HP2
 obtain⟨y,hy⟩:∃ y,q+1=y:=⟨_,rfl⟩
 have hw1:IntKind.i64.wrap ((q:Int)+1)=(y:Int):=by rw[IntKind.wrap_i64] <;> omega
 rw[hy] at HP2
 by_cases hin:b ∈ bI sg
 ·have hR:R=(b,m+1+xab ((bI s).drop (q+1)),0):=by rw[hR];simp only[if_pos hin]
  subst hR
  have HZ:=lH (show p+(m+1+xab ((bI s).drop (q+1)))=z by omega)
  clear hl hsp hz hq hy hml
  go_enter Tryz.func243,Tryz.ntmps243
  go_wp2_with fail
  refine(HP.out _).mono ?_
  rintro e w1 ⟨rfl,hb1⟩
  have HB1:=lH hb1
  clear hb1
  go_wp2_with fail
  refine(HI.out _).mono ?_
  rintro e w2 ⟨⟨r,rfl,hr⟩,rfl⟩
  have hr0:¬ r<0:=fun x=>hr.1 x hin
  have HB2:=HB1
  clear hr
  go_upto_region 6 with fail
  refine wp_region_held_drew (S:=fun w'=>Below w.heap.size w w') (by kernel_rfl) (HB2.out.drew) (fun hH0=>?_)
  refine tK 0 24 hH0 ?_
  refine tK 1 25 hH0 ?_
  refine tK 2 26 hH0 ?_
  refine tK 3 27 hH0 ?_
  refine tK 4 28 hH0 ?_
  refine tK 5 29 hH0 ?_
  refine wpAnyH_ready (rs:=[6]) (by kernel_rfl) (by simp) ?_
  refine AllReadyH.cons rfl (fun K hK=>?_) AllReadyH.nil
  go_simp
  refine(HP2.out _).mono ?_
  rintro e w' ⟨rfl,hb⟩
  go_wp2_with fail
  refine hK.out _ _ (hH0.trans (hb.mono hH0.size)) (fun hH1=>?_)
  clear hK K hb hH0
  try simp only[Act.put,zsA,zsB,zsC]
  refine tK 7 6 hH1 ?_
  refine tK 8 7 hH1 ?_
  refine tK 9 8 hH1 ?_
  refine wpAnyH_done (by kernel_rfl) ?_ _
  go_wp2_with fail
  refine bodyPost_ret (v:=.tuple #[.int .u8 b,.int .i64 (z:Int),.int .i64 0]) (by simp[results,Tryz.results243,go_sem]) rfl ⟨by rw[HZ.out],hH1⟩
 ·have hR:R=(0,m,4):=by rw[hR];simp only[if_neg hin]
  subst hR
  clear hl hsp hz hq hy hml
  go_enter Tryz.func243,Tryz.ntmps243
  go_wp2_with fail
  refine(HP.out _).mono ?_
  rintro e w1 ⟨rfl,hb1⟩
  go_wp2_with fail
  refine(HI.out _).mono ?_
  rintro e w2 ⟨⟨r,rfl,hr⟩,rfl⟩
  have hr0:r<0:=hr.2 hin
  clear hr
  go_wp2_with fail
  refine bodyPost_ret (v:=.tuple #[.int .u8 0,.int .i64 (q:Int),.int .i64 4]) (by simp[results,Tryz.results243,go_sem]) rfl ⟨by rw[← HMQ.out],hb1⟩
end Go.Proofs.YtjkgkmmkehnggaaGreatDoor
namespace Go.Proofs.YtjkgkmmkehnggaaGreatDoor
set_option linter.unusedVariables false
set_option linter.unusedSimpArgs false
open Go.RowKit
set_option maxRecDepth 20000
theorem xih {S:Nat→Prop} {w:World} {v:Js} {x:Value} (h:xas S w v x):x=.nilIface∨∃ t y,x=.iface t y:=by
 cases v <;> rw[xas] at h
 ·exact .inl h
 ·exact .inr ⟨_,_,h⟩
 ·exact .inr ⟨_,_,h⟩
 ·obtain⟨t,rfl,_⟩:=h;exact .inr ⟨_,_,rfl⟩
 ·obtain⟨a,c,rfl,_⟩:=h;exact .inr ⟨_,_,rfl⟩
 ·obtain⟨a,c,rfl,_⟩:=h;exact .inr ⟨_,_,rfl⟩
 ·exact .inr ⟨_,_,h⟩
theorem xDn:maxLen=9223372036854775807:=by decide
end Go.Proofs.YtjkgkmmkehnggaaGreatDoor
namespace Go.Proofs.YtjkgkmmkehnggaaGreatDoor
set_option linter.unusedVariables false
set_option linter.unusedSimpArgs false
open Go.RowKit
set_option maxRecDepth 20000
set_option maxHeartbeats 1000000
theorem xol (t name:ByteArray) (y:Value) (hy:y=.nilIface∨∃ u z,y=.iface u z) (b:Nat) (w:World) (hb:b<w.heap.size) (hc:w.cell? ⟨b,0,none⟩=some (.string name)) :
  Calls Tryz.prog 269 #[.agg #[.string t,y],.pointer (some ⟨b,0,none⟩)] w fun e w'=>e=.returned (.bool (decide (t=name)))∧Below w.heap.size w w':=by
 have hne:b≠w.heap.size:=by omega
 obtain⟨q,hq,hqd⟩:∃ q,(t.toList == name.toList)=q∧q=decide (t=name):=by
  by_cases h:t=name
  ·exact⟨_,xiF h,by rw[decide_eq_true h]⟩
  ·exact⟨_,xnc h,by rw[decide_eq_false h]⟩
 rw[← hqd]
 clear hqd
 rcases hy with rfl|⟨u,z,rfl⟩
 ·go_enter Tryz.func269,Tryz.ntmps269
  go_wp2_with fail
  go_ret
  exact⟨rfl,by go_grown⟩
 ·go_enter Tryz.func269,Tryz.ntmps269
  go_wp2_with fail
  go_ret
  exact⟨rfl,by go_grown⟩
theorem xri {S:Nat→Prop} {w:World} {v:Js} {x:Value} (h:xas S w v x):x=.nilIface∨∃ u z,x=.iface u z:=xih h
theorem xt8 (S:Nat→Prop) (a:Option Addr) (n cap:Nat) (l:Jl) (name:ByteArray) (b:Nat) (w:World) (hr:xfv S w a 0 l) (hn:n≤l.length) (hcap:n≤cap) (hm:cap≤maxLen) (hb:b<w.heap.size) (hcb:w.cell? ⟨b,0,none⟩=some (.string name)) :
  Calls Tryz.prog 268 #[.slice a n cap,.func (.func 269) #[] #[.pointer (some ⟨b,0,none⟩)]] w fun e w'=>(∃ r,e=.returned (.int .i64 r)∧PlR (bI name) (l.names.take n) r)∧Below w.heap.size w w':=by
 have HR:=lH hr
 have hml:(n:Int)≤9223372036854775807:=by rw[xDn] at hm;omega
 clear hr
 go_enter Tryz.func268,Tryz.ntmps268
 go_wp2_with fail
 go_loopw [8] (fun s wr=>∃ i:Nat,i≤n∧s=.int .i64 i∧Hid (∀ j,j<i→l.names[j]?≠some (bI name))∧Below w.heap.size w wr) (fun s _=>n - (intOf s).toNat)
 case atStart=>exact⟨0,Nat.zero_le _,rfl,lH (fun j hj=>absurd hj (Nat.not_lt_zero _)),Below.refl _ _⟩
 case round =>
  obtain⟨i,hi,rfl,HM,hbw⟩:=hrel
  by_cases hlt:i<n
  ·obtain⟨nm,v,hat⟩:=Jl.lt_at l i (by omega)
   obtain⟨g,off,y,t,rfl,_,hg,l0,hbt,_,l1,hav⟩:=xfv.at l 0 i nm v HR.out hat
   rw[Nat.zero_add] at l0 l1
   replace l0:=(hbw.cell hg).trans l0
   replace l1:=(hbw.cell hg).trans l1
   have hi2:(i:Int)<(n:Int):=by omega
   have HNA:=lH (Jl.names_at l i nm v hat)
   have HBT:=lH hbt
   have hyf:=xri hav
   have HE:=lH (xol t name y hyf b wr (Nat.lt_of_lt_of_le hb hbw.size) ((hbw.cell hb).trans hcb))
   have hy1:=xrR hav
   clear hbt hav hat
   by_cases hp:t=name
   ·have HP:=lH hp
    rw[decide_eq_true hp] at HE
    clear hp
    rcases hyf with rfl|⟨u,z,rfl⟩
    ·go_wp2_with fail
     refine HE.out.mono ?_
     rintro e w1 ⟨rfl,hb⟩
     have hbw1:=hbw.trans (hb.mono hbw.size)
     clear hb hbw l0 l1 HE
     go_wp2_with fail
     go_ret
     exact⟨⟨i,rfl,.inr ⟨i,rfl,by rw[List.getElem?_take_of_lt hlt,HNA.out,← HBT.out,HP.out],fun j hj e=>HM.out j hj (by rwa[List.getElem?_take_of_lt (by omega)] at e)⟩⟩,hbw1⟩
    ·go_wp2_with fail
     refine HE.out.mono ?_
     rintro e w1 ⟨rfl,hb⟩
     have hbw1:=hbw.trans (hb.mono hbw.size)
     clear hb hbw l0 l1 HE
     go_wp2_with fail
     go_ret
     exact⟨⟨i,rfl,.inr ⟨i,rfl,by rw[List.getElem?_take_of_lt hlt,HNA.out,← HBT.out,HP.out],fun j hj e=>HM.out j hj (by rwa[List.getElem?_take_of_lt (by omega)] at e)⟩⟩,hbw1⟩
   ·have HP:=lH hp
    rw[decide_eq_false hp] at HE
    clear hp
    have HM2:Hid (∀ j,j<i+1→l.names[j]?≠some (bI name)):=lH (fun j hj e=>by
     rcases Nat.lt_or_ge j i with h|h
     ·exact HM.out j h e
     ·obtain rfl:j=i:=by omega
      rw[HNA.out,← HBT.out] at e
      exact HP.out (xxm (by simpa using e)))
    rcases hyf with rfl|⟨u,z,rfl⟩
    ·go_wp2_with fail
     refine HE.out.mono ?_
     rintro e w1 ⟨rfl,hb⟩
     have hbw1:=hbw.trans (hb.mono hbw.size)
     clear hb hbw l0 l1 HE
     go_wp2_with fail
     go_roundw
     case rel=>exact⟨i+1,by omega,by go_num,HM2,hbw1⟩
     case measure=>simp[intOf];omega
    ·go_wp2_with fail
     refine HE.out.mono ?_
     rintro e w1 ⟨rfl,hb⟩
     have hbw1:=hbw.trans (hb.mono hbw.size)
     clear hb hbw l0 l1 HE
     go_wp2_with fail
     go_roundw
     case rel=>exact⟨i+1,by omega,by go_num,HM2,hbw1⟩
     case measure=>simp[intOf];omega
  ·obtain rfl:i=n:=by omega
   go_wp2_with fail
   go_ret
   refine⟨⟨-1,rfl,.inl ⟨rfl,fun hmem=>?_⟩⟩,hbw⟩
   obtain⟨j,hj⟩:=List.getElem?_of_mem hmem
   have hjl:=(List.getElem?_eq_some_iff.1 hj).1
   rw[List.length_take] at hjl
   rw[List.getElem?_take_of_lt (by omega)] at hj
   exact HM.out j (by omega) hj
theorem xkm (S:Nat→Prop) (a:Option Addr) (n cap:Nat) (l:Jl) (name:ByteArray) (w:World) (hr:xfv S w a 0 l) (hn:n≤l.length) (hcap:n≤cap) (hm:cap≤maxLen) :
  Calls Tryz.prog 242 #[.slice a n cap,.string name] w fun e w'=>(∃ r,e=.returned (.int .i64 r)∧PlR (bI name) (l.names.take n) r)∧Below w.heap.size w w':=by
 have H:=lH (fun W T (hW:W=w.alloc (.cells #[.string name] T))=>xt8 S a n cap l name w.heap.size W (by subst hW;exact xfv.keep (fun _ e _=>e) (by simp) (fun b _ h=>xbi h) l a 0 hr) hn hcap hm (by subst hW;simp) (by subst hW;rw[World.cell?_alloc_mark];rfl))
 clear hr
 go_enter Tryz.func242,Tryz.ntmps242
 go_wp2_with fail
 refine(H.out _ _ rfl).mono ?_
 rintro e w1 ⟨⟨r,rfl,hr⟩,hb⟩
 have HR:=lH hr
 have HB:=lH (((Below.refl _ w).alloc (Nat.le_refl _) _).trans (hb.mono (by simp)))
 clear hr hb
 go_wp2_with fail
 go_ret
 exact⟨⟨r,rfl,HR.out⟩,HB.out⟩
end Go.Proofs.YtjkgkmmkehnggaaGreatDoor
namespace Go.Proofs.YtjkgkmmkehnggaaGreatDoor
set_option linter.unusedVariables false
set_option linter.unusedSimpArgs false
open Go.RowKit
set_option maxRecDepth 20000
set_option maxHeartbeats 4000000
theorem xhK:∀ (f:Nat) (l:List Int) (p:Nat) (out:List Int),(∀ b ∈ out,0≤b∧b<256)→∀ b ∈ (xaW f l p out).1,0≤b∧b<256
 | 0,l,p,out,h=>by simp[xaW]
 | f+1,l,p,out,h=>by
  rw[xay]
  cases hs:xbg l with
  | short=>simp
  | form=>simp
  | fin=>exact h
  | piece t n =>
   obtain⟨c,hc⟩:=(xcN l t n hs).rune
   refine xhK f _ _ (out++t) fun b hb=>?_
   rcases List.mem_append.1 hb with hb|hb
   ·exact h b hb
   ·rw[← hc] at hb;exact xkP c b hb
theorem xhD (l:List Int):∀ b ∈ (xav l).1,0≤b∧b<256:=by
 cases l with
 | nil=>simp[xav]
 | cons b t =>
  rw[xav]
  split
  ·exact xhK _ _ _ _ (by simp)
  ·simp
theorem xp3 (names:List (List Int)) (l:List Int) (h:(xav l).2.2=0) (hn:(xav l).1 ∉ names):xbh true names l =
  if (xcR [58] (l.drop (xav l).2.1)).2.2≠0 then ([],(xav l).2.1+(xcR [58] (l.drop (xav l).2.1)).2.1,(xcR [58] (l.drop (xav l).2.1)).2.2) else ((xav l).1,(xav l).2.1+(xcR [58] (l.drop (xav l).2.1)).2.1,0):=by
 unfold xbh
 rw[if_neg (by simp)]
 rcases htt:xav l with ⟨name,n,e⟩
 rw[htt] at h hn
 simp only at h hn ⊢
 subst h
 rw[if_neg (by simp),if_neg hn]
 unfold xcR
 rw[List.drop_drop]
 cases hd:l.drop (n+xab (l.drop n)) with
 | nil=>simp
 | cons c t =>
  have ht:l.drop (n+xab (l.drop n)+1)=t:=by rw[← List.drop_drop,hd];rfl
  simp only[List.mem_singleton]
  by_cases hc:c=58
  ·subst hc
   rw[if_neg (by simp),if_neg (by simp[xbK]),if_pos rfl,if_neg (by simp),ht]
   simp only[Prod.mk.injEq,true_and,and_true]
   omega
  ·rw[if_neg (by simp),if_pos (by simpa[xbK] using hc),if_neg hc,if_pos (by simp)]
theorem xgt (sg l:List Int):(xcR sg l).2.1≤l.length:=by
 unfold xcR
 have h:=xb5 l
 cases hd:l.drop (xab l) with
 | nil=>exact h
 | cons c t =>
  have hl:(l.drop (xab l)).length=t.length+1:=by rw[hd];rfl
  rw[List.length_drop] at hl
  have:=xb5 t
  simp only
  split
  ·simp only;omega
  ·exact h
theorem BEq.add {l:List Int} {a n k:Nat} (h:BEq (l.drop a) n k) (ha:a≤l.length):BEq l (a+n) (a+k):=by
 obtain⟨h1,h2,h3⟩:=h
 rw[List.length_drop] at h2
 rw[List.drop_drop,List.drop_drop] at h3
 refine⟨by omega,by omega,?_⟩
 omega
theorem xlV.bad {R:(List Int × Js) × Nat × Int} {l:List Int} {q:Nat} {I:Its→World→Prop} {vs:Its} {W':World} {k:Nat} {e:Int} (hI:I vs W') (h:R=(([],.nul),k,e)) (he:e≠0):xlV R l q I vs (.returned (.tuple #[.int .i64 ((q+k:Nat):Int),.int .i64 e])) W':=by
 subst h
 exact⟨vs,k,rfl,hI,fun x=>absurd x he,fun _=>rfl⟩
theorem xo2 (g:Nat) (bs bd B bl:Nat) (s:ByteArray) (d q:Nat) (w0:World) (vs:Its) (W:World) (hI:Ls true bs bd B bl s d w0 vs W) (hvs:vs.length≤1000000) (hq:q≤s.size) (hs:s.size≤5000) (HT:xBa g s q) (hd:d≤4) (ht:QTab w0) :
  Calls Tryz.prog 241 #[.int .i64 q,.pointer (some ⟨bs,0,none⟩),.pointer (some ⟨bl,0,none⟩),.pointer (some ⟨bd,0,none⟩)] W (xlV (xdY g d true (vs.map (·.1)) ((bI s).drop q)) ((bI s).drop q) q (Ls true bs bd B bl s d w0) vs):=by
 have hlen:((bI s).drop q).length=s.size - q:=by rw[List.length_drop,xaj]
 have hj:=fun W=>xkV s q W hq (by omega)
 rw[xh6 _ _ (by rw[xaj];omega)] at hj
 have htb:=xhD ((bI s).drop q)
 have htl:=xj1 ((bI s).drop q)
 have htle:=xgc ((bI s).drop q)
 have hps:=xp3 (vs.map (·.1)) ((bI s).drop q)
 have hone:xdY g d true (vs.map (·.1)) ((bI s).drop q)=xdY g d true (vs.map (·.1)) ((bI s).drop q):=rfl
 conv at hone=>rhs;unfold xdY
 have hpb:(xav ((bI s).drop q)).2.2≠0→xbh true (vs.map (·.1)) ((bI s).drop q)=([],(xav ((bI s).drop q)).2.1,(xav ((bI s).drop q)).2.2):=by
  intro h;unfold xbh;rw[if_neg (by simp)]
  rcases htt:xav ((bI s).drop q) with ⟨name,n,e⟩
  rw[htt] at h
  simp only at h ⊢;rw[if_pos h]
 have hpt:(xav ((bI s).drop q)).2.2=0→(xav ((bI s).drop q)).1 ∈ vs.map (·.1)→xbh true (vs.map (·.1)) ((bI s).drop q)=([],0,22):=by
  intro h h2;unfold xbh;rw[if_neg (by simp)]
  rcases htt:xav ((bI s).drop q) with ⟨name,n,e⟩
  rw[htt] at h h2
  simp only at h h2 ⊢;rw[if_neg (by omega),if_pos h2]
 rcases htx:xav ((bI s).drop q) with ⟨name,n,e⟩
 rw[htx] at hj htb htl htle hps hpb hpt
 simp only at hj htb htl htle hps hpb hpt
 have HJ:=lH hj
 obtain⟨l,hl,hlb,hmore⟩:=hI.more hvs
 have HM:=lH hmore
 have HI:=lH hI
 have c1:=hI.cs
 have c2:=hI.cd
 have hord:=hI.ord
 have HTK:=lH HT
 obtain⟨o1,o2,o3,o4,o5,o6⟩:=hord
 have o7:bs<W.heap.size:=by omega
 have o8:bd<W.heap.size:=by omega
 obtain⟨P,hP⟩:∃ P,xdY g d true (vs.map (·.1)) ((bI s).drop q)=P:=⟨_,rfl⟩
 rw[hP] at hone ⊢
 have HONE:=lH hone
 have HPS:=lH hps
 have HPB:=lH hpb
 have HPT:=lH hpt
 have HLF:=lH (show ∃ a cap,l=.slice a vs.length cap∧vs.length≤cap∧cap≤maxLen∧xfv aB W a 0 (xfL vs .nil) from by
  obtain⟨l2,e1,e2,_⟩:=hI.ex
  rw[hl] at e1
  obtain rfl:=Option.some.inj e1
  have hr:=(xke e2 (fun b h1 _ h2=>⟨h1,fun x=>by
   obtain⟨l3,f1,_,f3⟩:=hI.ex
   rw[hl] at f1
   obtain rfl:=Option.some.inj f1
   exact f3 (by rw[h2,x])⟩)).mono (S':=aB) (fun _ _=>trivial)
  rw[xas,xet] at hr
  obtain⟨a,cap,h1,h2,h3,h4⟩:=hr
  injection h1 with _ h1
  exact⟨a,cap,h1,h2,h3,h4⟩)
 clear hmore hI HT hj hone hps hpb hpt hP
 by_cases he:e≠0
 ·have hde:(e != 0)=true:=by simpa using he
  have hR:P=(([],.nul),n,e):=by rw[HONE.out,HPB.out he,if_pos he]
  have HE:=lH he
  clear he htb htl htle hlb
  go_enter Tryz.func241,Tryz.ntmps241
  go_wp2_with fail
  refine(HJ.out _).mono ?_
  rintro e1 w1 ⟨rfl,hb1⟩
  have HL1:=lH (HI.out.below hb1)
  clear hb1
  go_wp2_with fail
  refine bodyPost_ret (v:=.tuple #[.int .i64 ((q+n:Nat):Int),.int .i64 e]) (by simp[results,Tryz.results241,go_sem]) rfl (xlV.bad HL1.out hR HE.out)
 have he:=Decidable.not_not.1 he
 subst he
 obtain⟨a,cap,rfl,hc1,hc2,hrow⟩:=HLF.out
 have HROW:=lH hrow
 clear hrow
 go_enter Tryz.func241,Tryz.ntmps241
 go_wp2_with fail
 refine(HJ.out _).mono ?_
 rintro e1 w1 ⟨rfl,hb1⟩
 have HB1:=lH hb1
 have hl1:=(hb1.cell (p:=⟨bl,0,none⟩) o6).trans hl
 have hlt1:=Nat.lt_of_lt_of_le o6 hb1.size
 have HPL:=lH (xkm aB a vs.length cap (xfL vs .nil) (str name) w1 (xfv.keep (fun _ e _=>e) hb1.size (fun b _ hl=>hb1.block b hl) _ a 0 HROW.out) (by rw[xet];exact Nat.le_refl _) hc1 hc2)
 rw[xqO name htb,xhF,List.take_of_length_le (by rw[List.length_map];exact Nat.le_refl _)] at HPL
 clear hb1
 go_wp2_with fail
 refine HPL.out.mono ?_
 rintro e2 w2 ⟨⟨r,rfl,hpr⟩,hb2⟩
 have HB2:=lH (HB1.out.trans (hb2.mono HB1.out.size))
 clear hb2 HPL
 by_cases hr0:0≤r
 ·have hR:P=(([],.nul),0,22):=by rw[HONE.out,HPT.out trivial (hpr.neg.1 hr0),if_pos (by simp)]
  have HL2:=lH (HI.out.below HB2.out)
  clear hpr
  go_wp2_with fail
  refine bodyPost_ret (v:=.tuple #[.int .i64 (q:Int),.int .i64 22]) (by simp[results,Tryz.results241,go_sem]) rfl (xlV.bad (k:=0) HL2.out hR (by omega))
 have HNM:=lH (fun x=>hr0 (hpr.neg.2 x))
 replace hr0:r<0:=by omega
 clear hpr
 have HS:=lH (fun W=>xeE s { data:=#[58] } (q+n) W (by omega) (by omega))
 have h58:bI { data:=#[58] }=[58]:=rfl
 have hdd:(bI s).drop (q+n)=((bI s).drop q).drop n:=by rw[List.drop_drop]
 rw[h58,hdd] at HS
 have hpair:=HPS.out trivial HNM.out
 have hsl:=xgt [58] (((bI s).drop q).drop n)
 rw[List.length_drop,hlen] at hsl
 rcases hsg:xcR [58] (((bI s).drop q).drop n) with ⟨c,m,e3⟩
 rw[hsg] at HS hpair hsl
 unfold xlz at HS
 simp only at HS hpair hsl
 have HPAIR:=lH hpair
 have c1':=(HB2.out.cell (p:=⟨bs,0,none⟩) o7).trans c1
 have o7':=Nat.lt_of_lt_of_le o7 HB2.out.size
 clear hpair hdd h58
 go_wp2_with fail
 refine(HS.out _).mono ?_
 rintro e4 w3 ⟨rfl,hb3⟩
 have HB3:=lH (HB2.out.trans (hb3.mono HB2.out.size))
 clear hb3 c1'
 by_cases he3:e3≠0
 ·have hde:(e3 != 0)=true:=by simpa using he3
  have hR:P=(([],.nul),n+m,e3):=by rw[HONE.out,HPAIR.out,if_pos he3,if_pos he3]
  have HL2:=lH (HI.out.below HB3.out)
  have HE:=lH he3
  clear he3
  go_wp2_with fail
  refine bodyPost_ret (v:=.tuple #[.int .i64 ((q+n+m:Nat):Int),.int .i64 e3]) (by simp[results,Tryz.results241,go_sem]) rfl (by
   have:=xlV.bad (l:=(bI s).drop q) (q:=q) HL2.out hR HE.out
   rwa[← Nat.add_assoc] at this)
 have he3:=Decidable.not_not.1 he3
 subst he3
 have HV:=lH (fun(W:World) h=>HTK.out (d+1) (q+n+m) W (by omega) (by omega) (by omega) h)
 have hdd:(bI s).drop (q+n+m)=((bI s).drop q).drop (n+m):=by rw[List.drop_drop,Nat.add_assoc]
 rw[hdd] at HV
 have hR:P=((name,(xai g (d+1) (((bI s).drop q).drop (n+m))).1),n+m+(xai g (d+1) (((bI s).drop q).drop (n+m))).2.1,(xai g (d+1) (((bI s).drop q).drop (n+m))).2.2):=by
  rw[HONE.out,HPAIR.out]
  simp
 have HR:=lH hR
 clear hdd hR
 generalize xai g (d+1) (((bI s).drop q).drop (n+m))=R at HV HR
 unfold TkE at HV
 have hw:IntKind.i64.wrap ((d:Int)+1)=((d+1:Nat):Int):=by rw[IntKind.wrap_i64] <;> omega
 have c1':=(HB3.out.cell (p:=⟨bs,0,none⟩) o7).trans c1
 have c2':=(HB3.out.cell (p:=⟨bd,0,none⟩) o8).trans c2
 have o9:=Nat.lt_of_lt_of_le o7 HB3.out.size
 have o10:=Nat.lt_of_lt_of_le o8 HB3.out.size
 have HQW:=lH ((ht.below HI.out.bel).below HB3.out)
 go_wp2_with fail
 refine(HV.out _ HQW.out).mono ?_
 rintro e5 w4 ⟨⟨x,v,k,rfl,hx,h0,h1⟩,hb4⟩
 have hB4:=HB3.out.trans (hb4.mono HB3.out.size)
 have hl4:=(hB4.cell (p:=⟨bl,0,none⟩) o6).trans hl
 have hf:=xih hx
 have hnm:bI (str name)=name:=xqO name htb
 obtain⟨v',W2,hr,cc0,cf,hls⟩:=HM.out w4 W.heap.size (name,v) [.string (str name),x] hB4 (Nat.le_refl _) ⟨x,hx.mono (fun b hb=>Nat.le_trans HB3.out.size hb),by simp only[if_true];exact⟨str name,rfl,hnm,by omega⟩⟩
 have hr:(Builtin.append_ #[136,136] 136 #[.slice a vs.length cap,.slice (some ⟨w4.heap.size,0,none⟩) 1 1]).run Tryz.prog (w4.alloc (.cells #[.string (str name),x] 350))=.ok v' W2:=hr
 have HLS:=lH hls
 have H0:=lH h0
 have H1:=lH h1
 have hlt2:bl<W2.heap.size:=World.block_lt_of_cell? _ _ cc0
 have hlt4:=Nat.lt_of_lt_of_le o6 hB4.size
 have HF:=lH (show ∃ a n c,v'=.slice a n c from by
  obtain⟨l2,e1,e2,_⟩:=hls.ex
  have:(W2.setCell ⟨bl,0,none⟩ v').cell? ⟨bl,0,none⟩=some v':=World.cell?_setCell_same _ _ _ cc0
  rw[this] at e1
  obtain rfl:=Option.some.inj e1
  obtain⟨a,cap,rfl,_⟩:=xdw e2
  exact⟨_,_,_,rfl⟩)
 have HFIN:=lH (show xlV P ((bI s).drop q) q (Ls true bs bd B bl s d w0) vs (.returned (.tuple #[.int .i64 ((q+n+m+k:Nat):Int),.int .i64 R.2.2])) (W2.setCell ⟨bl,0,none⟩ v') from by
  rw[HR.out]
  refine⟨vs++[(name,v)],n+m+k,by rw[show q+(n+m+k)=q+n+m+k by omega],hls,fun e=>?_,fun e=>by rw[h1 e]⟩
  obtain⟨rfl,b1⟩:=h0 e
  exact⟨rfl,BEq.add b1 (by rw[hlen];omega)⟩)
 clear hx hb4 hls h0 h1 hB4 c1' c2'
 obtain⟨va,vn,vc,rfl⟩:=HF.out
 rcases hf with rfl|⟨u,z,rfl⟩
 ·go_wp2_with (first|(at_builtin;refine Lib.wpList_append_run _ rfl _ _ _ _ rfl _ _ rfl rfl _ _ hr ?_)|fail)
  refine bodyPost_ret (v:=.tuple #[.int .i64 ((q+n+m+k:Nat):Int),.int .i64 R.2.2]) (by simp[results,Tryz.results241,go_sem]) rfl HFIN.out
 ·go_wp2_with (first|(at_builtin;refine Lib.wpList_append_run _ rfl _ _ _ _ rfl _ _ rfl rfl _ _ hr ?_)|fail)
  refine bodyPost_ret (v:=.tuple #[.int .i64 ((q+n+m+k:Nat):Int),.int .i64 R.2.2]) (by simp[results,Tryz.results241,go_sem]) rfl HFIN.out
end Go.Proofs.YtjkgkmmkehnggaaGreatDoor
namespace Go.Proofs.YtjkgkmmkehnggaaGreatDoor
set_option linter.unusedVariables false
set_option linter.unusedSimpArgs false
open Go.RowKit
set_option maxRecDepth 20000
set_option maxHeartbeats 2000000
theorem xlh (g d:Nat) (names:List (List Int)) (l:List Int):xdY g d false names l=(([],(xai g (d+1) l).1),(xai g (d+1) l).2.1,(xai g (d+1) l).2.2):=by
 unfold xdY xbh
 simp
theorem xla (g:Nat) (bs bd B bl:Nat) (s:ByteArray) (d q:Nat) (w0:World) (vs:Its) (W:World) (hI:Ls false bs bd B bl s d w0 vs W) (hvs:vs.length≤1000000) (hq:q≤s.size) (hs:s.size≤5000) (HT:xBa g s q) (hd:d≤4) (ht:QTab w0) :
  Calls Tryz.prog 240 #[.int .i64 q,.pointer (some ⟨bs,0,none⟩),.pointer (some ⟨bd,0,none⟩),.pointer (some ⟨bl,0,none⟩)] W (xlV (xdY g d false (vs.map (·.1)) ((bI s).drop q)) ((bI s).drop q) q (Ls false bs bd B bl s d w0) vs):=by
 rw[xlh]
 have HC:=lH (fun(W:World) h=>HT (d+1) q W (Nat.le_refl _) hq (by omega) h)
 generalize xai g (d+1) ((bI s).drop q)=R at HC
 unfold TkE at HC
 obtain⟨l,hl,hlb,hmore⟩:=hI.more hvs
 have HM:=lH hmore
 have HI:=lH hI
 have HQW:=lH (ht.below hI.bel)
 have c1:=hI.cs
 have c2:=hI.cd
 have hord:=hI.ord
 have hw:IntKind.i64.wrap ((d:Int)+1)=((d+1:Nat):Int):=by rw[IntKind.wrap_i64] <;> omega
 have HO:=lH hord
 obtain⟨o1,o2,o3,o4,o5,o6⟩:=hord
 have o7:bs<W.heap.size:=by omega
 have o8:bd<W.heap.size:=by omega
 unfold xlV
 clear hmore hlb hI
 go_enter Tryz.func240,Tryz.ntmps240
 go_wp2_with fail
 refine(HC.out _ HQW.out).mono ?_
 rintro e w1 ⟨⟨x,v,k,rfl,hx,h0,h1⟩,hb⟩
 have hl1:=(hb.cell (p:=⟨bl,0,none⟩) o6).trans hl
 have hf:=xih hx
 obtain⟨v',W2,hr,c0,cf,hls⟩:=HM.out w1 W.heap.size ([],v) [x] hb (Nat.le_refl _) ⟨x,hx,by simp⟩
 have hr:(Builtin.append_ #[343,343] 343 #[l,.slice (some ⟨w1.heap.size,0,none⟩) 1 1]).run Tryz.prog (w1.alloc (.cells #[x] 20))=.ok v' W2:=hr
 have HLS:=lH hls
 have H0:=lH h0
 have H1:=lH h1
 have hlt2:bl<W2.heap.size:=World.block_lt_of_cell? _ _ c0
 have HF:=lH (show ∃ a n c,v'=.slice a n c from by
  obtain⟨l2,e1,e2,_⟩:=hls.ex
  have:(W2.setCell ⟨bl,0,none⟩ v').cell? ⟨bl,0,none⟩=some v':=World.cell?_setCell_same _ _ _ c0
  rw[this] at e1
  obtain rfl:=Option.some.inj e1
  obtain⟨a,cap,rfl,_⟩:=xdw e2
  exact⟨_,_,_,rfl⟩)
 clear hx hb hls h0 h1
 obtain⟨va,vn,vc,rfl⟩:=HF.out
 rcases hf with rfl|⟨u,z,rfl⟩
 ·go_wp2_with (first|(at_builtin;refine Lib.wpList_append_run _ rfl _ _ _ _ rfl _ _ rfl rfl _ _ hr ?_)|fail)
  refine bodyPost_ret (v:=.tuple #[.int .i64 ((q+k:Nat):Int),.int .i64 R.2.2]) (by simp[results,Tryz.results240,go_sem]) rfl ⟨vs++[([],v)],k,rfl,HLS.out,fun e=>⟨by rw[(H0.out e).1],(H0.out e).2⟩,H1.out⟩
 ·go_wp2_with (first|(at_builtin;refine Lib.wpList_append_run _ rfl _ _ _ _ rfl _ _ rfl rfl _ _ hr ?_)|fail)
  refine bodyPost_ret (v:=.tuple #[.int .i64 ((q+k:Nat):Int),.int .i64 R.2.2]) (by simp[results,Tryz.results240,go_sem]) rfl ⟨vs++[([],v)],k,rfl,HLS.out,fun e=>⟨by rw[(H0.out e).1],(H0.out e).2⟩,H1.out⟩
end Go.Proofs.YtjkgkmmkehnggaaGreatDoor
