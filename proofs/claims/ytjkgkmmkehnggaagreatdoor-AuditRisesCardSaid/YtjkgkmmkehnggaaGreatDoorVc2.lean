/- cMG cMK. -/
import Derived.Test.YtjkgkmmkehnggaaGreatDoorVc1
namespace Go.Proofs.YtjkgkmmkehnggaaGreatDoor
set_option linter.unusedVariables false
set_option linter.unusedSimpArgs false
open Go.RowKit
set_option maxRecDepth 20000
theorem leB_leH (n:Nat) (x:Int):leB n x=leH n x:=by
 induction n generalizing x with
 | zero=>rfl
 | succ n ih=>rw[leB,leH,ih]
theorem leH_mod (n:Nat) (m x:Int):leH n (x % (256 ^ n*m))=leH n x:=by
 induction n generalizing x with
 | zero=>rfl
 | succ n ih =>
  rw[leH,leH]
  have e:(256:Int) ^ (n+1)*m=256*(256 ^ n*m):=by rw[Int.pow_succ,Int.mul_comm (256 ^ n) 256,Int.mul_assoc]
  rw[e]
  have h1:x % (256*(256 ^ n*m)) % 256=x % 256:=Int.emod_emod_of_dvd x ⟨_,rfl⟩
  have h2:x % (256*(256 ^ n*m)) / 256=x / 256 % (256 ^ n*m):=by
   have h3:=Int.emod_add_mul_ediv x (256*(256 ^ n*m))
   rw[Int.emod_def x,Int.emod_def (x / 256),Int.mul_assoc 256,Int.sub_mul_ediv_left _ _ (by omega:(256:Int)≠0),Int.ediv_ediv_of_nonneg (by omega:(0:Int)≤256)]
  rw[h1,h2,ih]
theorem leH_wrap (n:Nat) (x:Int) (h:n≤8):leH n (IntKind.u64.wrap x)=leH n x:=by
 rw[wrap_u64]
 have:=leH_mod n (256 ^ (8 - n)) x
 rw[← Int.pow_add,show n+(8 - n)=8 from by omega] at this
 exact this
def flatH (n:Nat):List Int→List Int
 | []=>[]
 | x :: l=>leH n x++flatH n l
theorem flatH_append (n:Nat) (a b:List Int):flatH n (a++b)=flatH n a++flatH n b:=by
 induction a with
 | nil=>rfl
 | cons x a ih=>rw[List.cons_append,flatH,flatH,ih,List.append_assoc]
theorem flatH_len (n:Nat) (l:List Int):(flatH n l).length=n*l.length:=by
 induction l with
 | nil=>rfl
 | cons x l ih=>rw[flatH,List.length_append,leH_len,ih,List.length_cons,Nat.mul_succ,Nat.add_comm]
theorem flatH_take (n:Nat) (l:List Int) (k:Nat) (h:k<l.length):flatH n (l.take (k+1))=flatH n (l.take k)++leH n (l.getD k 0):=by
 rw[take_snocBb l k h,flatH_append]
 simp[flatH]
theorem getD_mem (l:List Int) (k:Nat) (h:k<l.length):l.getD k 0 ∈ l:=by
 have e:l.getD k 0=l[k]:=by simp[h]
 rw[e]
 exact List.getElem_mem h
theorem wrap_bd (x:Int):0≤IntKind.u64.wrap x∧IntKind.u64.wrap x≤18446744073709551615:=by rw[wrap_u64];omega
def LayEndCc (w:World) (l:List Int) (e:Ending) (w':World):Prop:=∃ v,e=.returned v∧BytesAt w' v l∧Below w.heap.size w w'
set_option maxRecDepth 20000 in
theorem layI_any (v vl:Value) (b l:List Int) (n:Nat) (w:World) (hb:BytesAt w v b) (hl:NumsAt .i64 w vl l) (h0:1≤n) (h8:n≤8) (hs:b.length+n*l.length≤1000000) :
  Calls Tryz.prog 153 #[v,.int .i64 n,vl] w (LayEndCc w (b++flatH n l)):=by
 obtain⟨c,cap,rfl,hc1,hc2,hc,hcell⟩:=hl
 have HC:=Lib.hid hcell;clear hcell
 have hml:l.length≤9223372036854775807:=by unfold maxLen at hc2;omega
 have HB:=Lib.hid hb;clear hb
 go_enter Tryz.func153,Tryz.ntmps153
 go_wp2_with fail
 go_loopw [0,11] (fun v i wr=>∃ k:Nat,k≤l.length∧i=.int .i64 k∧BytesAt wr v (b++flatH n (l.take k))∧Below w.heap.size w wr) (fun _ i _=>l.length - (intOf i).toNat)
 case atStart=>exact⟨0,Nat.zero_le _,rfl,by simpa[flatH] using HB.out,Below.refl _ _⟩
 case round =>
  obtain⟨k,hk,rfl,hbr,hbw⟩:=hrel
  have hsz:=hbw.size
  by_cases hlt:k<l.length
  ·have c1:=(hbw.cell (p:=⟨c,k,none⟩) hc).trans (HC.out k hlt)
   have hlen:(b++flatH n (l.take k)).length≤1000000:=by
    rw[List.length_append,flatH_len,List.length_take,Nat.min_eq_left hk]
    have:=Nat.mul_le_mul_left n hk
    omega
   have HT:Hid (b++flatH n (l.take (k+1))=b++flatH n (l.take k)++leB n (IntKind.u64.wrap (l.getD k 0))):=Lib.hid (by rw[flatH_take n l k hlt,leB_leH,leH_wrap n _ h8,← List.append_assoc])
   obtain⟨x,hxx⟩:∃ x,l.getD k 0=x:=⟨_,rfl⟩
   rw[hxx] at c1 HT
   have HX:=Lib.hid hxx;clear hxx
   obtain⟨L,hL⟩:∃ L,b++flatH n (l.take k)=L:=⟨_,rfl⟩
   rw[hL] at hbr HT hlen
   clear hL HX
   have HBR:=Lib.hid hbr;clear hbr
   have HL:=Lib.hid hlen;clear hlen
   have HBW:=Lib.hid hbw;clear hbw
   have hwb:=wrap_bd x
   go_wp2_with fail
   refine(put_anyCc _ L n (IntKind.u64.wrap x) n _ HBR.out HL.out (.inl ⟨rfl,h0,h8⟩) hwb.1 hwb.2).mono ?_
   rintro e w1 ⟨v1,rfl,ho,hb1⟩
   have hbe:=ho.bytesAt
   rw[← HT.out] at hbe
   have hbw1:=HBW.out.trans (hb1.mono hsz)
   clear hb1 ho
   go_wp2_with fail
   go_roundw
   case rel=>exact⟨k+1,by omega,by go_num,hbe,hbw1⟩
   case measure=>simp[intOf];omega
  ·obtain rfl:k=l.length:=by omega
   rw[List.take_length] at hbr
   go_wp2_with fail
   go_ret
   exact⟨_,rfl,hbr,hbw⟩
set_option maxRecDepth 20000 in
theorem layW_any (v vl:Value) (b l:List Int) (n:Nat) (w:World) (hb:BytesAt w v b) (hl:NumsAt .u64 w vl l) (hx:∀ x ∈ l,U64 x) (h0:1≤n) (h8:n≤8) (hs:b.length+n*l.length≤1000000) :
  Calls Tryz.prog 154 #[v,.int .i64 n,vl] w (LayEndCc w (b++flatH n l)):=by
 obtain⟨c,cap,rfl,hc1,hc2,hc,hcell⟩:=hl
 have HC:=Lib.hid hcell;clear hcell
 have hml:l.length≤9223372036854775807:=by unfold maxLen at hc2;omega
 have HB:=Lib.hid hb;clear hb
 have HXX:=Lib.hid hx;clear hx
 go_enter Tryz.func154,Tryz.ntmps154
 go_wp2_with fail
 go_loopw [0,11] (fun v i wr=>∃ k:Nat,k≤l.length∧i=.int .i64 k∧BytesAt wr v (b++flatH n (l.take k))∧Below w.heap.size w wr) (fun _ i _=>l.length - (intOf i).toNat)
 case atStart=>exact⟨0,Nat.zero_le _,rfl,by simpa[flatH] using HB.out,Below.refl _ _⟩
 case round =>
  obtain⟨k,hk,rfl,hbr,hbw⟩:=hrel
  have hsz:=hbw.size
  by_cases hlt:k<l.length
  ·have c1:=(hbw.cell (p:=⟨c,k,none⟩) hc).trans (HC.out k hlt)
   have hlen:(b++flatH n (l.take k)).length≤1000000:=by
    rw[List.length_append,flatH_len,List.length_take,Nat.min_eq_left hk]
    have:=Nat.mul_le_mul_left n hk
    omega
   have HT:Hid (b++flatH n (l.take (k+1))=b++flatH n (l.take k)++leB n (l.getD k 0)):=Lib.hid (by rw[flatH_take n l k hlt,leB_leH,← List.append_assoc])
   have hbx:U64 (l.getD k 0):=HXX.out _ (getD_mem l k hlt)
   obtain⟨x,hxx⟩:∃ x,l.getD k 0=x:=⟨_,rfl⟩
   rw[hxx] at c1 HT hbx
   have HX:=Lib.hid hxx;clear hxx
   obtain⟨L,hL⟩:∃ L,b++flatH n (l.take k)=L:=⟨_,rfl⟩
   rw[hL] at hbr HT hlen
   clear hL HX
   have HBR:=Lib.hid hbr;clear hbr
   have HL:=Lib.hid hlen;clear hlen
   have HBW:=Lib.hid hbw;clear hbw
   obtain⟨hx0,hx1⟩:=hbx
   go_wp2_with fail
   refine(put_anyCc _ L n (x) n _ HBR.out HL.out (.inl ⟨rfl,h0,h8⟩) hx0 hx1).mono ?_
   rintro e w1 ⟨v1,rfl,ho,hb1⟩
   have hbe:=ho.bytesAt
   rw[← HT.out] at hbe
   have hbw1:=HBW.out.trans (hb1.mono hsz)
   clear hb1 ho
   go_wp2_with fail
   go_roundw
   case rel=>exact⟨k+1,by omega,by go_num,hbe,hbw1⟩
   case measure=>simp[intOf];omega
  ·obtain rfl:k=l.length:=by omega
   rw[List.take_length] at hbr
   go_wp2_with fail
   go_ret
   exact⟨_,rfl,hbr,hbw⟩
set_option maxRecDepth 20000 in
theorem layB_any (v vl:Value) (b l:List Int) (n:Nat) (w:World) (hb:BytesAt w v b) (hl:NumsAt .u8 w vl l) (hx:∀ x ∈ l,U8 x) (h0:1≤n) (h8:n≤8) (hs:b.length+n*l.length≤1000000) :
  Calls Tryz.prog 155 #[v,.int .i64 n,vl] w (LayEndCc w (b++flatH n l)):=by
 obtain⟨c,cap,rfl,hc1,hc2,hc,hcell⟩:=hl
 have HC:=Lib.hid hcell;clear hcell
 have hml:l.length≤9223372036854775807:=by unfold maxLen at hc2;omega
 have HB:=Lib.hid hb;clear hb
 have HXX:=Lib.hid hx;clear hx
 go_enter Tryz.func155,Tryz.ntmps155
 go_wp2_with fail
 go_loopw [0,11] (fun v i wr=>∃ k:Nat,k≤l.length∧i=.int .i64 k∧BytesAt wr v (b++flatH n (l.take k))∧Below w.heap.size w wr) (fun _ i _=>l.length - (intOf i).toNat)
 case atStart=>exact⟨0,Nat.zero_le _,rfl,by simpa[flatH] using HB.out,Below.refl _ _⟩
 case round =>
  obtain⟨k,hk,rfl,hbr,hbw⟩:=hrel
  have hsz:=hbw.size
  by_cases hlt:k<l.length
  ·have c1:=(hbw.cell (p:=⟨c,k,none⟩) hc).trans (HC.out k hlt)
   have hlen:(b++flatH n (l.take k)).length≤1000000:=by
    rw[List.length_append,flatH_len,List.length_take,Nat.min_eq_left hk]
    have:=Nat.mul_le_mul_left n hk
    omega
   have HT:Hid (b++flatH n (l.take (k+1))=b++flatH n (l.take k)++leB n (l.getD k 0)):=Lib.hid (by rw[flatH_take n l k hlt,leB_leH,← List.append_assoc])
   have hbx:U8 (l.getD k 0):=HXX.out _ (getD_mem l k hlt)
   obtain⟨x,hxx⟩:∃ x,l.getD k 0=x:=⟨_,rfl⟩
   rw[hxx] at c1 HT hbx
   have HX:=Lib.hid hxx;clear hxx
   obtain⟨L,hL⟩:∃ L,b++flatH n (l.take k)=L:=⟨_,rfl⟩
   rw[hL] at hbr HT hlen
   clear hL HX
   have HBR:=Lib.hid hbr;clear hbr
   have HL:=Lib.hid hlen;clear hlen
   have HBW:=Lib.hid hbw;clear hbw
   obtain⟨hx0,hx1⟩:=hbx
   go_wp2_with fail
   refine(put_anyCc _ L n (x) n _ HBR.out HL.out (.inl ⟨rfl,h0,h8⟩) hx0 (by omega)).mono ?_
   rintro e w1 ⟨v1,rfl,ho,hb1⟩
   have hbe:=ho.bytesAt
   rw[← HT.out] at hbe
   have hbw1:=HBW.out.trans (hb1.mono hsz)
   clear hb1 ho
   go_wp2_with fail
   go_roundw
   case rel=>exact⟨k+1,by omega,by go_num,hbe,hbw1⟩
   case measure=>simp[intOf];omega
  ·obtain rfl:k=l.length:=by omega
   rw[List.take_length] at hbr
   go_wp2_with fail
   go_ret
   exact⟨_,rfl,hbr,hbw⟩
theorem bytes_of_nums {w:World} {v:Value} {l:List Int} (h:NumsAt .u8 w v l):BytesAt w v l:=by
 obtain⟨b,cap,h1,h2,h3,h4,h5⟩:=h
 exact⟨_,cap,h1,h2,h3,fun _=>⟨_,rfl,h4,fun i hi=>by
  have e:(⟨b,0,none⟩:Addr).add i=⟨b,i,none⟩:=by unfold Addr.add;split <;> simp_all
  rw[e];exact h5 i hi⟩⟩
theorem LayEndCc.over {W:World} {o:Obj} {l:List Int} {e:Ending} {w':World} (h:LayEndCc (W.alloc o) l e w'):LayEndCc W l e w':=by
 obtain⟨v,h1,h2,h3⟩:=h
 exact⟨v,h1,h2,((Below.refl _ _).alloc (Nat.le_refl _) _).trans (h3.mono (by rw[World.size_alloc];omega))⟩
theorem layI1_1 (v:Value) (b:List Int) (a0:Int) (W:World) (m:Nat) (hb:BytesAt W v b) (hm:m=W.heap.size) (hs:b.length≤999000):Calls Tryz.prog 153 #[v,.int .i64 1,.slice (some ⟨m,0,none⟩) 1 1] (W.alloc (.cells #[.int .i64 a0] 3)) (LayEndCc W (b++flatH 1 [a0])) :=
 (layI_any v _ b [a0] 1 (W.alloc (.cells #[.int .i64 a0] 3)) (hb.below ((Below.refl _ _).alloc (Nat.le_refl _) _)) (nums_built .i64 W [a0] 3 m (0,0) hm (by simp[maxLen])) (by omega) (by omega) (by simp only[List.length_cons,List.length_nil];omega)).mono fun _ _ h=>h.over
theorem layI2_1 (v:Value) (b:List Int) (a0 a1:Int) (W:World) (m:Nat) (hb:BytesAt W v b) (hm:m=W.heap.size) (hs:b.length≤999000):Calls Tryz.prog 153 #[v,.int .i64 1,.slice (some ⟨m,0,none⟩) 2 2] (W.alloc (.cells #[.int .i64 a0,.int .i64 a1] 3)) (LayEndCc W (b++flatH 1 [a0,a1])) :=
 (layI_any v _ b [a0,a1] 1 (W.alloc (.cells #[.int .i64 a0,.int .i64 a1] 3)) (hb.below ((Below.refl _ _).alloc (Nat.le_refl _) _)) (nums_built .i64 W [a0,a1] 3 m (0,0) hm (by simp[maxLen])) (by omega) (by omega) (by simp only[List.length_cons,List.length_nil];omega)).mono fun _ _ h=>h.over
theorem layI4_4 (v:Value) (b:List Int) (a0 a1 a2 a3:Int) (W:World) (m:Nat) (hb:BytesAt W v b) (hm:m=W.heap.size) (hs:b.length≤999000):Calls Tryz.prog 153 #[v,.int .i64 4,.slice (some ⟨m,0,none⟩) 4 4] (W.alloc (.cells #[.int .i64 a0,.int .i64 a1,.int .i64 a2,.int .i64 a3] 3)) (LayEndCc W (b++flatH 4 [a0,a1,a2,a3])) :=
 (layI_any v _ b [a0,a1,a2,a3] 4 (W.alloc (.cells #[.int .i64 a0,.int .i64 a1,.int .i64 a2,.int .i64 a3] 3)) (hb.below ((Below.refl _ _).alloc (Nat.le_refl _) _)) (nums_built .i64 W [a0,a1,a2,a3] 3 m (0,0) hm (by simp[maxLen])) (by omega) (by omega) (by simp only[List.length_cons,List.length_nil];omega)).mono fun _ _ h=>h.over
theorem layI2_4 (v:Value) (b:List Int) (a0 a1:Int) (W:World) (m:Nat) (hb:BytesAt W v b) (hm:m=W.heap.size) (hs:b.length≤999000):Calls Tryz.prog 153 #[v,.int .i64 4,.slice (some ⟨m,0,none⟩) 2 2] (W.alloc (.cells #[.int .i64 a0,.int .i64 a1] 3)) (LayEndCc W (b++flatH 4 [a0,a1])) :=
 (layI_any v _ b [a0,a1] 4 (W.alloc (.cells #[.int .i64 a0,.int .i64 a1] 3)) (hb.below ((Below.refl _ _).alloc (Nat.le_refl _) _)) (nums_built .i64 W [a0,a1] 3 m (0,0) hm (by simp[maxLen])) (by omega) (by omega) (by simp only[List.length_cons,List.length_nil];omega)).mono fun _ _ h=>h.over
theorem layW2_8 (v:Value) (b:List Int) (a0 a1:Int) (W:World) (m:Nat) (hb:BytesAt W v b) (hm:m=W.heap.size) (h0:U64 a0) (h1:U64 a1) (hs:b.length≤999000):Calls Tryz.prog 154 #[v,.int .i64 8,.slice (some ⟨m,0,none⟩) 2 2] (W.alloc (.cells #[.int .u64 a0,.int .u64 a1] 44)) (LayEndCc W (b++flatH 8 [a0,a1])) :=
 (layW_any v _ b [a0,a1] 8 (W.alloc (.cells #[.int .u64 a0,.int .u64 a1] 44)) (hb.below ((Below.refl _ _).alloc (Nat.le_refl _) _)) (nums_built .u64 W [a0,a1] 44 m (0,0) hm (by simp[maxLen])) (by intro x hx;simp only[List.mem_cons,List.not_mem_nil,or_false] at hx;rcases hx with rfl|rfl <;> assumption) (by omega) (by omega) (by simp only[List.length_cons,List.length_nil];omega)).mono fun _ _ h=>h.over
theorem layW3_8 (v:Value) (b:List Int) (a0 a1 a2:Int) (W:World) (m:Nat) (hb:BytesAt W v b) (hm:m=W.heap.size) (h0:U64 a0) (h1:U64 a1) (h2:U64 a2) (hs:b.length≤999000):Calls Tryz.prog 154 #[v,.int .i64 8,.slice (some ⟨m,0,none⟩) 3 3] (W.alloc (.cells #[.int .u64 a0,.int .u64 a1,.int .u64 a2] 44)) (LayEndCc W (b++flatH 8 [a0,a1,a2])) :=
 (layW_any v _ b [a0,a1,a2] 8 (W.alloc (.cells #[.int .u64 a0,.int .u64 a1,.int .u64 a2] 44)) (hb.below ((Below.refl _ _).alloc (Nat.le_refl _) _)) (nums_built .u64 W [a0,a1,a2] 44 m (0,0) hm (by simp[maxLen])) (by intro x hx;simp only[List.mem_cons,List.not_mem_nil,or_false] at hx;rcases hx with rfl|rfl|rfl <;> assumption) (by omega) (by omega) (by simp only[List.length_cons,List.length_nil];omega)).mono fun _ _ h=>h.over
theorem layB4_1 (v:Value) (b:List Int) (a0 a1 a2 a3:Int) (W:World) (m:Nat) (hb:BytesAt W v b) (hm:m=W.heap.size) (h0:U8 a0) (h1:U8 a1) (h2:U8 a2) (h3:U8 a3) (hs:b.length≤999000):Calls Tryz.prog 155 #[v,.int .i64 1,.slice (some ⟨m,0,none⟩) 4 4] (W.alloc (.cells #[.int .u8 a0,.int .u8 a1,.int .u8 a2,.int .u8 a3] 5)) (LayEndCc W (b++flatH 1 [a0,a1,a2,a3])) :=
 (layB_any v _ b [a0,a1,a2,a3] 1 (W.alloc (.cells #[.int .u8 a0,.int .u8 a1,.int .u8 a2,.int .u8 a3] 5)) (hb.below ((Below.refl _ _).alloc (Nat.le_refl _) _)) (nums_built .u8 W [a0,a1,a2,a3] 5 m (0,0) hm (by simp[maxLen])) (by intro x hx;simp only[List.mem_cons,List.not_mem_nil,or_false] at hx;rcases hx with rfl|rfl|rfl|rfl <;> assumption) (by omega) (by omega) (by simp only[List.length_cons,List.length_nil];omega)).mono fun _ _ h=>h.over
theorem keep4 {w' w1:World} {a0 a1 a2 a3:Addr} {v0 v1 v2 v3:Value} (hb:Below w'.heap.size w' w1) (h:w'.cell? a0=some v0∧w'.cell? a1=some v1∧w'.cell? a2=some v2∧w'.cell? a3=some v3):w1.cell? a0=some v0∧w1.cell? a1=some v1∧w1.cell? a2=some v2∧w1.cell? a3=some v3 :=
 ⟨cellb_later hb h.1,cellb_later hb h.2.1,cellb_later hb h.2.2.1,cellb_later hb h.2.2.2⟩
theorem ret_enc {s t:ByteArray} {a b:Int} (h:(s,a)=(t,b)):Ending.returned (.tuple #[.string s,.int .i64 a])=.returned (.tuple #[.string t,.int .i64 b]):=by
 obtain⟨h1,h2⟩:=Prod.mk.injEq .. ▸ h
 rw[h1,h2]
def upL (h:Hd) (k:Nat):List Int:=[h.rf,h.rl,h.mf,h.ml,h.lf,h.ll,h.df,h.dl].take (2*k)
theorem upL_len (h:Hd) (k:Nat):(flatH 8 (upL h k)).length≤64:=by
 rw[flatH_len,upL,List.length_take]
 simp only[List.length_cons,List.length_nil]
 omega
def s0:List Int:=mgH++flatH 1 [3]
def s1 (h:Hd) (k:Nat):List Int:=s0++flatH 8 (upL h k)
def s2 (h:Hd):List Int:=s1 h 4++flatH 8 [h.ad,h.en,h.co]
def s3 (h:Hd):List Int:=s2 h++flatH 1 [cl01 h.cl,h.inn,h.out,h.knd]
def s4 (h:Hd):List Int:=s3 h++flatH 1 [h.z0,h.z1]
def s5 (h:Hd):List Int:=s4 h++flatH 4 [h.lo0,h.la0,h.lo1,h.la1]
def s6 (h:Hd):List Int:=s5 h++flatH 1 [h.zm]
def s7 (h:Hd):List Int:=s6 h++flatH 4 [h.lon,h.lat]
theorem leH_unsg (x:Int):leH 4 (unsg x)=leH 4 x:=leH_mod 4 1 x
theorem s7_bytes (h:Hd):s7 h=bytsH h:=by
 simp only[s7,s6,s5,s4,s3,s2,s1,s0,upL,bytsH,headH,mgH,laysH,widH,numsH,flatH,List.take,List.append_nil,leH_unsg,List.append_assoc,List.cons_append,List.nil_append]
 rfl
theorem s_len (h:Hd) (k:Nat):(s1 h k).length≤200∧(s2 h).length≤200∧(s3 h).length≤200∧(s4 h).length≤200∧(s5 h).length≤200∧(s6 h).length≤200∧(s7 h).length≤200:=by
 have h0:s0.length=8:=rfl
 have h1:=upL_len h k
 have h4:=upL_len h 4
 simp only[s7,s6,s5,s4,s3,s2,s1,List.length_append,flatH_len,List.length_cons,List.length_nil] at h1 h4 ⊢
 omega
set_option maxRecDepth 20000 in
set_option maxHeartbeats 1000000 in
theorem encode_any (h:Hd) (w:World) (hm:MayH h):Calls Tryz.prog 83 #[.agg (cH h)] w fun e w'=>e=.returned (.tuple #[.string (str (encH h).1),.int .i64 (encH h).2])∧Below w.heap.size w w':=by
 have HCk:=Lib.hid (fun W=>check_anyCc h W hm)
 have HM:=Lib.hid hm;clear hm
 have H0:=HAt.made w h 93
 obtain⟨E,hE⟩:∃ E,encH h=E:=⟨_,rfl⟩
 rw[hE]
 have HE:=Lib.hid hE;clear hE
 by_cases hc:ckH h=0
 ·have HE2:Hid ((str (bytsH h),(0:Int))=(str E.1,E.2)):=Lib.hid (by rw[← HE.out,encH,if_pos hc])
  rw[hc] at HCk
  have hcv:=fun(w:World) (C:Array Value) (n c:Nat)=>Lib.run_convert_bytes_const (P:=Tryz.prog) w 23 5 C n c Tryz.underlying23 Tryz.underlying5
  go_enter Tryz.func83,Tryz.ntmps83
  go_wp2_with (first|(refine load_head (by rfl) _ rfl _ rfl _ h (by assumption) ?_)|fail)
  refine(HCk.out _).mono ?_
  rintro e w1 ⟨rfl,hb⟩
  have h1:=H0.later hb
  have u1:Below w.heap.size w w1:=Below.trans (by go_grown) (hb.mono (by rw[World.size_alloc];omega))
  have z1:w.heap.size<w1.heap.size:=h1.lt
  have HH:=Lib.hid h1
  have HU:=Lib.hid u1
  clear hb H0 h1 u1 hc HCk HE
  go_wp2_with fail
  have hbm:=bytes_of_nums (nums_built .u8 w1 mgH 5 w1.heap.size (7,8) rfl (by decide))
  refine(layI1_1 _ mgH 3 _ _ hbm (by simp) (by decide)).mono ?_
  rintro e w2 ⟨v2,rfl,hv2,hb⟩
  have hz2:w1.heap.size≤w2.heap.size:=by have:=hb.size;rw[World.size_alloc] at this;omega
  have u2:Below w1.heap.size w1 w2:=((Below.refl _ _).alloc (Nat.le_refl _) _).trans (hb.mono (by rw[World.size_alloc];omega))
  have h2:=HH.out.below u2 z1
  have HV:=Lib.hid hv2
  have hlen:=fun k=>(s_len h k).1
  have HL:=Lib.hid hlen
  have hlens:=(s_len h 0).2
  have HLS:=Lib.hid hlens
  have HU2:=Lib.hid (HU.out.trans (u2.mono (by omega)))
  have HH2:=Lib.hid h2
  clear hb hbm hcv hlen hlens
  go_wp2_with (first|(refine load_head (by rfl) _ rfl _ rfl _ h (by assumption) ?_)|fail)
  refine(sections_h h _).mono ?_
  rintro e w3 ⟨rfl,hb⟩
  have hz3:=hb.size
  have HU3:=Lib.hid (HU2.out.trans (hb.mono (by omega)))
  have HH3:=Lib.hid (HH2.out.later hb)
  have HV3:=Lib.hid (HV.out.below hb)
  clear hb h2 HV u2
  go_wp2_with fail
  have hIX:=fun W=>idx_sec (.int .u64 h.rf) (.int .u64 h.rl) (.int .u64 h.mf) (.int .u64 h.ml) (.int .u64 h.lf) (.int .u64 h.ll) (.int .u64 h.df) (.int .u64 h.dl) W
  have HIX:=Lib.hid hIX
  clear hIX
  have hw3:w.heap.size<w3.heap.size:=by omega
  go_loopw [5,19] (fun v i wr=>∃ k:Nat,k≤4∧i=.int .i64 k∧Hid (BytesAt wr v (s1 h k))∧Below w3.heap.size w3 wr) (fun _ i _=>4 - (intOf i).toNat)
  case atStart=>exact⟨0,by omega,rfl,Lib.hid (by have:=HV3.out;simpa[s1,s0,upL,flatH] using this),Below.refl _ _⟩
  case round =>
   obtain⟨k,hk,rfl,HB,hbw⟩:=hrel
   have hzr:=hbw.size
   have HHr:=Lib.hid (HH3.out.below hbw hw3)
   have HUr:=Lib.hid (HU3.out.trans (hbw.mono (by omega)))
   rcases(by omega:k=0∨k=1∨k=2∨k=3∨k=4) with rfl|rfl|rfl|rfl|rfl
   ·have hI:=fun W=>(HIX.out W).1
    have hbr:=HB.out
    have HLW:=Lib.hid (fun W m hb hm=>layW2_8 u5 (s1 h 0) h.rf h.rl W m hb hm HM.out.1 HM.out.2.1 (by have:=HL.out 0;omega))
    have HT:Hid (s1 h 0++flatH 8 [h.rf,h.rl]=s1 h 1):=Lib.hid (by rw[s1,s1,List.append_assoc,← flatH_append];rfl)
    clear hbr
    go_wp2_with fail
    refine(HLW.out _ _ (HB.out.below ((Below.refl _ _).alloc (Nat.le_refl _) _)) (by simp)).mono ?_
    rintro e w4 ⟨v4,rfl,hv4,hb⟩
    have u4:Below w3.heap.size w3 w4:=(hbw.alloc hzr _).trans (hb.mono (by rw[World.size_alloc];omega))
    rw[HT.out] at hv4
    have HV4:=Lib.hid hv4
    clear hb hv4
    go_wp2_with fail
    go_roundw
    case rel=>exact⟨1,by omega,by rfl,HV4,u4⟩
    case measure=>simp[intOf]
   ·have hI:=fun W=>(HIX.out W).2.1
    have hbr:=HB.out
    have HLW:=Lib.hid (fun W m hb hm=>layW2_8 u5 (s1 h 1) h.mf h.ml W m hb hm HM.out.2.2.1 HM.out.2.2.2.1 (by have:=HL.out 1;omega))
    have HT:Hid (s1 h 1++flatH 8 [h.mf,h.ml]=s1 h 2):=Lib.hid (by rw[s1,s1,List.append_assoc,← flatH_append];rfl)
    clear hbr
    go_wp2_with fail
    refine(HLW.out _ _ (HB.out.below ((Below.refl _ _).alloc (Nat.le_refl _) _)) (by simp)).mono ?_
    rintro e w4 ⟨v4,rfl,hv4,hb⟩
    have u4:Below w3.heap.size w3 w4:=(hbw.alloc hzr _).trans (hb.mono (by rw[World.size_alloc];omega))
    rw[HT.out] at hv4
    have HV4:=Lib.hid hv4
    clear hb hv4
    go_wp2_with fail
    go_roundw
    case rel=>exact⟨2,by omega,by rfl,HV4,u4⟩
    case measure=>simp[intOf]
   ·have hI:=fun W=>(HIX.out W).2.2.1
    have hbr:=HB.out
    have HLW:=Lib.hid (fun W m hb hm=>layW2_8 u5 (s1 h 2) h.lf h.ll W m hb hm HM.out.2.2.2.2.1 HM.out.2.2.2.2.2.1 (by have:=HL.out 2;omega))
    have HT:Hid (s1 h 2++flatH 8 [h.lf,h.ll]=s1 h 3):=Lib.hid (by rw[s1,s1,List.append_assoc,← flatH_append];rfl)
    clear hbr
    go_wp2_with fail
    refine(HLW.out _ _ (HB.out.below ((Below.refl _ _).alloc (Nat.le_refl _) _)) (by simp)).mono ?_
    rintro e w4 ⟨v4,rfl,hv4,hb⟩
    have u4:Below w3.heap.size w3 w4:=(hbw.alloc hzr _).trans (hb.mono (by rw[World.size_alloc];omega))
    rw[HT.out] at hv4
    have HV4:=Lib.hid hv4
    clear hb hv4
    go_wp2_with fail
    go_roundw
    case rel=>exact⟨3,by omega,by rfl,HV4,u4⟩
    case measure=>simp[intOf]
   ·have hI:=fun W=>(HIX.out W).2.2.2
    have hbr:=HB.out
    have HLW:=Lib.hid (fun W m hb hm=>layW2_8 u5 (s1 h 3) h.df h.dl W m hb hm HM.out.2.2.2.2.2.2.1 HM.out.2.2.2.2.2.2.2.1 (by have:=HL.out 3;omega))
    have HT:Hid (s1 h 3++flatH 8 [h.df,h.dl]=s1 h 4):=Lib.hid (by rw[s1,s1,List.append_assoc,← flatH_append];rfl)
    clear hbr
    go_wp2_with fail
    refine(HLW.out _ _ (HB.out.below ((Below.refl _ _).alloc (Nat.le_refl _) _)) (by simp)).mono ?_
    rintro e w4 ⟨v4,rfl,hv4,hb⟩
    have u4:Below w3.heap.size w3 w4:=(hbw.alloc hzr _).trans (hb.mono (by rw[World.size_alloc];omega))
    rw[HT.out] at hv4
    have HV4:=Lib.hid hv4
    clear hb hv4
    go_wp2_with fail
    go_roundw
    case rel=>exact⟨4,by omega,by rfl,HV4,u4⟩
    case measure=>simp[intOf]
   ·clear hbw HIX HL HV3 HH3 HU3 HU2 HH2 HH HU
    have HLS0:(s1 h 4).length≤200:=(s_len h 4).1
    have a8:=at8 HHr.out
    have a9:=at9 HHr.out
    have a10:=at10 HHr.out
    have HLW:=Lib.hid (fun W m hb hm=>layW3_8 u5 (s1 h 4)  h.ad h.en h.co W m hb hm HM.out.2.2.2.2.2.2.2.2.1 HM.out.2.2.2.2.2.2.2.2.2.1 HM.out.2.2.2.2.2.2.2.2.2.2.1 (by have:=HLS0;omega))
    go_wp2_with fail
    refine(HLW.out _ _ HB.out (by simp)).mono ?_
    rintro e w5 ⟨v5,rfl,hv,hb⟩
    have HV5:=Lib.hid hv
    have HH5:=Lib.hid (HHr.out.later hb)
    have HU5:=Lib.hid (HUr.out.trans (hb.mono HUr.out.size))
    have hz5:=hb.size
    clear hb hv a8 a9 a10 HLW HHr HUr
    have a11:=at11 HH5.out
    have a12:=at12 HH5.out
    have a13:=at13 HH5.out
    have a14:=at14 HH5.out
    have HLW:=Lib.hid (fun W m hb hm hc=>layB4_1 v5 (s2 h) (cl01 h.cl) h.inn h.out h.knd W m hb hm hc HM.out.2.2.2.2.2.2.2.2.2.2.2.1 HM.out.2.2.2.2.2.2.2.2.2.2.2.2.1 HM.out.2.2.2.2.2.2.2.2.2.2.2.2.2 (by have:=HLS.out.1;omega))
    have HC8:Hid (U8 (cl01 h.cl)):=Lib.hid (by unfold cl01 U8;cases h.cl <;> simp)
    have HBd:=Lib.hid (HV5.out.below (Below.drew (Below.refl _ _)))
    go_upto_region 11 with fail
    go_cut [5] (fun v wx=>BytesAt wx v (s3 h)∧Below w5.heap.size w5 wx)
    case first =>
     have hS0:(fun w'=>w'.cell? ⟨w.heap.size,11,none⟩=some (.bool h.cl)∧w'.cell? ⟨w.heap.size,12,none⟩=some (.int .u8 h.inn)∧w'.cell? ⟨w.heap.size,13,none⟩=some (.int .u8 h.out)∧w'.cell? ⟨w.heap.size,14,none⟩=some (.int .u8 h.knd)) w5.drew:=⟨cellb_later (Below.drew (Below.refl _ _)) a11,cellb_later (Below.drew (Below.refl _ _)) a12,cellb_later (Below.drew (Below.refl _ _)) a13,cellb_later (Below.drew (Below.refl _ _)) a14⟩
     have HS0:=Lib.hid hS0;clear hS0
     go_region_held3 (fun w'=>w'.cell? ⟨w.heap.size,11,none⟩=some (.bool h.cl)∧w'.cell? ⟨w.heap.size,12,none⟩=some (.int .u8 h.inn)∧w'.cell? ⟨w.heap.size,13,none⟩=some (.int .u8 h.out)∧w'.cell? ⟨w.heap.size,14,none⟩=some (.int .u8 h.knd)) (first|exact HS0.out|assumption|exact keep4 hb (by assumption)|exact keep4 ((Below.refl _ _).alloc (Nat.le_refl _) _) (by assumption))
      (first|(go_at_call 156;refine(flag_any _ _).mono ?_;rintro e w' ⟨rfl,rfl⟩)|(go_at_call 155;refine(HLW.out _ _ HBd.out (by simp) HC8.out).mono ?_;rintro e w' ⟨v',rfl,hv,hb⟩))
     go_wp2_with fail
     go_meet
     case rel=>exact⟨hv,(Below.drew (Below.refl _ _)).trans hb⟩
    case rest =>
     obtain⟨hv,hb⟩:=hcut
     generalize wc=w6 at *
     have HV6:=Lib.hid hv
     have HH6:=Lib.hid (HH5.out.later hb)
     have HU6:=Lib.hid (HU5.out.trans (hb.mono HU5.out.size))
     have hz6:=hb.size
     clear hb hv a11 a12 a13 a14 HLW HH5 HU5
     have a15:=at15 HH6.out
     have a16:=at16 HH6.out
     have HLW:=Lib.hid (fun W m hb hm=>layI2_1 u5 (s3 h)  h.z0 h.z1 W m hb hm  (by have:=HLS.out.2.1;omega))
     go_wp2_with fail
     refine(HLW.out _ _ HV6.out (by simp)).mono ?_
     rintro e w7 ⟨v7,rfl,hv,hb⟩
     have HV7:=Lib.hid hv
     have HH7:=Lib.hid (HH6.out.later hb)
     have HU7:=Lib.hid (HU6.out.trans (hb.mono HU6.out.size))
     have hz7:=hb.size
     clear hb hv a15 a16 HLW HH6 HU6
     have a17:=at17 HH7.out
     have a18:=at18 HH7.out
     have a19:=at19 HH7.out
     have a20:=at20 HH7.out
     have HLW:=Lib.hid (fun W m hb hm=>layI4_4 v7 (s4 h)  h.lo0 h.la0 h.lo1 h.la1 W m hb hm  (by have:=HLS.out.2.2.1;omega))
     go_wp2_with fail
     refine(HLW.out _ _ HV7.out (by simp)).mono ?_
     rintro e w8 ⟨v8,rfl,hv,hb⟩
     have HV8:=Lib.hid hv
     have HH8:=Lib.hid (HH7.out.later hb)
     have HU8:=Lib.hid (HU7.out.trans (hb.mono HU7.out.size))
     have hz8:=hb.size
     clear hb hv a17 a18 a19 a20 HLW HH7 HU7
     have a21:=at21 HH8.out
     have HLW:=Lib.hid (fun W m hb hm=>layI1_1 v8 (s5 h)  h.zm W m hb hm  (by have:=HLS.out.2.2.2.1;omega))
     go_wp2_with fail
     refine(HLW.out _ _ HV8.out (by simp)).mono ?_
     rintro e w9 ⟨v9,rfl,hv,hb⟩
     have HV9:=Lib.hid hv
     have HH9:=Lib.hid (HH8.out.later hb)
     have HU9:=Lib.hid (HU8.out.trans (hb.mono HU8.out.size))
     have hz9:=hb.size
     clear hb hv a21 HLW HH8 HU8
     have a22:=at22 HH9.out
     have a23:=at23 HH9.out
     have HLW:=Lib.hid (fun W m hb hm=>layI2_4 v9 (s6 h)  h.lon h.lat W m hb hm  (by have:=HLS.out.2.2.2.2.1;omega))
     go_wp2_with fail
     refine(HLW.out _ _ HV9.out (by simp)).mono ?_
     rintro e w10 ⟨v10,rfl,hv,hb⟩
     have HV10:=Lib.hid hv
     have HH10:=Lib.hid (HH9.out.later hb)
     have HU10:=Lib.hid (HU9.out.trans (hb.mono HU9.out.size))
     have hz10:=hb.size
     clear hb hv a22 a23 HLW HH9 HU9
     have hs:=run_str w10 v10 _ HV10.out
     rw[show s6 h++flatH 4 [h.lon,h.lat]=bytsH h from s7_bytes h] at hs
     go_wp2_with fail
     go_ret2
     exact⟨ret_enc HE2.out,HU10.out⟩
 ·have hne:(ckH h != 0)=true:=by simp only[bne_iff_ne,ne_eq];exact hc
  have HE2:Hid ((str [],ckH h)=(str E.1,E.2)):=Lib.hid (by rw[← HE.out,encH,if_neg hc])
  clear hc HE
  obtain⟨r,hr⟩:∃ r,ckH h=r:=⟨_,rfl⟩
  rw[hr] at hne HE2 HCk
  clear hr
  go_enter Tryz.func83,Tryz.ntmps83
  go_wp2_with (first|(refine load_head (by rfl) _ rfl _ rfl _ h (by assumption) ?_)|fail)
  refine(HCk.out _).mono ?_
  rintro e w1 ⟨rfl,hb⟩
  have u1:Below w.heap.size w w1:=Below.trans (by go_grown) (hb.mono (by rw[World.size_alloc];omega))
  clear hb H0
  go_wp2_with fail
  go_ret2
  exact⟨ret_enc HE2.out,u1⟩
theorem str_le (l:List Int) (n:Nat) (h:l.length≤n):(str l).size≤n:=by rw[str_size];exact h
theorem i1 (x:Int):(str (leH 1 x)).size≤8:=str_le _ _ (by rw[leH_len];omega)
def r1 (h:Hd):List Int:=headH++((leH 8 h.rf++leH 8 h.rl)++((leH 8 h.mf++leH 8 h.ml)++((leH 8 h.lf++leH 8 h.ll)++(leH 8 h.df++leH 8 h.dl))))
def r2 (h:Hd):List Int:=r1 h++(leH 8 h.ad++(leH 8 h.en++(leH 8 h.co++leH 1 (cl01 h.cl))))
def r3 (h:Hd):List Int:=r2 h++(leH 1 h.inn++(leH 1 h.out++(leH 1 h.knd++(leH 1 h.z0++leH 1 h.z1))))
theorem cH_one (h:Hd):(cH h).all (·.oneCell')=true:=by simp[cH,Value.oneCell']
theorem cH_size (h:Hd):(cH h).size=24:=rfl
def Put24 (w:World) (g:Nat) (T:TypeId) (h:Hd) (w':World):Prop:=HAt w' g T h∧w'.heap.size=w.heap.size∧(∀ B w0,B≤g→Below B w0 w→Below B w0 w')∧(∀ k,k≠g→w'.heap[k]?=w.heap[k]?)
theorem Put24.keep {w w':World} {g:Nat} {T U:TypeId} {h j:Hd} {b:Nat} (p:Put24 w g T h w') (H:HAt w b U j) (hb:b≠g):HAt w' b U j:=(p.2.2.2 b hb).trans H
theorem put24 (w:World) (g:Nat) (T:TypeId) (old h:Hd) (H:HAt w g T old):Put24 w g T h (w.setRow g (cH h)) :=
 ⟨setRow_heap w g _ _ T (0,0) H,setRow_size _ _ _,fun B w0 hB hb=>below_setRow hb hB _,fun k hk=>setRow_other w g k _ hk⟩
theorem store_head {ops:Array Oper} {rest:List Oper} {o:Oper} {a:Act} {w:World} {Q:Exit→Act→World→Prop} (hw:Region.wanted o (yielded ops a.tmps)=true) (x y:Operand) (ho:o.op=.store 93 x y)
  (g:Nat) (hx:a.eval x=.pointer (some ⟨g,0,none⟩)) (h:Hd) (hy:a.eval y=.agg (cH h)) (T:TypeId) (old:Hd) (H:HAt w g T old)
  (hd:o.dst=none) (k:∀ w',Put24 w g T h w'→wpList Tryz.prog ops Q rest a w'):wpList Tryz.prog ops Q (o :: rest) a w :=
 BigFrame.wpList_want hw fun _ hK=>wp_store_row 93 x y ho g (cH h) hx hy T (cH old) H head_size rfl (cH_one h) (hK _ _ (by rw[hd];exact k _ (put24 w g T old h H)))
theorem HAt.zero (w:World) (T:TypeId):HAt (w.alloc (.cells #[.int .u64 zeroH.rf,.int .u64 zeroH.rl,.int .u64 zeroH.mf,.int .u64 zeroH.ml,.int .u64 zeroH.lf,.int .u64 zeroH.ll,.int .u64 zeroH.df,.int .u64 zeroH.dl,.int .u64 zeroH.ad,.int .u64 zeroH.en,.int .u64 zeroH.co,.bool zeroH.cl,.int .u8 zeroH.inn,.int .u8 zeroH.out,.int .u8 zeroH.knd,.int .i64 zeroH.z0,.int .i64 zeroH.z1,.int .i64 zeroH.lo0,.int .i64 zeroH.la0,.int .i64 zeroH.lo1,.int .i64 zeroH.la1,.int .i64 zeroH.zm,.int .i64 zeroH.lon,.int .i64 zeroH.lat] T)) w.heap.size T zeroH:=heap_alloc_new w _
theorem setCell_blk {w:World} {g i:Nat} {cs:Array Value} {t:TypeId} {fr:Nat × Nat} (h:w.heap[g]?=some (.cells cs t fr)) (v:Value):(w.setCell ⟨g,i,none⟩ v).heap[g]?=some (.cells (cs.setIfInBounds i v) t fr):=by
 rw[setCell_eq_setRow w g i cs t fr v h]
 exact setRow_heap w g _ _ t _ h
theorem cell_setother {w:World} {a p:Addr} (u:Value) (h:a.block≠p.block):(w.setCell p u).cell? a=w.cell? a:=by
 unfold World.cell?
 rw[Below.heap_setCell _ _ _ _ h]
theorem heap_other {w:World} {g i k:Nat} {v:Value} (h:k≠g):(w.setCell ⟨g,i,none⟩ v).heap[k]?=w.heap[k]?:=Below.heap_setCell _ _ _ _ h
def blCc (t:ByteArray):List Int:=t.data.toList.map (fun c=>(c.toNat:Int))
theorem bl_lenCc (t:ByteArray):(blCc t).length=t.size:=by simp[blCc]
theorem bl_byts (t:ByteArray):Byts (blCc t):=by
 intro c hc
 obtain⟨b,_,rfl⟩:=List.mem_map.1 hc
 have:=byte_bd b
 omega
theorem numB_numH (l:List UInt8):numB l=numH (l.map (fun c=>(c.toNat:Int))):=by
 induction l with
 | nil=>rfl
 | cons c l ih=>rw[numB,List.map_cons,numH,ih]
theorem extract_list (t:ByteArray) (i j:Nat):(t.extract i j).data.toList=(t.data.toList.drop i).take (j - i):=by
 simp[ByteArray.data_extract]
def nmB (t:ByteArray) (o w:Nat):Int:=numB (t.extract o (o+w)).data.toList
theorem nmB_eq (t:ByteArray) (o w:Nat):nmB t o w=numH (((blCc t).drop o).take w):=by
 unfold nmB blCc
 rw[numB_numH,extract_list,Nat.add_sub_cancel_left,List.map_take,List.map_drop]
theorem nmB_bd (t:ByteArray) (o w:Nat) (h:o+w≤t.size):0≤nmB t o w∧nmB t o w<p256 w:=by
 rw[nmB_eq]
 have hb:Byts (((blCc t).drop o).take w):=fun c hc=>bl_byts t c (List.mem_of_mem_drop (List.mem_of_mem_take hc))
 have:=numH_bd _ hb
 rw[List.length_take,List.length_drop,bl_lenCc,Nat.min_eq_left (by omega)] at this
 exact this
theorem nmB_one (t:ByteArray) (o:Nat):nmB t o 1=(blCc t).getD o 0:=by rw[nmB_eq,num_one]
def sgB (t:ByteArray) (o:Nat):Int:=sgn (nmB t o 4) 4
theorem sg_sgn (x:Int) (h0:0≤x) (h1:x<4294967296):sg x=sgn x 4:=by
 unfold sg sgn
 simp only[Int.reduceMul,Int.reduceSub,Int.reduceToNat,Int.reducePow]
 rw[Int.emod_eq_of_lt h0 h1]
def telB (t:ByteArray):Hd:=⟨nmB t 8 8,nmB t 16 8,nmB t 24 8,nmB t 32 8,nmB t 40 8,nmB t 48 8,nmB t 56 8,nmB t 64 8,nmB t 72 8,nmB t 80 8,nmB t 88 8,nmB t 96 1 == 1,nmB t 97 1,nmB t 98 1,nmB t 99 1,nmB t 100 1,nmB t 101 1,sgB t 102,sgB t 106,sgB t 110,sgB t 114,nmB t 118 1,sgB t 119,sgB t 123⟩
theorem telB_rf (t:ByteArray):(telB t).rf=nmB t 8 8:=by rw[telB]
theorem telB_rl (t:ByteArray):(telB t).rl=nmB t 16 8:=by rw[telB]
theorem telB_mf (t:ByteArray):(telB t).mf=nmB t 24 8:=by rw[telB]
theorem telB_ml (t:ByteArray):(telB t).ml=nmB t 32 8:=by rw[telB]
theorem telB_lf (t:ByteArray):(telB t).lf=nmB t 40 8:=by rw[telB]
theorem telB_ll (t:ByteArray):(telB t).ll=nmB t 48 8:=by rw[telB]
theorem telB_df (t:ByteArray):(telB t).df=nmB t 56 8:=by rw[telB]
theorem telB_dl (t:ByteArray):(telB t).dl=nmB t 64 8:=by rw[telB]
theorem telB_ad (t:ByteArray):(telB t).ad=nmB t 72 8:=by rw[telB]
theorem telB_en (t:ByteArray):(telB t).en=nmB t 80 8:=by rw[telB]
theorem telB_co (t:ByteArray):(telB t).co=nmB t 88 8:=by rw[telB]
theorem telB_cl (t:ByteArray):(telB t).cl=(nmB t 96 1 == 1):=by rw[telB]
theorem telB_inn (t:ByteArray):(telB t).inn=nmB t 97 1:=by rw[telB]
theorem telB_out (t:ByteArray):(telB t).out=nmB t 98 1:=by rw[telB]
theorem telB_knd (t:ByteArray):(telB t).knd=nmB t 99 1:=by rw[telB]
theorem telB_z0 (t:ByteArray):(telB t).z0=nmB t 100 1:=by rw[telB]
theorem telB_z1 (t:ByteArray):(telB t).z1=nmB t 101 1:=by rw[telB]
theorem telB_lo0 (t:ByteArray):(telB t).lo0=sgB t 102:=by rw[telB]
theorem telB_la0 (t:ByteArray):(telB t).la0=sgB t 106:=by rw[telB]
theorem telB_lo1 (t:ByteArray):(telB t).lo1=sgB t 110:=by rw[telB]
theorem telB_la1 (t:ByteArray):(telB t).la1=sgB t 114:=by rw[telB]
theorem telB_zm (t:ByteArray):(telB t).zm=nmB t 118 1:=by rw[telB]
theorem telB_lon (t:ByteArray):(telB t).lon=sgB t 119:=by rw[telB]
theorem telB_lat (t:ByteArray):(telB t).lat=sgB t 123:=by rw[telB]
theorem tel_telB (t:ByteArray) (h:127≤t.size):telH (blCc t)=telB t:=by
 have hs:∀ q,q+4≤127→sg (nmB t q 4)=sgB t q:=fun q hq=>by
  have:=nmB_bd t q 4 (by omega)
  rw[p256_4] at this
  exact sg_sgn _ this.1 this.2
 unfold telH telB ofNums
 simp only[widH,takesH,List.drop_drop,List.getD_cons_zero,List.getD_cons_succ,Nat.reduceAdd,← nmB_eq]
 rw[hs 102 (by omega),hs 106 (by omega),hs 110 (by omega),hs 114 (by omega),hs 119 (by omega),hs 123 (by omega)]
theorem may_telB (t:ByteArray) (h:127≤t.size):MayH (telB t):=by
 rw[← tel_telB t h]
 exact may_of _ (takes_fit widH _ (fun c hc=>bl_byts t c (List.mem_of_mem_drop hc)) (by rw[List.length_drop,bl_lenCc,sumW_widH];omega))
theorem map_inj {a b:List UInt8} (h:a.map (fun c=>(c.toNat:Int))=b.map (fun c=>(c.toNat:Int))):a=b:=by
 induction a generalizing b with
 | nil=>cases b with
  | nil=>rfl
  | cons c b=>simp at h
 | cons c a ih=>cases b with
  | nil=>simp at h
  | cons d b =>
   simp only[List.map_cons,List.cons.injEq] at h
   have:c=d:=UInt8.toNat_inj.1 (by have:=h.1;omega)
   rw[this,ih h.2]
theorem name_iff (t:ByteArray):t.extract 0 7=⟨#[80,77,84,105,108,101,115]⟩↔(blCc t).take 7=mgH:=by
 have e:(blCc t).take 7=(t.extract 0 7).data.toList.map (fun c=>(c.toNat:Int)):=by
  rw[extract_list,blCc,List.map_take]
  rfl
 rw[e]
 constructor
 ·intro h;rw[h];rfl
 ·intro h
  apply ByteArray.ext
  apply Array.ext'
  exact map_inj (h.trans (by rfl:mgH=[80,77,84,105,108,101,115].map (fun c:UInt8=>(c.toNat:Int))))
theorem decB_short (t:ByteArray) (h:t.size<127):decH (blCc t)=(zeroH,3):=by
 unfold decH
 rw[if_pos (by rw[bl_lenCc];exact h)]
theorem decB_magic (t:ByteArray) (h:127≤t.size) (hn:t.extract 0 7≠⟨#[80,77,84,105,108,101,115]⟩):decH (blCc t)=(zeroH,12):=by
 unfold decH
 rw[if_neg (by rw[bl_lenCc];omega),if_pos (fun e=>hn ((name_iff t).2 e))]
theorem decB_version (t:ByteArray) (h:127≤t.size) (hn:t.extract 0 7=⟨#[80,77,84,105,108,101,115]⟩) (hv:nmB t 7 1≠3):decH (blCc t)=(zeroH,13):=by
 unfold decH
 rw[if_neg (by rw[bl_lenCc];omega),if_neg (fun e=>e ((name_iff t).1 hn)),if_pos (by rw[← nmB_one];exact hv)]
theorem decB_form (t:ByteArray) (h:127≤t.size) (hn:t.extract 0 7=⟨#[80,77,84,105,108,101,115]⟩) (hv:nmB t 7 1=3) (hf:1<nmB t 96 1):decH (blCc t)=(zeroH,4):=by
 unfold decH
 rw[if_neg (by rw[bl_lenCc];omega),if_neg (fun e=>e ((name_iff t).1 hn)),if_neg (by rw[← nmB_one];exact fun e=>e hv),if_pos (by rw[← nmB_one];exact hf)]
theorem decB_bad (t:ByteArray) (h:127≤t.size) (hn:t.extract 0 7=⟨#[80,77,84,105,108,101,115]⟩) (hv:nmB t 7 1=3) (hf:¬ 1<nmB t 96 1) (hc:ckH (telB t)≠0):decH (blCc t)=(zeroH,ckH (telB t)):=by
 unfold decH
 rw[if_neg (by rw[bl_lenCc];omega),if_neg (fun e=>e ((name_iff t).1 hn)),if_neg (by rw[← nmB_one];exact fun e=>e hv),if_neg (by rw[← nmB_one];exact hf),tel_telB t h,if_neg hc]
theorem decB_ok (t:ByteArray) (h:127≤t.size) (hn:t.extract 0 7=⟨#[80,77,84,105,108,101,115]⟩) (hv:nmB t 7 1=3) (hf:¬ 1<nmB t 96 1) (hc:ckH (telB t)=0):decH (blCc t)=(telB t,0):=by
 unfold decH
 rw[if_neg (by rw[bl_lenCc];omega),if_neg (fun e=>e ((name_iff t).1 hn)),if_neg (by rw[← nmB_one];exact fun e=>e hv),if_neg (by rw[← nmB_one];exact hf),tel_telB t h,if_pos hc]
theorem numBad_ok (t:ByteArray) (p n:Int) (hm:t.size≤maxLen) (p0:0≤p) (n0:1≤n) (n1:n≤8) (hp:p+n≤t.size):numBad t p 0 n=0:=by
 unfold maxLen at hm
 have e1:placedV t p=0:=if_pos ⟨p0,by omega⟩
 have e2:wideV n=0:=if_pos ⟨n0,n1⟩
 have e3:leftV t p n=0:=by
  unfold leftV
  rw[IntWalk.wrap64_in _ (by omega),if_neg (by omega)]
 simp[numBad,firstOf,e1,e2,e3]
theorem bytesBad_ok (t:ByteArray) (p n:Int) (hm:t.size≤maxLen) (p0:0≤p) (n0:0≤n) (hp:p+n≤t.size):bytesBad t p 0 n=0:=by
 unfold maxLen at hm
 have e1:placedV t p=0:=if_pos ⟨p0,by omega⟩
 have e2:countedV n=0:=if_neg (by omega)
 have e3:leftV t p n=0:=by
  unfold leftV
  rw[IntWalk.wrap64_in _ (by omega),if_neg (by omega)]
 simp[bytesBad,firstOf,e1,e2,e3]
theorem num_at (t:ByteArray) (p n:Nat) (w:World) (hm:t.size≤maxLen) (n0:1≤n) (n1:n≤8) (hp:p+n≤t.size):Calls Tryz.prog 97 #[.agg #[.string t,.int .i64 p,.int .i64 0],.int .i64 n] w
  fun e w'=>e=.returned (.tuple #[.int .u64 (nmB t p n),.agg #[.string t,.int .i64 ((p+n:Nat):Int),.int .i64 0]])∧Below w.heap.size w w':=by
 have key:=num_yes t p n w hm (numBad_ok t p n hm (by omega) (by omega) (by omega) (by omega)) (by omega) (by omega) (by omega) (by omega)
 rw[Int.toNat_natCast,show ((p:Int)+(n:Int)).toNat=p+n from by omega] at key
 have e:((p+n:Nat):Int)=(p:Int)+(n:Int):=by omega
 rw[e]
 exact key
theorem results_two {fn:Func} {p q:Tmp} {ty:TypeId} (h:fn.results=#[.cell p ty,.tmp q]) (tmps:Array Value) (w:World) (g:Nat) (a:Hd) (v:Value)
  (hp:tmps.getD p undef=.pointer (some ⟨g,0,none⟩)) (hq:tmps.getD q undef=v) (hl:(loadVar ty ⟨g,0,none⟩).run Tryz.prog w=.ok (.agg (cH a)) w) :
  (results fn tmps).run Tryz.prog w=.ok (.tuple #[.agg (cH a),v]) w:=by
 have hp':tmps[p]?.getD undef=.pointer (some ⟨g,0,none⟩):=by simpa using hp
 have hq':tmps[q]?.getD undef=v:=by simpa using hq
 simp[results,h,hp',hq',asAddr,hl]
theorem results_head {fn:Func} {p q:Tmp} (h:fn.results=#[.cell p 93,.tmp q]) (tmps:Array Value) (w:World) (g:Nat) (T:TypeId) (a:Hd) (v:Value) (hp:tmps.getD p undef=.pointer (some ⟨g,0,none⟩)) (hq:tmps.getD q undef=v) (H:HAt w g T a) :
  (results fn tmps).run Tryz.prog w=.ok (.tuple #[.agg (cH a),v]) w:=results_two h tmps w g a v hp hq (run_loadVar_row w g T _ (cH a) (0,0) _ H Tryz.underlying93 rfl head_size)
theorem str_ne {s:ByteArray} {l:List UInt8} (h:s≠⟨l.toArray⟩):(s.toList == l)=false:=by
 rw[beq_eq_false_iff_ne,ByteArray.toList_eq]
 intro e
 apply h
 apply ByteArray.ext
 apply Array.ext'
 exact e
theorem str_eq {s:ByteArray} {l:List UInt8} (h:s=⟨l.toArray⟩):(s.toList == l)=true:=by
 subst h
 rw[ByteArray.toList_eq]
 simp
end Go.Proofs.YtjkgkmmkehnggaaGreatDoor
