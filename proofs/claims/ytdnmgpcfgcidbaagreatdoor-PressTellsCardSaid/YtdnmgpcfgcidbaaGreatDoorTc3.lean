/- cMG. -/
import Derived.Test.YtdnmgpcfgcidbaaGreatDoorTc2
namespace Go.Proofs.YtdnmgpcfgcidbaaGreatDoor
set_option linter.unusedVariables false
set_option linter.unusedSimpArgs false
open Go.RowKit
set_option maxRecDepth 20000
theorem leB_leH (n:Nat) (x:Int):leB n x=leH n x:=by
 induction n generalizing x with
 | zero=>rfl
 | succ n ih=>rw[leB,leH,ih]
theorem leH_mod (n:Nat) (m x:Int):leH n (x % (256 ^ n*m))=leH n x:=by
 induction n generalizing x with
 | zero=>rfl
 | succ n ih =>
  rw[leH,leH]
  have e:(256:Int) ^ (n+1)*m=256*(256 ^ n*m):=by rw[Int.pow_succ,Int.mul_comm (256 ^ n) 256,Int.mul_assoc]
  rw[e]
  have h1:x % (256*(256 ^ n*m)) % 256=x % 256:=Int.emod_emod_of_dvd x ⟨_,rfl⟩
  have h2:x % (256*(256 ^ n*m)) / 256=x / 256 % (256 ^ n*m):=by
   have h3:=Int.emod_add_mul_ediv x (256*(256 ^ n*m))
   rw[Int.emod_def x,Int.emod_def (x / 256),Int.mul_assoc 256,Int.sub_mul_ediv_left _ _ (by omega:(256:Int)≠0),Int.ediv_ediv_of_nonneg (by omega:(0:Int)≤256)]
  rw[h1,h2,ih]
theorem leH_wrap (n:Nat) (x:Int) (h:n≤8):leH n (IntKind.u64.wrap x)=leH n x:=by
 rw[wrap_u64]
 have:=leH_mod n (256 ^ (8 - n)) x
 rw[← Int.pow_add,show n+(8 - n)=8 from by omega] at this
 exact this
def flatH (n:Nat):List Int→List Int
 | []=>[]
 | x :: l=>leH n x++flatH n l
theorem flatH_append (n:Nat) (a b:List Int):flatH n (a++b)=flatH n a++flatH n b:=by
 induction a with
 | nil=>rfl
 | cons x a ih=>rw[List.cons_append,flatH,flatH,ih,List.append_assoc]
theorem flatH_len (n:Nat) (l:List Int):(flatH n l).length=n*l.length:=by
 induction l with
 | nil=>rfl
 | cons x l ih=>rw[flatH,List.length_append,leH_len,ih,List.length_cons,Nat.mul_succ,Nat.add_comm]
theorem flatH_take (n:Nat) (l:List Int) (k:Nat) (h:k<l.length):flatH n (l.take (k+1))=flatH n (l.take k)++leH n (l.getD k 0):=by
 rw[take_snocBb l k h,flatH_append]
 simp[flatH]
theorem getD_mem (l:List Int) (k:Nat) (h:k<l.length):l.getD k 0 ∈ l:=by
 have e:l.getD k 0=l[k]:=by simp[h]
 rw[e]
 exact List.getElem_mem h
theorem wrap_bd (x:Int):0≤IntKind.u64.wrap x∧IntKind.u64.wrap x≤18446744073709551615:=by rw[wrap_u64];omega
def LayEndCc (w:World) (l:List Int) (e:Ending) (w':World):Prop:=∃ v,e=.returned v∧BytesAt w' v l∧Below w.heap.size w w'
set_option maxRecDepth 20000 in
theorem layI_any (v vl:Value) (b l:List Int) (n:Nat) (w:World) (hb:BytesAt w v b) (hl:NumsAt .i64 w vl l) (h0:1≤n) (h8:n≤8) (hs:b.length+n*l.length≤1000000) :
  Calls Tryz.prog 147 #[v,.int .i64 n,vl] w (LayEndCc w (b++flatH n l)):=by
 obtain⟨c,cap,rfl,hc1,hc2,hc,hcell⟩:=hl
 have HC:=Lib.hid hcell;clear hcell
 have hml:l.length≤9223372036854775807:=by unfold maxLen at hc2;omega
 have HB:=Lib.hid hb;clear hb
 go_enter Tryz.func147,Tryz.ntmps147
 go_wp2_with fail
 go_loopw [0,11] (fun v i wr=>∃ k:Nat,k≤l.length∧i=.int .i64 k∧BytesAt wr v (b++flatH n (l.take k))∧Below w.heap.size w wr) (fun _ i _=>l.length - (intOf i).toNat)
 case atStart=>exact⟨0,Nat.zero_le _,rfl,by simpa[flatH] using HB.out,Below.refl _ _⟩
 case round =>
  obtain⟨k,hk,rfl,hbr,hbw⟩:=hrel
  have hsz:=hbw.size
  by_cases hlt:k<l.length
  ·have c1:=(hbw.cell (p:=⟨c,k,none⟩) hc).trans (HC.out k hlt)
   have hlen:(b++flatH n (l.take k)).length≤1000000:=by
    rw[List.length_append,flatH_len,List.length_take,Nat.min_eq_left hk]
    have:=Nat.mul_le_mul_left n hk
    omega
   have HT:Hid (b++flatH n (l.take (k+1))=b++flatH n (l.take k)++leB n (IntKind.u64.wrap (l.getD k 0))):=Lib.hid (by rw[flatH_take n l k hlt,leB_leH,leH_wrap n _ h8,← List.append_assoc])
   obtain⟨x,hxx⟩:∃ x,l.getD k 0=x:=⟨_,rfl⟩
   rw[hxx] at c1 HT
   have HX:=Lib.hid hxx;clear hxx
   obtain⟨L,hL⟩:∃ L,b++flatH n (l.take k)=L:=⟨_,rfl⟩
   rw[hL] at hbr HT hlen
   clear hL HX
   have HBR:=Lib.hid hbr;clear hbr
   have HL:=Lib.hid hlen;clear hlen
   have HBW:=Lib.hid hbw;clear hbw
   have hwb:=wrap_bd x
   go_wp2_with fail
   refine(put_anyCc _ L n (IntKind.u64.wrap x) n _ HBR.out HL.out (.inl ⟨rfl,h0,h8⟩) hwb.1 hwb.2).mono ?_
   rintro e w1 ⟨v1,rfl,ho,hb1⟩
   have hbe:=ho.bytesAt
   rw[← HT.out] at hbe
   have hbw1:=HBW.out.trans (hb1.mono hsz)
   clear hb1 ho
   go_wp2_with fail
   go_roundw
   case rel=>exact⟨k+1,by omega,by go_num,hbe,hbw1⟩
   case measure=>simp[intOf];omega
  ·obtain rfl:k=l.length:=by omega
   rw[List.take_length] at hbr
   go_wp2_with fail
   go_ret
   exact⟨_,rfl,hbr,hbw⟩
set_option maxRecDepth 20000 in
theorem layW_any (v vl:Value) (b l:List Int) (n:Nat) (w:World) (hb:BytesAt w v b) (hl:NumsAt .u64 w vl l) (hx:∀ x ∈ l,U64 x) (h0:1≤n) (h8:n≤8) (hs:b.length+n*l.length≤1000000) :
  Calls Tryz.prog 148 #[v,.int .i64 n,vl] w (LayEndCc w (b++flatH n l)):=by
 obtain⟨c,cap,rfl,hc1,hc2,hc,hcell⟩:=hl
 have HC:=Lib.hid hcell;clear hcell
 have hml:l.length≤9223372036854775807:=by unfold maxLen at hc2;omega
 have HB:=Lib.hid hb;clear hb
 have HXX:=Lib.hid hx;clear hx
 go_enter Tryz.func148,Tryz.ntmps148
 go_wp2_with fail
 go_loopw [0,11] (fun v i wr=>∃ k:Nat,k≤l.length∧i=.int .i64 k∧BytesAt wr v (b++flatH n (l.take k))∧Below w.heap.size w wr) (fun _ i _=>l.length - (intOf i).toNat)
 case atStart=>exact⟨0,Nat.zero_le _,rfl,by simpa[flatH] using HB.out,Below.refl _ _⟩
 case round =>
  obtain⟨k,hk,rfl,hbr,hbw⟩:=hrel
  have hsz:=hbw.size
  by_cases hlt:k<l.length
  ·have c1:=(hbw.cell (p:=⟨c,k,none⟩) hc).trans (HC.out k hlt)
   have hlen:(b++flatH n (l.take k)).length≤1000000:=by
    rw[List.length_append,flatH_len,List.length_take,Nat.min_eq_left hk]
    have:=Nat.mul_le_mul_left n hk
    omega
   have HT:Hid (b++flatH n (l.take (k+1))=b++flatH n (l.take k)++leB n (l.getD k 0)):=Lib.hid (by rw[flatH_take n l k hlt,leB_leH,← List.append_assoc])
   have hbx:U64 (l.getD k 0):=HXX.out _ (getD_mem l k hlt)
   obtain⟨x,hxx⟩:∃ x,l.getD k 0=x:=⟨_,rfl⟩
   rw[hxx] at c1 HT hbx
   have HX:=Lib.hid hxx;clear hxx
   obtain⟨L,hL⟩:∃ L,b++flatH n (l.take k)=L:=⟨_,rfl⟩
   rw[hL] at hbr HT hlen
   clear hL HX
   have HBR:=Lib.hid hbr;clear hbr
   have HL:=Lib.hid hlen;clear hlen
   have HBW:=Lib.hid hbw;clear hbw
   obtain⟨hx0,hx1⟩:=hbx
   go_wp2_with fail
   refine(put_anyCc _ L n (x) n _ HBR.out HL.out (.inl ⟨rfl,h0,h8⟩) hx0 hx1).mono ?_
   rintro e w1 ⟨v1,rfl,ho,hb1⟩
   have hbe:=ho.bytesAt
   rw[← HT.out] at hbe
   have hbw1:=HBW.out.trans (hb1.mono hsz)
   clear hb1 ho
   go_wp2_with fail
   go_roundw
   case rel=>exact⟨k+1,by omega,by go_num,hbe,hbw1⟩
   case measure=>simp[intOf];omega
  ·obtain rfl:k=l.length:=by omega
   rw[List.take_length] at hbr
   go_wp2_with fail
   go_ret
   exact⟨_,rfl,hbr,hbw⟩
set_option maxRecDepth 20000 in
theorem layB_any (v vl:Value) (b l:List Int) (n:Nat) (w:World) (hb:BytesAt w v b) (hl:NumsAt .u8 w vl l) (hx:∀ x ∈ l,U8 x) (h0:1≤n) (h8:n≤8) (hs:b.length+n*l.length≤1000000) :
  Calls Tryz.prog 149 #[v,.int .i64 n,vl] w (LayEndCc w (b++flatH n l)):=by
 obtain⟨c,cap,rfl,hc1,hc2,hc,hcell⟩:=hl
 have HC:=Lib.hid hcell;clear hcell
 have hml:l.length≤9223372036854775807:=by unfold maxLen at hc2;omega
 have HB:=Lib.hid hb;clear hb
 have HXX:=Lib.hid hx;clear hx
 go_enter Tryz.func149,Tryz.ntmps149
 go_wp2_with fail
 go_loopw [0,11] (fun v i wr=>∃ k:Nat,k≤l.length∧i=.int .i64 k∧BytesAt wr v (b++flatH n (l.take k))∧Below w.heap.size w wr) (fun _ i _=>l.length - (intOf i).toNat)
 case atStart=>exact⟨0,Nat.zero_le _,rfl,by simpa[flatH] using HB.out,Below.refl _ _⟩
 case round =>
  obtain⟨k,hk,rfl,hbr,hbw⟩:=hrel
  have hsz:=hbw.size
  by_cases hlt:k<l.length
  ·have c1:=(hbw.cell (p:=⟨c,k,none⟩) hc).trans (HC.out k hlt)
   have hlen:(b++flatH n (l.take k)).length≤1000000:=by
    rw[List.length_append,flatH_len,List.length_take,Nat.min_eq_left hk]
    have:=Nat.mul_le_mul_left n hk
    omega
   have HT:Hid (b++flatH n (l.take (k+1))=b++flatH n (l.take k)++leB n (l.getD k 0)):=Lib.hid (by rw[flatH_take n l k hlt,leB_leH,← List.append_assoc])
   have hbx:U8 (l.getD k 0):=HXX.out _ (getD_mem l k hlt)
   obtain⟨x,hxx⟩:∃ x,l.getD k 0=x:=⟨_,rfl⟩
   rw[hxx] at c1 HT hbx
   have HX:=Lib.hid hxx;clear hxx
   obtain⟨L,hL⟩:∃ L,b++flatH n (l.take k)=L:=⟨_,rfl⟩
   rw[hL] at hbr HT hlen
   clear hL HX
   have HBR:=Lib.hid hbr;clear hbr
   have HL:=Lib.hid hlen;clear hlen
   have HBW:=Lib.hid hbw;clear hbw
   obtain⟨hx0,hx1⟩:=hbx
   go_wp2_with fail
   refine(put_anyCc _ L n (x) n _ HBR.out HL.out (.inl ⟨rfl,h0,h8⟩) hx0 (by omega)).mono ?_
   rintro e w1 ⟨v1,rfl,ho,hb1⟩
   have hbe:=ho.bytesAt
   rw[← HT.out] at hbe
   have hbw1:=HBW.out.trans (hb1.mono hsz)
   clear hb1 ho
   go_wp2_with fail
   go_roundw
   case rel=>exact⟨k+1,by omega,by go_num,hbe,hbw1⟩
   case measure=>simp[intOf];omega
  ·obtain rfl:k=l.length:=by omega
   rw[List.take_length] at hbr
   go_wp2_with fail
   go_ret
   exact⟨_,rfl,hbr,hbw⟩
theorem bytes_of_nums {w:World} {v:Value} {l:List Int} (h:NumsAt .u8 w v l):BytesAt w v l:=by
 obtain⟨b,cap,h1,h2,h3,h4,h5⟩:=h
 exact⟨_,cap,h1,h2,h3,fun _=>⟨_,rfl,h4,fun i hi=>by
  have e:(⟨b,0,none⟩:Addr).add i=⟨b,i,none⟩:=by unfold Addr.add;split <;> simp_all
  rw[e];exact h5 i hi⟩⟩
theorem LayEndCc.over {W:World} {o:Obj} {l:List Int} {e:Ending} {w':World} (h:LayEndCc (W.alloc o) l e w'):LayEndCc W l e w':=by
 obtain⟨v,h1,h2,h3⟩:=h
 exact⟨v,h1,h2,((Below.refl _ _).alloc (Nat.le_refl _) _).trans (h3.mono (by rw[World.size_alloc];omega))⟩
theorem layI1_1 (v:Value) (b:List Int) (a0:Int) (W:World) (m:Nat) (hb:BytesAt W v b) (hm:m=W.heap.size) (hs:b.length≤999000):Calls Tryz.prog 147 #[v,.int .i64 1,.slice (some ⟨m,0,none⟩) 1 1] (W.alloc (.cells #[.int .i64 a0] 3)) (LayEndCc W (b++flatH 1 [a0])) :=
 (layI_any v _ b [a0] 1 (W.alloc (.cells #[.int .i64 a0] 3)) (hb.below ((Below.refl _ _).alloc (Nat.le_refl _) _)) (nums_built .i64 W [a0] 3 m (0,0) hm (by simp[maxLen])) (by omega) (by omega) (by simp only[List.length_cons,List.length_nil];omega)).mono fun _ _ h=>h.over
theorem layI2_1 (v:Value) (b:List Int) (a0 a1:Int) (W:World) (m:Nat) (hb:BytesAt W v b) (hm:m=W.heap.size) (hs:b.length≤999000):Calls Tryz.prog 147 #[v,.int .i64 1,.slice (some ⟨m,0,none⟩) 2 2] (W.alloc (.cells #[.int .i64 a0,.int .i64 a1] 3)) (LayEndCc W (b++flatH 1 [a0,a1])) :=
 (layI_any v _ b [a0,a1] 1 (W.alloc (.cells #[.int .i64 a0,.int .i64 a1] 3)) (hb.below ((Below.refl _ _).alloc (Nat.le_refl _) _)) (nums_built .i64 W [a0,a1] 3 m (0,0) hm (by simp[maxLen])) (by omega) (by omega) (by simp only[List.length_cons,List.length_nil];omega)).mono fun _ _ h=>h.over
theorem layI4_4 (v:Value) (b:List Int) (a0 a1 a2 a3:Int) (W:World) (m:Nat) (hb:BytesAt W v b) (hm:m=W.heap.size) (hs:b.length≤999000):Calls Tryz.prog 147 #[v,.int .i64 4,.slice (some ⟨m,0,none⟩) 4 4] (W.alloc (.cells #[.int .i64 a0,.int .i64 a1,.int .i64 a2,.int .i64 a3] 3)) (LayEndCc W (b++flatH 4 [a0,a1,a2,a3])) :=
 (layI_any v _ b [a0,a1,a2,a3] 4 (W.alloc (.cells #[.int .i64 a0,.int .i64 a1,.int .i64 a2,.int .i64 a3] 3)) (hb.below ((Below.refl _ _).alloc (Nat.le_refl _) _)) (nums_built .i64 W [a0,a1,a2,a3] 3 m (0,0) hm (by simp[maxLen])) (by omega) (by omega) (by simp only[List.length_cons,List.length_nil];omega)).mono fun _ _ h=>h.over
theorem layI2_4 (v:Value) (b:List Int) (a0 a1:Int) (W:World) (m:Nat) (hb:BytesAt W v b) (hm:m=W.heap.size) (hs:b.length≤999000):Calls Tryz.prog 147 #[v,.int .i64 4,.slice (some ⟨m,0,none⟩) 2 2] (W.alloc (.cells #[.int .i64 a0,.int .i64 a1] 3)) (LayEndCc W (b++flatH 4 [a0,a1])) :=
 (layI_any v _ b [a0,a1] 4 (W.alloc (.cells #[.int .i64 a0,.int .i64 a1] 3)) (hb.below ((Below.refl _ _).alloc (Nat.le_refl _) _)) (nums_built .i64 W [a0,a1] 3 m (0,0) hm (by simp[maxLen])) (by omega) (by omega) (by simp only[List.length_cons,List.length_nil];omega)).mono fun _ _ h=>h.over
theorem layW2_8 (v:Value) (b:List Int) (a0 a1:Int) (W:World) (m:Nat) (hb:BytesAt W v b) (hm:m=W.heap.size) (h0:U64 a0) (h1:U64 a1) (hs:b.length≤999000):Calls Tryz.prog 148 #[v,.int .i64 8,.slice (some ⟨m,0,none⟩) 2 2] (W.alloc (.cells #[.int .u64 a0,.int .u64 a1] 40)) (LayEndCc W (b++flatH 8 [a0,a1])) :=
 (layW_any v _ b [a0,a1] 8 (W.alloc (.cells #[.int .u64 a0,.int .u64 a1] 40)) (hb.below ((Below.refl _ _).alloc (Nat.le_refl _) _)) (nums_built .u64 W [a0,a1] 40 m (0,0) hm (by simp[maxLen])) (by intro x hx;simp only[List.mem_cons,List.not_mem_nil,or_false] at hx;rcases hx with rfl|rfl <;> assumption) (by omega) (by omega) (by simp only[List.length_cons,List.length_nil];omega)).mono fun _ _ h=>h.over
theorem layW3_8 (v:Value) (b:List Int) (a0 a1 a2:Int) (W:World) (m:Nat) (hb:BytesAt W v b) (hm:m=W.heap.size) (h0:U64 a0) (h1:U64 a1) (h2:U64 a2) (hs:b.length≤999000):Calls Tryz.prog 148 #[v,.int .i64 8,.slice (some ⟨m,0,none⟩) 3 3] (W.alloc (.cells #[.int .u64 a0,.int .u64 a1,.int .u64 a2] 40)) (LayEndCc W (b++flatH 8 [a0,a1,a2])) :=
 (layW_any v _ b [a0,a1,a2] 8 (W.alloc (.cells #[.int .u64 a0,.int .u64 a1,.int .u64 a2] 40)) (hb.below ((Below.refl _ _).alloc (Nat.le_refl _) _)) (nums_built .u64 W [a0,a1,a2] 40 m (0,0) hm (by simp[maxLen])) (by intro x hx;simp only[List.mem_cons,List.not_mem_nil,or_false] at hx;rcases hx with rfl|rfl|rfl <;> assumption) (by omega) (by omega) (by simp only[List.length_cons,List.length_nil];omega)).mono fun _ _ h=>h.over
theorem layB4_1 (v:Value) (b:List Int) (a0 a1 a2 a3:Int) (W:World) (m:Nat) (hb:BytesAt W v b) (hm:m=W.heap.size) (h0:U8 a0) (h1:U8 a1) (h2:U8 a2) (h3:U8 a3) (hs:b.length≤999000):Calls Tryz.prog 149 #[v,.int .i64 1,.slice (some ⟨m,0,none⟩) 4 4] (W.alloc (.cells #[.int .u8 a0,.int .u8 a1,.int .u8 a2,.int .u8 a3] 5)) (LayEndCc W (b++flatH 1 [a0,a1,a2,a3])) :=
 (layB_any v _ b [a0,a1,a2,a3] 1 (W.alloc (.cells #[.int .u8 a0,.int .u8 a1,.int .u8 a2,.int .u8 a3] 5)) (hb.below ((Below.refl _ _).alloc (Nat.le_refl _) _)) (nums_built .u8 W [a0,a1,a2,a3] 5 m (0,0) hm (by simp[maxLen])) (by intro x hx;simp only[List.mem_cons,List.not_mem_nil,or_false] at hx;rcases hx with rfl|rfl|rfl|rfl <;> assumption) (by omega) (by omega) (by simp only[List.length_cons,List.length_nil];omega)).mono fun _ _ h=>h.over
theorem keep4 {w' w1:World} {a0 a1 a2 a3:Addr} {v0 v1 v2 v3:Value} (hb:Below w'.heap.size w' w1) (h:w'.cell? a0=some v0∧w'.cell? a1=some v1∧w'.cell? a2=some v2∧w'.cell? a3=some v3):w1.cell? a0=some v0∧w1.cell? a1=some v1∧w1.cell? a2=some v2∧w1.cell? a3=some v3 :=
 ⟨cellb_later hb h.1,cellb_later hb h.2.1,cellb_later hb h.2.2.1,cellb_later hb h.2.2.2⟩
theorem ret_enc {s t:ByteArray} {a b:Int} (h:(s,a)=(t,b)):Ending.returned (.tuple #[.string s,.int .i64 a])=.returned (.tuple #[.string t,.int .i64 b]):=by
 obtain⟨h1,h2⟩:=Prod.mk.injEq .. ▸ h
 rw[h1,h2]
def upL (h:Hd) (k:Nat):List Int:=[h.rf,h.rl,h.mf,h.ml,h.lf,h.ll,h.df,h.dl].take (2*k)
theorem upL_len (h:Hd) (k:Nat):(flatH 8 (upL h k)).length≤64:=by
 rw[flatH_len,upL,List.length_take]
 simp only[List.length_cons,List.length_nil]
 omega
def s0:List Int:=mgH++flatH 1 [3]
def s1 (h:Hd) (k:Nat):List Int:=s0++flatH 8 (upL h k)
def s2 (h:Hd):List Int:=s1 h 4++flatH 8 [h.ad,h.en,h.co]
def s3 (h:Hd):List Int:=s2 h++flatH 1 [cl01 h.cl,h.inn,h.out,h.knd]
def s4 (h:Hd):List Int:=s3 h++flatH 1 [h.z0,h.z1]
def s5 (h:Hd):List Int:=s4 h++flatH 4 [h.lo0,h.la0,h.lo1,h.la1]
def s6 (h:Hd):List Int:=s5 h++flatH 1 [h.zm]
def s7 (h:Hd):List Int:=s6 h++flatH 4 [h.lon,h.lat]
theorem leH_unsg (x:Int):leH 4 (unsg x)=leH 4 x:=leH_mod 4 1 x
theorem s7_bytes (h:Hd):s7 h=bytsH h:=by
 simp only[s7,s6,s5,s4,s3,s2,s1,s0,upL,bytsH,headH,mgH,laysH,widH,numsH,flatH,List.take,List.append_nil,leH_unsg,List.append_assoc,List.cons_append,List.nil_append]
 rfl
theorem s_len (h:Hd) (k:Nat):(s1 h k).length≤200∧(s2 h).length≤200∧(s3 h).length≤200∧(s4 h).length≤200∧(s5 h).length≤200∧(s6 h).length≤200∧(s7 h).length≤200:=by
 have h0:s0.length=8:=rfl
 have h1:=upL_len h k
 have h4:=upL_len h 4
 simp only[s7,s6,s5,s4,s3,s2,s1,List.length_append,flatH_len,List.length_cons,List.length_nil] at h1 h4 ⊢
 omega
set_option maxRecDepth 20000 in
set_option maxHeartbeats 1000000 in
theorem encode_any (h:Hd) (w:World) (hm:MayH h):Calls Tryz.prog 83 #[.agg (cH h)] w fun e w'=>e=.returned (.tuple #[.string (str (encH h).1),.int .i64 (encH h).2])∧Below w.heap.size w w':=by
 have HCk:=Lib.hid (fun W=>check_anyCc h W hm)
 have HM:=Lib.hid hm;clear hm
 have H0:=HAt.made w h 44
 obtain⟨E,hE⟩:∃ E,encH h=E:=⟨_,rfl⟩
 rw[hE]
 have HE:=Lib.hid hE;clear hE
 by_cases hc:ckH h=0
 ·have HE2:Hid ((str (bytsH h),(0:Int))=(str E.1,E.2)):=Lib.hid (by rw[← HE.out,encH,if_pos hc])
  rw[hc] at HCk
  have hcv:=fun(w:World) (C:Array Value) (n c:Nat)=>Lib.run_convert_bytes_const (P:=Tryz.prog) w 158 5 C n c Tryz.underlying158 Tryz.underlying5
  go_enter Tryz.func83,Tryz.ntmps83
  go_wp2_with (first|(refine load_head (by rfl) _ rfl _ rfl _ h (by assumption) ?_)|fail)
  refine(HCk.out _).mono ?_
  rintro e w1 ⟨rfl,hb⟩
  have h1:=H0.later hb
  have u1:Below w.heap.size w w1:=Below.trans (by go_grown) (hb.mono (by rw[World.size_alloc];omega))
  have z1:w.heap.size<w1.heap.size:=h1.lt
  have HH:=Lib.hid h1
  have HU:=Lib.hid u1
  clear hb H0 h1 u1 hc HCk HE
  go_wp2_with fail
  have hbm:=bytes_of_nums (nums_built .u8 w1 mgH 5 w1.heap.size (7,8) rfl (by decide))
  refine(layI1_1 _ mgH 3 _ _ hbm (by simp) (by decide)).mono ?_
  rintro e w2 ⟨v2,rfl,hv2,hb⟩
  have hz2:w1.heap.size≤w2.heap.size:=by have:=hb.size;rw[World.size_alloc] at this;omega
  have u2:Below w1.heap.size w1 w2:=((Below.refl _ _).alloc (Nat.le_refl _) _).trans (hb.mono (by rw[World.size_alloc];omega))
  have h2:=HH.out.below u2 z1
  have HV:=Lib.hid hv2
  have hlen:=fun k=>(s_len h k).1
  have HL:=Lib.hid hlen
  have hlens:=(s_len h 0).2
  have HLS:=Lib.hid hlens
  have HU2:=Lib.hid (HU.out.trans (u2.mono (by omega)))
  have HH2:=Lib.hid h2
  clear hb hbm hcv hlen hlens
  go_wp2_with (first|(refine load_head (by rfl) _ rfl _ rfl _ h (by assumption) ?_)|fail)
  refine(sections_h h _).mono ?_
  rintro e w3 ⟨rfl,hb⟩
  have hz3:=hb.size
  have HU3:=Lib.hid (HU2.out.trans (hb.mono (by omega)))
  have HH3:=Lib.hid (HH2.out.later hb)
  have HV3:=Lib.hid (HV.out.below hb)
  clear hb h2 HV u2
  go_wp2_with fail
  have hIX:=fun W=>idx_sec (.int .u64 h.rf) (.int .u64 h.rl) (.int .u64 h.mf) (.int .u64 h.ml) (.int .u64 h.lf) (.int .u64 h.ll) (.int .u64 h.df) (.int .u64 h.dl) W
  have HIX:=Lib.hid hIX
  clear hIX
  have hw3:w.heap.size<w3.heap.size:=by omega
  go_loopw [5,19] (fun v i wr=>∃ k:Nat,k≤4∧i=.int .i64 k∧Hid (BytesAt wr v (s1 h k))∧Below w3.heap.size w3 wr) (fun _ i _=>4 - (intOf i).toNat)
  case atStart=>exact⟨0,by omega,rfl,Lib.hid (by have:=HV3.out;simpa[s1,s0,upL,flatH] using this),Below.refl _ _⟩
  case round =>
   obtain⟨k,hk,rfl,HB,hbw⟩:=hrel
   have hzr:=hbw.size
   have HHr:=Lib.hid (HH3.out.below hbw hw3)
   have HUr:=Lib.hid (HU3.out.trans (hbw.mono (by omega)))
   rcases(by omega:k=0∨k=1∨k=2∨k=3∨k=4) with rfl|rfl|rfl|rfl|rfl
   ·have hI:=fun W=>(HIX.out W).1
    have hbr:=HB.out
    have HLW:=Lib.hid (fun W m hb hm=>layW2_8 u5 (s1 h 0) h.rf h.rl W m hb hm HM.out.1 HM.out.2.1 (by have:=HL.out 0;omega))
    have HT:Hid (s1 h 0++flatH 8 [h.rf,h.rl]=s1 h 1):=Lib.hid (by rw[s1,s1,List.append_assoc,← flatH_append];rfl)
    clear hbr
    go_wp2_with fail
    refine(HLW.out _ _ (HB.out.below ((Below.refl _ _).alloc (Nat.le_refl _) _)) (by simp)).mono ?_
    rintro e w4 ⟨v4,rfl,hv4,hb⟩
    have u4:Below w3.heap.size w3 w4:=(hbw.alloc hzr _).trans (hb.mono (by rw[World.size_alloc];omega))
    rw[HT.out] at hv4
    have HV4:=Lib.hid hv4
    clear hb hv4
    go_wp2_with fail
    go_roundw
    case rel=>exact⟨1,by omega,by rfl,HV4,u4⟩
    case measure=>simp[intOf]
   ·have hI:=fun W=>(HIX.out W).2.1
    have hbr:=HB.out
    have HLW:=Lib.hid (fun W m hb hm=>layW2_8 u5 (s1 h 1) h.mf h.ml W m hb hm HM.out.2.2.1 HM.out.2.2.2.1 (by have:=HL.out 1;omega))
    have HT:Hid (s1 h 1++flatH 8 [h.mf,h.ml]=s1 h 2):=Lib.hid (by rw[s1,s1,List.append_assoc,← flatH_append];rfl)
    clear hbr
    go_wp2_with fail
    refine(HLW.out _ _ (HB.out.below ((Below.refl _ _).alloc (Nat.le_refl _) _)) (by simp)).mono ?_
    rintro e w4 ⟨v4,rfl,hv4,hb⟩
    have u4:Below w3.heap.size w3 w4:=(hbw.alloc hzr _).trans (hb.mono (by rw[World.size_alloc];omega))
    rw[HT.out] at hv4
    have HV4:=Lib.hid hv4
    clear hb hv4
    go_wp2_with fail
    go_roundw
    case rel=>exact⟨2,by omega,by rfl,HV4,u4⟩
    case measure=>simp[intOf]
   ·have hI:=fun W=>(HIX.out W).2.2.1
    have hbr:=HB.out
    have HLW:=Lib.hid (fun W m hb hm=>layW2_8 u5 (s1 h 2) h.lf h.ll W m hb hm HM.out.2.2.2.2.1 HM.out.2.2.2.2.2.1 (by have:=HL.out 2;omega))
    have HT:Hid (s1 h 2++flatH 8 [h.lf,h.ll]=s1 h 3):=Lib.hid (by rw[s1,s1,List.append_assoc,← flatH_append];rfl)
    clear hbr
    go_wp2_with fail
    refine(HLW.out _ _ (HB.out.below ((Below.refl _ _).alloc (Nat.le_refl _) _)) (by simp)).mono ?_
    rintro e w4 ⟨v4,rfl,hv4,hb⟩
    have u4:Below w3.heap.size w3 w4:=(hbw.alloc hzr _).trans (hb.mono (by rw[World.size_alloc];omega))
    rw[HT.out] at hv4
    have HV4:=Lib.hid hv4
    clear hb hv4
    go_wp2_with fail
    go_roundw
    case rel=>exact⟨3,by omega,by rfl,HV4,u4⟩
    case measure=>simp[intOf]
   ·have hI:=fun W=>(HIX.out W).2.2.2
    have hbr:=HB.out
    have HLW:=Lib.hid (fun W m hb hm=>layW2_8 u5 (s1 h 3) h.df h.dl W m hb hm HM.out.2.2.2.2.2.2.1 HM.out.2.2.2.2.2.2.2.1 (by have:=HL.out 3;omega))
    have HT:Hid (s1 h 3++flatH 8 [h.df,h.dl]=s1 h 4):=Lib.hid (by rw[s1,s1,List.append_assoc,← flatH_append];rfl)
    clear hbr
    go_wp2_with fail
    refine(HLW.out _ _ (HB.out.below ((Below.refl _ _).alloc (Nat.le_refl _) _)) (by simp)).mono ?_
    rintro e w4 ⟨v4,rfl,hv4,hb⟩
    have u4:Below w3.heap.size w3 w4:=(hbw.alloc hzr _).trans (hb.mono (by rw[World.size_alloc];omega))
    rw[HT.out] at hv4
    have HV4:=Lib.hid hv4
    clear hb hv4
    go_wp2_with fail
    go_roundw
    case rel=>exact⟨4,by omega,by rfl,HV4,u4⟩
    case measure=>simp[intOf]
   ·clear hbw HIX HL HV3 HH3 HU3 HU2 HH2 HH HU
    have HLS0:(s1 h 4).length≤200:=(s_len h 4).1
    have a8:=at8 HHr.out
    have a9:=at9 HHr.out
    have a10:=at10 HHr.out
    have HLW:=Lib.hid (fun W m hb hm=>layW3_8 u5 (s1 h 4)  h.ad h.en h.co W m hb hm HM.out.2.2.2.2.2.2.2.2.1 HM.out.2.2.2.2.2.2.2.2.2.1 HM.out.2.2.2.2.2.2.2.2.2.2.1 (by have:=HLS0;omega))
    go_wp2_with fail
    refine(HLW.out _ _ HB.out (by simp)).mono ?_
    rintro e w5 ⟨v5,rfl,hv,hb⟩
    have HV5:=Lib.hid hv
    have HH5:=Lib.hid (HHr.out.later hb)
    have HU5:=Lib.hid (HUr.out.trans (hb.mono HUr.out.size))
    have hz5:=hb.size
    clear hb hv a8 a9 a10 HLW HHr HUr
    have a11:=at11 HH5.out
    have a12:=at12 HH5.out
    have a13:=at13 HH5.out
    have a14:=at14 HH5.out
    have HLW:=Lib.hid (fun W m hb hm hc=>layB4_1 v5 (s2 h) (cl01 h.cl) h.inn h.out h.knd W m hb hm hc HM.out.2.2.2.2.2.2.2.2.2.2.2.1 HM.out.2.2.2.2.2.2.2.2.2.2.2.2.1 HM.out.2.2.2.2.2.2.2.2.2.2.2.2.2 (by have:=HLS.out.1;omega))
    have HC8:Hid (U8 (cl01 h.cl)):=Lib.hid (by unfold cl01 U8;cases h.cl <;> simp)
    have HBd:=Lib.hid (HV5.out.below (Below.drew (Below.refl _ _)))
    go_upto_region 11 with fail
    go_cut [5] (fun v wx=>BytesAt wx v (s3 h)∧Below w5.heap.size w5 wx)
    case first =>
     have hS0:(fun w'=>w'.cell? ⟨w.heap.size,11,none⟩=some (.bool h.cl)∧w'.cell? ⟨w.heap.size,12,none⟩=some (.int .u8 h.inn)∧w'.cell? ⟨w.heap.size,13,none⟩=some (.int .u8 h.out)∧w'.cell? ⟨w.heap.size,14,none⟩=some (.int .u8 h.knd)) w5.drew:=⟨cellb_later (Below.drew (Below.refl _ _)) a11,cellb_later (Below.drew (Below.refl _ _)) a12,cellb_later (Below.drew (Below.refl _ _)) a13,cellb_later (Below.drew (Below.refl _ _)) a14⟩
     have HS0:=Lib.hid hS0;clear hS0
     go_region_held3 (fun w'=>w'.cell? ⟨w.heap.size,11,none⟩=some (.bool h.cl)∧w'.cell? ⟨w.heap.size,12,none⟩=some (.int .u8 h.inn)∧w'.cell? ⟨w.heap.size,13,none⟩=some (.int .u8 h.out)∧w'.cell? ⟨w.heap.size,14,none⟩=some (.int .u8 h.knd)) (first|exact HS0.out|assumption|exact keep4 hb (by assumption)|exact keep4 ((Below.refl _ _).alloc (Nat.le_refl _) _) (by assumption))
      (first|(go_at_call 150;refine(flag_any _ _).mono ?_;rintro e w' ⟨rfl,rfl⟩)|(go_at_call 149;refine(HLW.out _ _ HBd.out (by simp) HC8.out).mono ?_;rintro e w' ⟨v',rfl,hv,hb⟩))
     go_wp2_with fail
     go_meet
     case rel=>exact⟨hv,(Below.drew (Below.refl _ _)).trans hb⟩
    case rest =>
     obtain⟨hv,hb⟩:=hcut
     generalize wc=w6 at *
     have HV6:=Lib.hid hv
     have HH6:=Lib.hid (HH5.out.later hb)
     have HU6:=Lib.hid (HU5.out.trans (hb.mono HU5.out.size))
     have hz6:=hb.size
     clear hb hv a11 a12 a13 a14 HLW HH5 HU5
     have a15:=at15 HH6.out
     have a16:=at16 HH6.out
     have HLW:=Lib.hid (fun W m hb hm=>layI2_1 u5 (s3 h)  h.z0 h.z1 W m hb hm  (by have:=HLS.out.2.1;omega))
     go_wp2_with fail
     refine(HLW.out _ _ HV6.out (by simp)).mono ?_
     rintro e w7 ⟨v7,rfl,hv,hb⟩
     have HV7:=Lib.hid hv
     have HH7:=Lib.hid (HH6.out.later hb)
     have HU7:=Lib.hid (HU6.out.trans (hb.mono HU6.out.size))
     have hz7:=hb.size
     clear hb hv a15 a16 HLW HH6 HU6
     have a17:=at17 HH7.out
     have a18:=at18 HH7.out
     have a19:=at19 HH7.out
     have a20:=at20 HH7.out
     have HLW:=Lib.hid (fun W m hb hm=>layI4_4 v7 (s4 h)  h.lo0 h.la0 h.lo1 h.la1 W m hb hm  (by have:=HLS.out.2.2.1;omega))
     go_wp2_with fail
     refine(HLW.out _ _ HV7.out (by simp)).mono ?_
     rintro e w8 ⟨v8,rfl,hv,hb⟩
     have HV8:=Lib.hid hv
     have HH8:=Lib.hid (HH7.out.later hb)
     have HU8:=Lib.hid (HU7.out.trans (hb.mono HU7.out.size))
     have hz8:=hb.size
     clear hb hv a17 a18 a19 a20 HLW HH7 HU7
     have a21:=at21 HH8.out
     have HLW:=Lib.hid (fun W m hb hm=>layI1_1 v8 (s5 h)  h.zm W m hb hm  (by have:=HLS.out.2.2.2.1;omega))
     go_wp2_with fail
     refine(HLW.out _ _ HV8.out (by simp)).mono ?_
     rintro e w9 ⟨v9,rfl,hv,hb⟩
     have HV9:=Lib.hid hv
     have HH9:=Lib.hid (HH8.out.later hb)
     have HU9:=Lib.hid (HU8.out.trans (hb.mono HU8.out.size))
     have hz9:=hb.size
     clear hb hv a21 HLW HH8 HU8
     have a22:=at22 HH9.out
     have a23:=at23 HH9.out
     have HLW:=Lib.hid (fun W m hb hm=>layI2_4 v9 (s6 h)  h.lon h.lat W m hb hm  (by have:=HLS.out.2.2.2.2.1;omega))
     go_wp2_with fail
     refine(HLW.out _ _ HV9.out (by simp)).mono ?_
     rintro e w10 ⟨v10,rfl,hv,hb⟩
     have HV10:=Lib.hid hv
     have HH10:=Lib.hid (HH9.out.later hb)
     have HU10:=Lib.hid (HU9.out.trans (hb.mono HU9.out.size))
     have hz10:=hb.size
     clear hb hv a22 a23 HLW HH9 HU9
     have hs:=run_str w10 v10 _ HV10.out
     rw[show s6 h++flatH 4 [h.lon,h.lat]=bytsH h from s7_bytes h] at hs
     go_wp2_with fail
     go_ret2
     exact⟨ret_enc HE2.out,HU10.out⟩
 ·have hne:(ckH h != 0)=true:=by simp only[bne_iff_ne,ne_eq];exact hc
  have HE2:Hid ((str [],ckH h)=(str E.1,E.2)):=Lib.hid (by rw[← HE.out,encH,if_neg hc])
  clear hc HE
  obtain⟨r,hr⟩:∃ r,ckH h=r:=⟨_,rfl⟩
  rw[hr] at hne HE2 HCk
  clear hr
  go_enter Tryz.func83,Tryz.ntmps83
  go_wp2_with (first|(refine load_head (by rfl) _ rfl _ rfl _ h (by assumption) ?_)|fail)
  refine(HCk.out _).mono ?_
  rintro e w1 ⟨rfl,hb⟩
  have u1:Below w.heap.size w w1:=Below.trans (by go_grown) (hb.mono (by rw[World.size_alloc];omega))
  clear hb H0
  go_wp2_with fail
  go_ret2
  exact⟨ret_enc HE2.out,u1⟩
theorem nil_bytes (w:World):BytesAt w (.slice none 0 0) []:=⟨none,0,rfl,Nat.le_refl _,by simp,fun h=>by simp at h⟩
theorem word_any (n:Nat) (x:Int) (w:World) (h0:1≤n) (h8:n≤8) (x0:0≤x) (x1:x≤18446744073709551615):Calls Tryz.prog 162 #[.int .i64 n,.int .u64 x] w fun e w'=>e=.returned (.string (str (leH n x)))∧Below w.heap.size w w':=by
 go_enter Tryz.func162,Tryz.ntmps162
 go_wp2_with fail
 refine(rput_anyCc _ [] n x n _ (nil_bytes _) (by simp) (.inl ⟨rfl,h0,h8⟩) x0 x1).mono ?_
 rintro e w1 ⟨v1,rfl,ho,hb1⟩
 have hs:=run_str w1 v1 _ ho.bytesAt
 rw[List.nil_append,leB_leH] at hs
 clear ho
 go_wp2_with fail
 go_ret
 exact⟨rfl,hb1⟩
theorem word8 (x:Int) (w:World) (hx:U64 x):Calls Tryz.prog 162 #[.int .i64 8,.int .u64 x] w fun e w'=>e=.returned (.string (str (leH 8 x)))∧Below w.heap.size w w':=word_any 8 x w (by omega) (by omega) hx.1 hx.2
theorem word1 (x:Int) (w:World) (hx:U64 x):Calls Tryz.prog 162 #[.int .i64 1,.int .u64 x] w fun e w'=>e=.returned (.string (str (leH 1 x)))∧Below w.heap.size w w':=word_any 1 x w (by omega) (by omega) hx.1 hx.2
theorem word4 (x:Int) (w:World) (hx:U64 x):Calls Tryz.prog 162 #[.int .i64 4,.int .u64 x] w fun e w'=>e=.returned (.string (str (leH 4 x)))∧Below w.heap.size w w':=word_any 4 x w (by omega) (by omega) hx.1 hx.2
theorem signed_any (x:Int) (w:World) (h0:-2147483648≤x) (h1:x<2147483648):Calls Tryz.prog 163 #[.int .i64 x] w fun e w'=>e=.returned (.string (str (leH 4 x)))∧Below w.heap.size w w':=by
 have hi:inr x 4=true:=by rw[inr_iff];simp only[Int.reduceMul,Int.reduceSub,Int.reduceToNat,Int.reducePow];omega
 have hu:=Lib.hid (fun W=>runsigned_yes x 4 W (by omega) (by omega) (by omega) (by omega) hi)
 have hl:low x 4=x % 4294967296:=by unfold low;simp only[Int.reduceMul,Int.reduceToNat,Int.reducePow]
 have hw:=Lib.hid (fun W=>word4 (low x 4) W (by unfold U64;rw[hl];omega))
 have he:Hid (leH 4 (low x 4)=leH 4 x):=Lib.hid (by rw[hl];exact leH_mod 4 1 x)
 clear hi hl h0 h1
 go_enter Tryz.func163,Tryz.ntmps163
 go_wp2_with fail
 refine(hu.out _).mono ?_
 rintro e w' ⟨rfl,rfl⟩
 go_wp2_with fail
 refine(hw.out _).mono ?_
 rintro e w1 ⟨rfl,hb⟩
 rw[he.out]
 go_wp2_with fail
 go_ret
 exact⟨rfl,hb⟩
theorem keep2u {w w' w1:World} {a0 a1:Addr} {v0 v1:Value} (hb:Below w'.heap.size w' w1) (h:w'.cell? a0=some v0∧w'.cell? a1=some v1∧Below w.heap.size w w'):w1.cell? a0=some v0∧w1.cell? a1=some v1∧Below w.heap.size w w1:=⟨cellb_later hb h.1,cellb_later hb h.2.1,h.2.2.trans (hb.mono h.2.2.size)⟩
theorem section_any (f l:Int) (w:World) (hf:U64 f) (hl:U64 l):Calls Tryz.prog 161 #[.agg #[.int .u64 f,.int .u64 l]] w fun e w'=>e=.returned (.string (str (leH 8 f++leH 8 l)))∧Below w.heap.size w w':=by
 have HW:=Lib.hid (fun W=>word8 f W hf)
 have HV:=Lib.hid (fun W=>word8 l W hl)
 have z1:(str (leH 8 f)).size≤8:=by rw[str_size,leH_len];omega
 have z2:(str (leH 8 l)).size≤8:=by rw[str_size,leH_len];omega
 have he:Hid (str (leH 8 f)++str (leH 8 l)=str (leH 8 f++leH 8 l)):=Lib.hid (str_append _ _)
 obtain⟨x,hx⟩:∃ x,str (leH 8 f)=x:=⟨_,rfl⟩
 obtain⟨y,hy⟩:∃ y,str (leH 8 l)=y:=⟨_,rfl⟩
 rw[hx] at HW z1 he;rw[hy] at HV z2 he
 have zs:¬ 9223372036854775807<x.size+y.size:=by omega
 clear hx hy hf hl
 go_enter Tryz.func161,Tryz.ntmps161
 go_wp2_with fail
 obtain⟨W,hW⟩:∃ W,w.alloc (.cells #[.int .u64 f,.int .u64 l] 47)=W:=⟨_,rfl⟩
 have a0:W.cell? ⟨w.heap.size,0,none⟩=some (.int .u64 f):=by rw[← hW];simp[go_sem]
 have a1:W.cell? ⟨w.heap.size,1,none⟩=some (.int .u64 l):=by rw[← hW];simp[go_sem]
 have u:Below w.heap.size w W:=by rw[← hW];exact(Below.refl _ _).alloc (Nat.le_refl _) _
 rw[hW]
 clear hW
 have HS0:Hid ((fun w'=>w'.cell? ⟨w.heap.size,0,none⟩=some (.int .u64 f)∧w'.cell? ⟨w.heap.size,1,none⟩=some (.int .u64 l)∧Below w.heap.size w w') W.drew):=Lib.hid ⟨cellb_later (Below.drew (Below.refl _ _)) a0,cellb_later (Below.drew (Below.refl _ _)) a1,u.drew⟩
 go_region_held3 (fun w'=>w'.cell? ⟨w.heap.size,0,none⟩=some (.int .u64 f)∧w'.cell? ⟨w.heap.size,1,none⟩=some (.int .u64 l)∧Below w.heap.size w w') (first|exact HS0.out|exact keep2u (by assumption) (by assumption))
  (first|(go_at_call_of 162 f;refine(HW.out _).mono ?_;rintro e w' ⟨rfl,hb⟩)|(go_at_call_of 162 l;refine(HV.out _).mono ?_;rintro e w' ⟨rfl,hb⟩))
 go_wp2_with fail
 go_ret
 refine⟨ret_str he.out,?_⟩
 go_split_ands
 assumption
theorem str_le (l:List Int) (n:Nat) (h:l.length≤n):(str l).size≤n:=by rw[str_size];exact h
theorem i8 (x:Int):(str (leH 8 x)).size≤8:=str_le _ _ (by rw[leH_len];omega)
theorem i4 (x:Int):(str (leH 4 x)).size≤8:=str_le _ _ (by rw[leH_len];omega)
theorem i1 (x:Int):(str (leH 1 x)).size≤8:=str_le _ _ (by rw[leH_len];omega)
theorem i16 (x y:Int):(str (leH 8 x++leH 8 y)).size≤16:=str_le _ _ (by rw[List.length_append,leH_len,leH_len];omega)
def r1 (h:Hd):List Int:=headH++((leH 8 h.rf++leH 8 h.rl)++((leH 8 h.mf++leH 8 h.ml)++((leH 8 h.lf++leH 8 h.ll)++(leH 8 h.df++leH 8 h.dl))))
def r2 (h:Hd):List Int:=r1 h++(leH 8 h.ad++(leH 8 h.en++(leH 8 h.co++leH 1 (cl01 h.cl))))
def r3 (h:Hd):List Int:=r2 h++(leH 1 h.inn++(leH 1 h.out++(leH 1 h.knd++(leH 1 h.z0++leH 1 h.z1))))
def r4 (h:Hd):List Int:=r3 h++(leH 4 h.lo0++(leH 4 h.la0++(leH 4 h.lo1++leH 4 h.la1)))
def r5 (h:Hd):List Int:=r4 h++(leH 1 h.zm++(leH 4 h.lon++leH 4 h.lat))
theorem r5_bytes (h:Hd):r5 h=bytsH h:=by
 simp only[r5,r4,r3,r2,r1,bytsH,laysH,widH,numsH,leH_unsg,List.append_assoc,List.append_nil]
theorem r_len (h:Hd):(r1 h).length≤200∧(r2 h).length≤200∧(r3 h).length≤200∧(r4 h).length≤200:=by
 have h0:headH.length=8:=rfl
 simp only[r1,r2,r3,r4,List.length_append,leH_len,h0]
 omega
theorem cut_str {s t:ByteArray} {wx:World} {b:Nat} {T:TypeId} {h:Hd} {w:World} (e:s=t) (hA:HAt wx b T h) (hu:Below w.heap.size w wx):Value.string s=.string t∧HAt wx b T h∧Below w.heap.size w wx:=⟨by rw[e],hA,hu⟩
theorem head_lit:(⟨#[80,77,84,105,108,101,115,3]⟩:ByteArray)=str headH:=by decide
theorem keepR7 {w w' w1:World} {h:Hd} (hb:Below w'.heap.size w' w1) (H:(fun w'=>HAt w' w.heap.size 49 h∧w'.cell? ⟨w.heap.size,0,none⟩=some (.int .u64 h.rf)∧w'.cell? ⟨w.heap.size,1,none⟩=some (.int .u64 h.rl)∧w'.cell? ⟨w.heap.size,2,none⟩=some (.int .u64 h.mf)∧w'.cell? ⟨w.heap.size,3,none⟩=some (.int .u64 h.ml)∧w'.cell? ⟨w.heap.size,4,none⟩=some (.int .u64 h.lf)∧w'.cell? ⟨w.heap.size,5,none⟩=some (.int .u64 h.ll)∧w'.cell? ⟨w.heap.size,6,none⟩=some (.int .u64 h.df)∧w'.cell? ⟨w.heap.size,7,none⟩=some (.int .u64 h.dl)∧Below w.heap.size w w') w'):(fun w'=>HAt w' w.heap.size 49 h∧w'.cell? ⟨w.heap.size,0,none⟩=some (.int .u64 h.rf)∧w'.cell? ⟨w.heap.size,1,none⟩=some (.int .u64 h.rl)∧w'.cell? ⟨w.heap.size,2,none⟩=some (.int .u64 h.mf)∧w'.cell? ⟨w.heap.size,3,none⟩=some (.int .u64 h.ml)∧w'.cell? ⟨w.heap.size,4,none⟩=some (.int .u64 h.lf)∧w'.cell? ⟨w.heap.size,5,none⟩=some (.int .u64 h.ll)∧w'.cell? ⟨w.heap.size,6,none⟩=some (.int .u64 h.df)∧w'.cell? ⟨w.heap.size,7,none⟩=some (.int .u64 h.dl)∧Below w.heap.size w w') w1 :=
 have hA:=H.1.later hb
 ⟨hA,at0 hA,at1 hA,at2 hA,at3 hA,at4 hA,at5 hA,at6 hA,at7 hA,H.2.2.2.2.2.2.2.2.2.trans (hb.mono H.2.2.2.2.2.2.2.2.2.size)⟩
theorem keepR8 {w w' w1:World} {h:Hd} (hb:Below w'.heap.size w' w1) (H:(fun w'=>HAt w' w.heap.size 49 h∧w'.cell? ⟨w.heap.size,8,none⟩=some (.int .u64 h.ad)∧w'.cell? ⟨w.heap.size,9,none⟩=some (.int .u64 h.en)∧w'.cell? ⟨w.heap.size,10,none⟩=some (.int .u64 h.co)∧Below w.heap.size w w') w'):(fun w'=>HAt w' w.heap.size 49 h∧w'.cell? ⟨w.heap.size,8,none⟩=some (.int .u64 h.ad)∧w'.cell? ⟨w.heap.size,9,none⟩=some (.int .u64 h.en)∧w'.cell? ⟨w.heap.size,10,none⟩=some (.int .u64 h.co)∧Below w.heap.size w w') w1 :=
 have hA:=H.1.later hb
 ⟨hA,at8 hA,at9 hA,at10 hA,H.2.2.2.2.trans (hb.mono H.2.2.2.2.size)⟩
theorem keepR9 {w w' w1:World} {h:Hd} (hb:Below w'.heap.size w' w1) (H:(fun w'=>HAt w' w.heap.size 49 h∧w'.cell? ⟨w.heap.size,12,none⟩=some (.int .u8 h.inn)∧w'.cell? ⟨w.heap.size,13,none⟩=some (.int .u8 h.out)∧w'.cell? ⟨w.heap.size,14,none⟩=some (.int .u8 h.knd)∧w'.cell? ⟨w.heap.size,15,none⟩=some (.int .i64 h.z0)∧w'.cell? ⟨w.heap.size,16,none⟩=some (.int .i64 h.z1)∧Below w.heap.size w w') w'):(fun w'=>HAt w' w.heap.size 49 h∧w'.cell? ⟨w.heap.size,12,none⟩=some (.int .u8 h.inn)∧w'.cell? ⟨w.heap.size,13,none⟩=some (.int .u8 h.out)∧w'.cell? ⟨w.heap.size,14,none⟩=some (.int .u8 h.knd)∧w'.cell? ⟨w.heap.size,15,none⟩=some (.int .i64 h.z0)∧w'.cell? ⟨w.heap.size,16,none⟩=some (.int .i64 h.z1)∧Below w.heap.size w w') w1 :=
 have hA:=H.1.later hb
 ⟨hA,at12 hA,at13 hA,at14 hA,at15 hA,at16 hA,H.2.2.2.2.2.2.trans (hb.mono H.2.2.2.2.2.2.size)⟩
theorem keepR10 {w w' w1:World} {h:Hd} (hb:Below w'.heap.size w' w1) (H:(fun w'=>HAt w' w.heap.size 49 h∧w'.cell? ⟨w.heap.size,17,none⟩=some (.int .i64 h.lo0)∧w'.cell? ⟨w.heap.size,18,none⟩=some (.int .i64 h.la0)∧w'.cell? ⟨w.heap.size,19,none⟩=some (.int .i64 h.lo1)∧w'.cell? ⟨w.heap.size,20,none⟩=some (.int .i64 h.la1)∧Below w.heap.size w w') w'):(fun w'=>HAt w' w.heap.size 49 h∧w'.cell? ⟨w.heap.size,17,none⟩=some (.int .i64 h.lo0)∧w'.cell? ⟨w.heap.size,18,none⟩=some (.int .i64 h.la0)∧w'.cell? ⟨w.heap.size,19,none⟩=some (.int .i64 h.lo1)∧w'.cell? ⟨w.heap.size,20,none⟩=some (.int .i64 h.la1)∧Below w.heap.size w w') w1 :=
 have hA:=H.1.later hb
 ⟨hA,at17 hA,at18 hA,at19 hA,at20 hA,H.2.2.2.2.2.trans (hb.mono H.2.2.2.2.2.size)⟩
theorem keepR11 {w w' w1:World} {h:Hd} (hb:Below w'.heap.size w' w1) (H:(fun w'=>HAt w' w.heap.size 49 h∧w'.cell? ⟨w.heap.size,21,none⟩=some (.int .i64 h.zm)∧w'.cell? ⟨w.heap.size,22,none⟩=some (.int .i64 h.lon)∧w'.cell? ⟨w.heap.size,23,none⟩=some (.int .i64 h.lat)∧Below w.heap.size w w') w'):(fun w'=>HAt w' w.heap.size 49 h∧w'.cell? ⟨w.heap.size,21,none⟩=some (.int .i64 h.zm)∧w'.cell? ⟨w.heap.size,22,none⟩=some (.int .i64 h.lon)∧w'.cell? ⟨w.heap.size,23,none⟩=some (.int .i64 h.lat)∧Below w.heap.size w w') w1 :=
 have hA:=H.1.later hb
 ⟨hA,at21 hA,at22 hA,at23 hA,H.2.2.2.2.trans (hb.mono H.2.2.2.2.size)⟩
set_option maxRecDepth 20000 in
set_option maxHeartbeats 1000000 in
theorem rencode_any (h:Hd) (w:World) (hm:MayH h):Calls Tryz.prog 99 #[.agg (cH h)] w fun e w'=>e=.returned (.tuple #[.string (str (encH h).1),.int .i64 (encH h).2])∧Below w.heap.size w w':=by
 have HCk:=Lib.hid (fun W=>rcheck_any h W hm)
 have HM:=Lib.hid hm;clear hm
 have H0:=HAt.made w h 49
 obtain⟨E,hE⟩:∃ E,encH h=E:=⟨_,rfl⟩
 rw[hE]
 have HE:=Lib.hid hE;clear hE
 by_cases hc:ckH h=0
 ·have HE2:Hid ((str (bytsH h),(0:Int))=(str E.1,E.2)):=Lib.hid (by rw[← HE.out,encH,if_pos hc])
  rw[hc] at HCk
  have HOK:=Lib.hid (ck_zero h hc)
  go_enter Tryz.func99,Tryz.ntmps99
  go_wp2_with (first|(refine rload_head (by rfl) _ rfl _ rfl _ h (by assumption) ?_)|fail)
  refine(HCk.out _).mono ?_
  rintro e w1 ⟨rfl,hb⟩
  have h1:=H0.later hb
  have u1:Below w.heap.size w w1:=Below.trans (by go_grown) (hb.mono (by rw[World.size_alloc];omega))
  have z1:w.heap.size<w1.heap.size:=h1.lt
  have a11:=at11 h1
  have HH:=Lib.hid h1
  have HU:=Lib.hid u1
  clear hb H0 h1 u1 hc HCk HE
  go_upto_if 13 with fail
  go_cut [5] (fun c wx=>c=.int .u64 (cl01 h.cl)∧wx=w1)
  case first =>
   obtain⟨b,hbl⟩:∃ b,h.cl=b:=⟨_,rfl⟩
   rw[hbl]
   cases b
   ·go_wp2_with fail
    go_meet
    case rel=>exact⟨by rw[hbl];rfl,rfl⟩
   ·go_wp2_with fail
    go_meet
    case rel=>exact⟨by rw[hbl];rfl,rfl⟩
  case rest =>
   obtain⟨rfl,rfl⟩:=hcut
   generalize wc=w1 at *
   clear a11
   have HB_cl:U64 (cl01 h.cl):=by unfold cl01 U64;cases h.cl <;> simp
   have HZo:=HOK.out.2.2.1
   have HDo:=HOK.out.2.2.2
   simp only[ZoomsB,DegB,Bool.and_eq_true,decide_eq_true_eq] at HZo HDo
   have HB_z0:U64 h.z0:=by unfold U64;omega
   have HB_z1:U64 h.z1:=by unfold U64;omega
   have HB_zm:U64 h.zm:=by unfold U64;omega
   have HG_lo0:-2147483648≤h.lo0∧h.lo0<2147483648:=by omega
   have HG_la0:-2147483648≤h.la0∧h.la0<2147483648:=by omega
   have HG_lo1:-2147483648≤h.lo1∧h.lo1<2147483648:=by omega
   have HG_la1:-2147483648≤h.la1∧h.la1<2147483648:=by omega
   have HG_lon:-2147483648≤h.lon∧h.lon<2147483648:=by omega
   have HG_lat:-2147483648≤h.lat∧h.lat<2147483648:=by omega
   have HW_z0:IntKind.u64.wrap h.z0=h.z0:=by rw[wrap_u64];omega
   have HW_z1:IntKind.u64.wrap h.z1=h.z1:=by rw[wrap_u64];omega
   have HW_zm:IntKind.u64.wrap h.zm=h.zm:=by rw[wrap_u64];omega
   have HW_inn:IntKind.u64.wrap h.inn=h.inn:=by have:=HM.out.2.2.2.2.2.2.2.2.2.2.2.1;unfold U8 at this;rw[wrap_u64];omega
   have HW_out:IntKind.u64.wrap h.out=h.out:=by have:=HM.out.2.2.2.2.2.2.2.2.2.2.2.2.1;unfold U8 at this;rw[wrap_u64];omega
   have HW_knd:IntKind.u64.wrap h.knd=h.knd:=by have:=HM.out.2.2.2.2.2.2.2.2.2.2.2.2.2;unfold U8 at this;rw[wrap_u64];omega
   have hrl:=r_len h
   obtain⟨p,hls⟩:∃ p,(⟨#[80,77,84,105,108,101,115,3]⟩:ByteArray)=p:=⟨_,rfl⟩
   have ip_:p.size≤200:=by rw[← hls];decide
   have K0:=Lib.hid (fun W=>section_any h.rf h.rl W HM.out.1 HM.out.2.1)
   have i0_:=i16 h.rf h.rl
   have K1:=Lib.hid (fun W=>section_any h.mf h.ml W HM.out.2.2.1 HM.out.2.2.2.1)
   have i1_:=i16 h.mf h.ml
   have K2:=Lib.hid (fun W=>section_any h.lf h.ll W HM.out.2.2.2.2.1 HM.out.2.2.2.2.2.1)
   have i2_:=i16 h.lf h.ll
   have K3:=Lib.hid (fun W=>section_any h.df h.dl W HM.out.2.2.2.2.2.2.1 HM.out.2.2.2.2.2.2.2.1)
   have i3_:=i16 h.df h.dl
   obtain⟨x0,hx0⟩:∃ x,str (leH 8 h.rf++leH 8 h.rl)=x:=⟨_,rfl⟩
   rw[hx0] at K0 i0_
   obtain⟨x1,hx1⟩:∃ x,str (leH 8 h.mf++leH 8 h.ml)=x:=⟨_,rfl⟩
   rw[hx1] at K1 i1_
   obtain⟨x2,hx2⟩:∃ x,str (leH 8 h.lf++leH 8 h.ll)=x:=⟨_,rfl⟩
   rw[hx2] at K2 i2_
   obtain⟨x3,hx3⟩:∃ x,str (leH 8 h.df++leH 8 h.dl)=x:=⟨_,rfl⟩
   rw[hx3] at K3 i3_
   have HT:Hid ((((p++x0)++x1)++x2)++x3=str (r1 h)):=Lib.hid (by rw[← hls,← hx0,← hx1,← hx2,← hx3];simp only[head_lit,str_append,r1,List.append_assoc])
   have g0:¬ 9223372036854775807<p.size+x0.size:=by omega
   have g1:¬ 9223372036854775807<p.size+x0.size+x1.size:=by omega
   have g2:¬ 9223372036854775807<p.size+x0.size+x1.size+x2.size:=by omega
   have g3:¬ 9223372036854775807<p.size+x0.size+x1.size+x2.size+x3.size:=by omega
   clear  hx0 hx1 hx2 hx3
   have HS0:Hid ((fun w'=>HAt w' w.heap.size 49 h∧w'.cell? ⟨w.heap.size,0,none⟩=some (.int .u64 h.rf)∧w'.cell? ⟨w.heap.size,1,none⟩=some (.int .u64 h.rl)∧w'.cell? ⟨w.heap.size,2,none⟩=some (.int .u64 h.mf)∧w'.cell? ⟨w.heap.size,3,none⟩=some (.int .u64 h.ml)∧w'.cell? ⟨w.heap.size,4,none⟩=some (.int .u64 h.lf)∧w'.cell? ⟨w.heap.size,5,none⟩=some (.int .u64 h.ll)∧w'.cell? ⟨w.heap.size,6,none⟩=some (.int .u64 h.df)∧w'.cell? ⟨w.heap.size,7,none⟩=some (.int .u64 h.dl)∧Below w.heap.size w w') w1.drew):=Lib.hid ⟨HH.out.later (Below.drew (Below.refl _ _)),at0 (HH.out.later (Below.drew (Below.refl _ _))),at1 (HH.out.later (Below.drew (Below.refl _ _))),at2 (HH.out.later (Below.drew (Below.refl _ _))),at3 (HH.out.later (Below.drew (Below.refl _ _))),at4 (HH.out.later (Below.drew (Below.refl _ _))),at5 (HH.out.later (Below.drew (Below.refl _ _))),at6 (HH.out.later (Below.drew (Below.refl _ _))),at7 (HH.out.later (Below.drew (Below.refl _ _))),HU.out.drew⟩
   go_upto_region 7 with fail
   go_cut [6] (fun s wx=>s=.string (str (r1 h))∧HAt wx w.heap.size 49 h∧Below w.heap.size w wx)
   case first =>
    go_region_held3 (fun w'=>HAt w' w.heap.size 49 h∧w'.cell? ⟨w.heap.size,0,none⟩=some (.int .u64 h.rf)∧w'.cell? ⟨w.heap.size,1,none⟩=some (.int .u64 h.rl)∧w'.cell? ⟨w.heap.size,2,none⟩=some (.int .u64 h.mf)∧w'.cell? ⟨w.heap.size,3,none⟩=some (.int .u64 h.ml)∧w'.cell? ⟨w.heap.size,4,none⟩=some (.int .u64 h.lf)∧w'.cell? ⟨w.heap.size,5,none⟩=some (.int .u64 h.ll)∧w'.cell? ⟨w.heap.size,6,none⟩=some (.int .u64 h.df)∧w'.cell? ⟨w.heap.size,7,none⟩=some (.int .u64 h.dl)∧Below w.heap.size w w') (first|exact HS0.out|exact keepR7 hb (by assumption))
     (first|(go_at_call_of 161 h.rf;refine(K0.out _).mono ?_;rintro e w' ⟨rfl,hb⟩)|(go_at_call_of 161 h.mf;refine(K1.out _).mono ?_;rintro e w' ⟨rfl,hb⟩)|(go_at_call_of 161 h.lf;refine(K2.out _).mono ?_;rintro e w' ⟨rfl,hb⟩)|(go_at_call_of 161 h.df;refine(K3.out _).mono ?_;rintro e w' ⟨rfl,hb⟩))
    go_wp2_with fail
    go_meet
    case rel =>
     refine cut_str HT.out ?_ ?_
     ·go_split_ands;assumption
     ·go_split_ands;assumption
   case rest =>
    obtain⟨rfl,hA,hU⟩:=hcut
    generalize wc=w2 at *
    have HH2:=Lib.hid hA
    have HU2:=Lib.hid hU
    clear hA hU HS0 HT K0 i0_ g0 K1 i1_ g1 K2 i2_ g2 K3 i3_ g3 ip_ hls
    have K0:=Lib.hid (fun W=>word8 h.ad W HM.out.2.2.2.2.2.2.2.2.1)
    have i0_:=i8 h.ad
    have K1:=Lib.hid (fun W=>word8 h.en W HM.out.2.2.2.2.2.2.2.2.2.1)
    have i1_:=i8 h.en
    have K2:=Lib.hid (fun W=>word8 h.co W HM.out.2.2.2.2.2.2.2.2.2.2.1)
    have i2_:=i8 h.co
    have K3:=Lib.hid (fun W=>word1 (cl01 h.cl) W HB_cl)
    have i3_:=i1 (cl01 h.cl)
    obtain⟨x0,hx0⟩:∃ x,str (leH 8 h.ad)=x:=⟨_,rfl⟩
    rw[hx0] at K0 i0_
    obtain⟨x1,hx1⟩:∃ x,str (leH 8 h.en)=x:=⟨_,rfl⟩
    rw[hx1] at K1 i1_
    obtain⟨x2,hx2⟩:∃ x,str (leH 8 h.co)=x:=⟨_,rfl⟩
    rw[hx2] at K2 i2_
    obtain⟨x3,hx3⟩:∃ x,str (leH 1 (cl01 h.cl))=x:=⟨_,rfl⟩
    rw[hx3] at K3 i3_
    have ip_:(str (r1 h)).size≤200:=str_le _ _ hrl.1
    obtain⟨p,hp⟩:∃ p,str (r1 h)=p:=⟨_,rfl⟩
    rw[hp] at ip_
    have HT:Hid ((((p++x0)++x1)++x2)++x3=str (r2 h)):=Lib.hid (by rw[← hp,← hx0,← hx1,← hx2,← hx3];simp only[str_append,r2,List.append_assoc])
    have g0:¬ 9223372036854775807<p.size+x0.size:=by omega
    have g1:¬ 9223372036854775807<p.size+x0.size+x1.size:=by omega
    have g2:¬ 9223372036854775807<p.size+x0.size+x1.size+x2.size:=by omega
    have g3:¬ 9223372036854775807<p.size+x0.size+x1.size+x2.size+x3.size:=by omega
    rw[hp]
    clear hp hx0 hx1 hx2 hx3
    have HS0:Hid ((fun w'=>HAt w' w.heap.size 49 h∧w'.cell? ⟨w.heap.size,8,none⟩=some (.int .u64 h.ad)∧w'.cell? ⟨w.heap.size,9,none⟩=some (.int .u64 h.en)∧w'.cell? ⟨w.heap.size,10,none⟩=some (.int .u64 h.co)∧Below w.heap.size w w') w2.drew):=Lib.hid ⟨HH2.out.later (Below.drew (Below.refl _ _)),at8 (HH2.out.later (Below.drew (Below.refl _ _))),at9 (HH2.out.later (Below.drew (Below.refl _ _))),at10 (HH2.out.later (Below.drew (Below.refl _ _))),HU2.out.drew⟩
    go_upto_region 8 with fail
    go_cut [6] (fun s wx=>s=.string (str (r2 h))∧HAt wx w.heap.size 49 h∧Below w.heap.size w wx)
    case first =>
     go_region_held3 (fun w'=>HAt w' w.heap.size 49 h∧w'.cell? ⟨w.heap.size,8,none⟩=some (.int .u64 h.ad)∧w'.cell? ⟨w.heap.size,9,none⟩=some (.int .u64 h.en)∧w'.cell? ⟨w.heap.size,10,none⟩=some (.int .u64 h.co)∧Below w.heap.size w w') (first|exact HS0.out|exact keepR8 hb (by assumption))
      (first|(go_at_call_of 162 h.ad;refine(K0.out _).mono ?_;rintro e w' ⟨rfl,hb⟩)|(go_at_call_of 162 h.en;refine(K1.out _).mono ?_;rintro e w' ⟨rfl,hb⟩)|(go_at_call_of 162 h.co;refine(K2.out _).mono ?_;rintro e w' ⟨rfl,hb⟩)|(go_at_call_of 162 (cl01 h.cl);refine(K3.out _).mono ?_;rintro e w' ⟨rfl,hb⟩))
     go_wp2_with fail
     go_meet
     case rel =>
      refine cut_str HT.out ?_ ?_
      ·go_split_ands;assumption
      ·go_split_ands;assumption
    case rest =>
     obtain⟨rfl,hA,hU⟩:=hcut
     generalize wc=w3 at *
     have HH3:=Lib.hid hA
     have HU3:=Lib.hid hU
     clear hA hU HS0 HT K0 i0_ g0 K1 i1_ g1 K2 i2_ g2 K3 i3_ g3 ip_
     have K0:=Lib.hid (fun W=>word1 h.inn W (by have:=HM.out.2.2.2.2.2.2.2.2.2.2.2.1;unfold U8 at this;unfold U64;omega))
     have i0_:=i1 h.inn
     have K1:=Lib.hid (fun W=>word1 h.out W (by have:=HM.out.2.2.2.2.2.2.2.2.2.2.2.2.1;unfold U8 at this;unfold U64;omega))
     have i1_:=i1 h.out
     have K2:=Lib.hid (fun W=>word1 h.knd W (by have:=HM.out.2.2.2.2.2.2.2.2.2.2.2.2.2;unfold U8 at this;unfold U64;omega))
     have i2_:=i1 h.knd
     have K3:=Lib.hid (fun W=>word1 h.z0 W HB_z0)
     have i3_:=i1 h.z0
     have K4:=Lib.hid (fun W=>word1 h.z1 W HB_z1)
     have i4_:=i1 h.z1
     obtain⟨x0,hx0⟩:∃ x,str (leH 1 h.inn)=x:=⟨_,rfl⟩
     rw[hx0] at K0 i0_
     obtain⟨x1,hx1⟩:∃ x,str (leH 1 h.out)=x:=⟨_,rfl⟩
     rw[hx1] at K1 i1_
     obtain⟨x2,hx2⟩:∃ x,str (leH 1 h.knd)=x:=⟨_,rfl⟩
     rw[hx2] at K2 i2_
     obtain⟨x3,hx3⟩:∃ x,str (leH 1 h.z0)=x:=⟨_,rfl⟩
     rw[hx3] at K3 i3_
     obtain⟨x4,hx4⟩:∃ x,str (leH 1 h.z1)=x:=⟨_,rfl⟩
     rw[hx4] at K4 i4_
     have ip_:(str (r2 h)).size≤200:=str_le _ _ hrl.2.1
     obtain⟨p,hp⟩:∃ p,str (r2 h)=p:=⟨_,rfl⟩
     rw[hp] at ip_
     have HT:Hid (((((p++x0)++x1)++x2)++x3)++x4=str (r3 h)):=Lib.hid (by rw[← hp,← hx0,← hx1,← hx2,← hx3,← hx4];simp only[str_append,r3,List.append_assoc])
     have g0:¬ 9223372036854775807<p.size+x0.size:=by omega
     have g1:¬ 9223372036854775807<p.size+x0.size+x1.size:=by omega
     have g2:¬ 9223372036854775807<p.size+x0.size+x1.size+x2.size:=by omega
     have g3:¬ 9223372036854775807<p.size+x0.size+x1.size+x2.size+x3.size:=by omega
     have g4:¬ 9223372036854775807<p.size+x0.size+x1.size+x2.size+x3.size+x4.size:=by omega
     rw[hp]
     clear hp hx0 hx1 hx2 hx3 hx4
     have HS0:Hid ((fun w'=>HAt w' w.heap.size 49 h∧w'.cell? ⟨w.heap.size,12,none⟩=some (.int .u8 h.inn)∧w'.cell? ⟨w.heap.size,13,none⟩=some (.int .u8 h.out)∧w'.cell? ⟨w.heap.size,14,none⟩=some (.int .u8 h.knd)∧w'.cell? ⟨w.heap.size,15,none⟩=some (.int .i64 h.z0)∧w'.cell? ⟨w.heap.size,16,none⟩=some (.int .i64 h.z1)∧Below w.heap.size w w') w3.drew):=Lib.hid ⟨HH3.out.later (Below.drew (Below.refl _ _)),at12 (HH3.out.later (Below.drew (Below.refl _ _))),at13 (HH3.out.later (Below.drew (Below.refl _ _))),at14 (HH3.out.later (Below.drew (Below.refl _ _))),at15 (HH3.out.later (Below.drew (Below.refl _ _))),at16 (HH3.out.later (Below.drew (Below.refl _ _))),HU3.out.drew⟩
     go_upto_region 9 with fail
     go_cut [6] (fun s wx=>s=.string (str (r3 h))∧HAt wx w.heap.size 49 h∧Below w.heap.size w wx)
     case first =>
      go_region_held3 (fun w'=>HAt w' w.heap.size 49 h∧w'.cell? ⟨w.heap.size,12,none⟩=some (.int .u8 h.inn)∧w'.cell? ⟨w.heap.size,13,none⟩=some (.int .u8 h.out)∧w'.cell? ⟨w.heap.size,14,none⟩=some (.int .u8 h.knd)∧w'.cell? ⟨w.heap.size,15,none⟩=some (.int .i64 h.z0)∧w'.cell? ⟨w.heap.size,16,none⟩=some (.int .i64 h.z1)∧Below w.heap.size w w') (first|exact HS0.out|exact keepR9 hb (by assumption))
       (first|(go_at_call_of 162 h.inn;refine(K0.out _).mono ?_;rintro e w' ⟨rfl,hb⟩)|(go_at_call_of 162 h.out;refine(K1.out _).mono ?_;rintro e w' ⟨rfl,hb⟩)|(go_at_call_of 162 h.knd;refine(K2.out _).mono ?_;rintro e w' ⟨rfl,hb⟩)|(go_at_call_of 162 h.z0;refine(K3.out _).mono ?_;rintro e w' ⟨rfl,hb⟩)|(go_at_call_of 162 h.z1;refine(K4.out _).mono ?_;rintro e w' ⟨rfl,hb⟩))
      go_wp2_with fail
      go_meet
      case rel =>
       refine cut_str HT.out ?_ ?_
       ·go_split_ands;assumption
       ·go_split_ands;assumption
     case rest =>
      obtain⟨rfl,hA,hU⟩:=hcut
      generalize wc=w4 at *
      have HH4:=Lib.hid hA
      have HU4:=Lib.hid hU
      clear hA hU HS0 HT K0 i0_ g0 K1 i1_ g1 K2 i2_ g2 K3 i3_ g3 K4 i4_ g4 ip_
      have K0:=Lib.hid (fun W=>signed_any h.lo0 W HG_lo0.1 HG_lo0.2)
      have i0_:=i4 h.lo0
      have K1:=Lib.hid (fun W=>signed_any h.la0 W HG_la0.1 HG_la0.2)
      have i1_:=i4 h.la0
      have K2:=Lib.hid (fun W=>signed_any h.lo1 W HG_lo1.1 HG_lo1.2)
      have i2_:=i4 h.lo1
      have K3:=Lib.hid (fun W=>signed_any h.la1 W HG_la1.1 HG_la1.2)
      have i3_:=i4 h.la1
      obtain⟨x0,hx0⟩:∃ x,str (leH 4 h.lo0)=x:=⟨_,rfl⟩
      rw[hx0] at K0 i0_
      obtain⟨x1,hx1⟩:∃ x,str (leH 4 h.la0)=x:=⟨_,rfl⟩
      rw[hx1] at K1 i1_
      obtain⟨x2,hx2⟩:∃ x,str (leH 4 h.lo1)=x:=⟨_,rfl⟩
      rw[hx2] at K2 i2_
      obtain⟨x3,hx3⟩:∃ x,str (leH 4 h.la1)=x:=⟨_,rfl⟩
      rw[hx3] at K3 i3_
      have ip_:(str (r3 h)).size≤200:=str_le _ _ hrl.2.2.1
      obtain⟨p,hp⟩:∃ p,str (r3 h)=p:=⟨_,rfl⟩
      rw[hp] at ip_
      have HT:Hid ((((p++x0)++x1)++x2)++x3=str (r4 h)):=Lib.hid (by rw[← hp,← hx0,← hx1,← hx2,← hx3];simp only[str_append,r4,List.append_assoc])
      have g0:¬ 9223372036854775807<p.size+x0.size:=by omega
      have g1:¬ 9223372036854775807<p.size+x0.size+x1.size:=by omega
      have g2:¬ 9223372036854775807<p.size+x0.size+x1.size+x2.size:=by omega
      have g3:¬ 9223372036854775807<p.size+x0.size+x1.size+x2.size+x3.size:=by omega
      rw[hp]
      clear hp hx0 hx1 hx2 hx3
      have HS0:Hid ((fun w'=>HAt w' w.heap.size 49 h∧w'.cell? ⟨w.heap.size,17,none⟩=some (.int .i64 h.lo0)∧w'.cell? ⟨w.heap.size,18,none⟩=some (.int .i64 h.la0)∧w'.cell? ⟨w.heap.size,19,none⟩=some (.int .i64 h.lo1)∧w'.cell? ⟨w.heap.size,20,none⟩=some (.int .i64 h.la1)∧Below w.heap.size w w') w4.drew):=Lib.hid ⟨HH4.out.later (Below.drew (Below.refl _ _)),at17 (HH4.out.later (Below.drew (Below.refl _ _))),at18 (HH4.out.later (Below.drew (Below.refl _ _))),at19 (HH4.out.later (Below.drew (Below.refl _ _))),at20 (HH4.out.later (Below.drew (Below.refl _ _))),HU4.out.drew⟩
      go_upto_region 10 with fail
      go_cut [6] (fun s wx=>s=.string (str (r4 h))∧HAt wx w.heap.size 49 h∧Below w.heap.size w wx)
      case first =>
       go_region_held3 (fun w'=>HAt w' w.heap.size 49 h∧w'.cell? ⟨w.heap.size,17,none⟩=some (.int .i64 h.lo0)∧w'.cell? ⟨w.heap.size,18,none⟩=some (.int .i64 h.la0)∧w'.cell? ⟨w.heap.size,19,none⟩=some (.int .i64 h.lo1)∧w'.cell? ⟨w.heap.size,20,none⟩=some (.int .i64 h.la1)∧Below w.heap.size w w') (first|exact HS0.out|exact keepR10 hb (by assumption))
        (first|(go_at_call_of 163 h.lo0;refine(K0.out _).mono ?_;rintro e w' ⟨rfl,hb⟩)|(go_at_call_of 163 h.la0;refine(K1.out _).mono ?_;rintro e w' ⟨rfl,hb⟩)|(go_at_call_of 163 h.lo1;refine(K2.out _).mono ?_;rintro e w' ⟨rfl,hb⟩)|(go_at_call_of 163 h.la1;refine(K3.out _).mono ?_;rintro e w' ⟨rfl,hb⟩))
       go_wp2_with fail
       go_meet
       case rel =>
        refine cut_str HT.out ?_ ?_
        ·go_split_ands;assumption
        ·go_split_ands;assumption
      case rest =>
       obtain⟨rfl,hA,hU⟩:=hcut
       generalize wc=w5 at *
       have HH5:=Lib.hid hA
       have HU5:=Lib.hid hU
       clear hA hU HS0 HT K0 i0_ g0 K1 i1_ g1 K2 i2_ g2 K3 i3_ g3 ip_
       have K0:=Lib.hid (fun W=>word1 h.zm W HB_zm)
       have i0_:=i1 h.zm
       have K1:=Lib.hid (fun W=>signed_any h.lon W HG_lon.1 HG_lon.2)
       have i1_:=i4 h.lon
       have K2:=Lib.hid (fun W=>signed_any h.lat W HG_lat.1 HG_lat.2)
       have i2_:=i4 h.lat
       obtain⟨x0,hx0⟩:∃ x,str (leH 1 h.zm)=x:=⟨_,rfl⟩
       rw[hx0] at K0 i0_
       obtain⟨x1,hx1⟩:∃ x,str (leH 4 h.lon)=x:=⟨_,rfl⟩
       rw[hx1] at K1 i1_
       obtain⟨x2,hx2⟩:∃ x,str (leH 4 h.lat)=x:=⟨_,rfl⟩
       rw[hx2] at K2 i2_
       have ip_:(str (r4 h)).size≤200:=str_le _ _ hrl.2.2.2
       obtain⟨p,hp⟩:∃ p,str (r4 h)=p:=⟨_,rfl⟩
       rw[hp] at ip_
       have HT:Hid (((p++x0)++x1)++x2=str (r5 h)):=Lib.hid (by rw[← hp,← hx0,← hx1,← hx2];simp only[str_append,r5,List.append_assoc])
       have g0:¬ 9223372036854775807<p.size+x0.size:=by omega
       have g1:¬ 9223372036854775807<p.size+x0.size+x1.size:=by omega
       have g2:¬ 9223372036854775807<p.size+x0.size+x1.size+x2.size:=by omega
       rw[hp]
       clear hp hx0 hx1 hx2
       have HS0:Hid ((fun w'=>HAt w' w.heap.size 49 h∧w'.cell? ⟨w.heap.size,21,none⟩=some (.int .i64 h.zm)∧w'.cell? ⟨w.heap.size,22,none⟩=some (.int .i64 h.lon)∧w'.cell? ⟨w.heap.size,23,none⟩=some (.int .i64 h.lat)∧Below w.heap.size w w') w5.drew):=Lib.hid ⟨HH5.out.later (Below.drew (Below.refl _ _)),at21 (HH5.out.later (Below.drew (Below.refl _ _))),at22 (HH5.out.later (Below.drew (Below.refl _ _))),at23 (HH5.out.later (Below.drew (Below.refl _ _))),HU5.out.drew⟩
       go_upto_region 11 with fail
       go_region_held3 (fun w'=>HAt w' w.heap.size 49 h∧w'.cell? ⟨w.heap.size,21,none⟩=some (.int .i64 h.zm)∧w'.cell? ⟨w.heap.size,22,none⟩=some (.int .i64 h.lon)∧w'.cell? ⟨w.heap.size,23,none⟩=some (.int .i64 h.lat)∧Below w.heap.size w w') (first|exact HS0.out|exact keepR11 hb (by assumption))
        (first|(go_at_call_of 162 h.zm;refine(K0.out _).mono ?_;rintro e w' ⟨rfl,hb⟩)|(go_at_call_of 163 h.lon;refine(K1.out _).mono ?_;rintro e w' ⟨rfl,hb⟩)|(go_at_call_of 163 h.lat;refine(K2.out _).mono ?_;rintro e w' ⟨rfl,hb⟩))
       go_wp2_with fail
       go_ret2
       rw[r5_bytes] at HT
       refine⟨ret_enc (HE2.out ▸ by rw[HT.out]),?_⟩
       go_split_ands;assumption
 ·have hne:(ckH h != 0)=true:=by simp only[bne_iff_ne,ne_eq];exact hc
  have HE2:Hid ((str [],ckH h)=(str E.1,E.2)):=Lib.hid (by rw[← HE.out,encH,if_neg hc])
  clear hc HE
  obtain⟨r,hr⟩:∃ r,ckH h=r:=⟨_,rfl⟩
  rw[hr] at hne HE2 HCk
  clear hr
  go_enter Tryz.func99,Tryz.ntmps99
  go_wp2_with (first|(refine rload_head (by rfl) _ rfl _ rfl _ h (by assumption) ?_)|fail)
  refine(HCk.out _).mono ?_
  rintro e w1 ⟨rfl,hb⟩
  have u1:Below w.heap.size w w1:=Below.trans (by go_grown) (hb.mono (by rw[World.size_alloc];omega))
  clear hb H0
  go_wp2_with fail
  go_ret2
  exact⟨ret_enc HE2.out,u1⟩
theorem cH_one (h:Hd):(cH h).all (·.oneCell')=true:=by simp[cH,Value.oneCell']
def Put24 (w:World) (g:Nat) (T:TypeId) (h:Hd) (w':World):Prop:=HAt w' g T h∧w'.heap.size=w.heap.size∧(∀ B w0,B≤g→Below B w0 w→Below B w0 w')∧(∀ k,k≠g→w'.heap[k]?=w.heap[k]?)
theorem Put24.keep {w w':World} {g:Nat} {T U:TypeId} {h j:Hd} {b:Nat} (p:Put24 w g T h w') (H:HAt w b U j) (hb:b≠g):HAt w' b U j:=(p.2.2.2 b hb).trans H
theorem put24 (w:World) (g:Nat) (T:TypeId) (old h:Hd) (H:HAt w g T old):Put24 w g T h (w.setRow g (cH h)) :=
 ⟨setRow_heap w g _ _ T (0,0) H,setRow_size _ _ _,fun B w0 hB hb=>below_setRow hb hB _,fun k hk=>setRow_other w g k _ hk⟩
theorem store_head {ops:Array Oper} {rest:List Oper} {o:Oper} {a:Act} {w:World} {Q:Exit→Act→World→Prop} (hw:Region.wanted o (yielded ops a.tmps)=true) (x y:Operand) (ho:o.op=.store 44 x y)
  (g:Nat) (hx:a.eval x=.pointer (some ⟨g,0,none⟩)) (h:Hd) (hy:a.eval y=.agg (cH h)) (T:TypeId) (old:Hd) (H:HAt w g T old)
  (hd:o.dst=none) (k:∀ w',Put24 w g T h w'→wpList Tryz.prog ops Q rest a w'):wpList Tryz.prog ops Q (o :: rest) a w :=
 BigFrame.wpList_want hw fun _ hK=>wp_store_row 44 x y ho g (cH h) hx hy T (cH old) H head_size rfl (cH_one h) (hK _ _ (by rw[hd];exact k _ (put24 w g T old h H)))
theorem HAt.zero (w:World) (T:TypeId):HAt (w.alloc (.cells #[.int .u64 zeroH.rf,.int .u64 zeroH.rl,.int .u64 zeroH.mf,.int .u64 zeroH.ml,.int .u64 zeroH.lf,.int .u64 zeroH.ll,.int .u64 zeroH.df,.int .u64 zeroH.dl,.int .u64 zeroH.ad,.int .u64 zeroH.en,.int .u64 zeroH.co,.bool zeroH.cl,.int .u8 zeroH.inn,.int .u8 zeroH.out,.int .u8 zeroH.knd,.int .i64 zeroH.z0,.int .i64 zeroH.z1,.int .i64 zeroH.lo0,.int .i64 zeroH.la0,.int .i64 zeroH.lo1,.int .i64 zeroH.la1,.int .i64 zeroH.zm,.int .i64 zeroH.lon,.int .i64 zeroH.lat] T)) w.heap.size T zeroH:=heap_alloc_new w _
theorem setCell_blk {w:World} {g i:Nat} {cs:Array Value} {t:TypeId} {fr:Nat × Nat} (h:w.heap[g]?=some (.cells cs t fr)) (v:Value):(w.setCell ⟨g,i,none⟩ v).heap[g]?=some (.cells (cs.setIfInBounds i v) t fr):=by
 rw[setCell_eq_setRow w g i cs t fr v h]
 exact setRow_heap w g _ _ t _ h
theorem cell_setother {w:World} {a p:Addr} (u:Value) (h:a.block≠p.block):(w.setCell p u).cell? a=w.cell? a:=by
 unfold World.cell?
 rw[Below.heap_setCell _ _ _ _ h]
theorem cell_drew {w:World} {a:Addr}:w.drew.cell? a=w.cell? a:=rfl
theorem keepOd {w w':World} {h:Hd} {g i:Nat} {u:Value} (hn:¬ w.heap.size=g) (H:(fun w'=>w'.cell? ⟨w.heap.size,15,none⟩=some (.int .i64 h.z0)∧w'.cell? ⟨w.heap.size,16,none⟩=some (.int .i64 h.z1)∧w'.cell? ⟨w.heap.size,17,none⟩=some (.int .i64 h.lo0)∧w'.cell? ⟨w.heap.size,18,none⟩=some (.int .i64 h.la0)∧w'.cell? ⟨w.heap.size,19,none⟩=some (.int .i64 h.lo1)∧w'.cell? ⟨w.heap.size,20,none⟩=some (.int .i64 h.la1)∧w'.cell? ⟨w.heap.size,21,none⟩=some (.int .i64 h.zm)∧w'.cell? ⟨w.heap.size,22,none⟩=some (.int .i64 h.lon)∧w'.cell? ⟨w.heap.size,23,none⟩=some (.int .i64 h.lat)) w'.drew):(fun w'=>w'.cell? ⟨w.heap.size,15,none⟩=some (.int .i64 h.z0)∧w'.cell? ⟨w.heap.size,16,none⟩=some (.int .i64 h.z1)∧w'.cell? ⟨w.heap.size,17,none⟩=some (.int .i64 h.lo0)∧w'.cell? ⟨w.heap.size,18,none⟩=some (.int .i64 h.la0)∧w'.cell? ⟨w.heap.size,19,none⟩=some (.int .i64 h.lo1)∧w'.cell? ⟨w.heap.size,20,none⟩=some (.int .i64 h.la1)∧w'.cell? ⟨w.heap.size,21,none⟩=some (.int .i64 h.zm)∧w'.cell? ⟨w.heap.size,22,none⟩=some (.int .i64 h.lon)∧w'.cell? ⟨w.heap.size,23,none⟩=some (.int .i64 h.lat)) (w'.setCell ⟨g,i,none⟩ u).drew :=
 ⟨cell_drew.trans ((cell_setother u hn).trans (cell_drew.symm.trans (H.1))),cell_drew.trans ((cell_setother u hn).trans (cell_drew.symm.trans (H.2.1))),cell_drew.trans ((cell_setother u hn).trans (cell_drew.symm.trans (H.2.2.1))),cell_drew.trans ((cell_setother u hn).trans (cell_drew.symm.trans (H.2.2.2.1))),cell_drew.trans ((cell_setother u hn).trans (cell_drew.symm.trans (H.2.2.2.2.1))),cell_drew.trans ((cell_setother u hn).trans (cell_drew.symm.trans (H.2.2.2.2.2.1))),cell_drew.trans ((cell_setother u hn).trans (cell_drew.symm.trans (H.2.2.2.2.2.2.1))),cell_drew.trans ((cell_setother u hn).trans (cell_drew.symm.trans (H.2.2.2.2.2.2.2.1))),cell_drew.trans ((cell_setother u hn).trans (cell_drew.symm.trans (H.2.2.2.2.2.2.2.2)))⟩
def half (h:Hd):Hd:={ h with z0:=0,z1:=0,lo0:=0,la0:=0,lo1:=0,la1:=0,zm:=0,lon:=0,lat:=0 }
def nine (w2:World) (g:Nat) (h:Hd):World:=(((((((((w2.setCell ⟨g,15,none⟩ (.int .i64 h.z0)).setCell ⟨g,16,none⟩ (.int .i64 h.z1)).setCell ⟨g,17,none⟩ (.int .i64 h.lo0)).setCell ⟨g,18,none⟩ (.int .i64 h.la0)).setCell ⟨g,19,none⟩ (.int .i64 h.lo1)).setCell ⟨g,20,none⟩ (.int .i64 h.la1)).setCell ⟨g,21,none⟩ (.int .i64 h.zm)).setCell ⟨g,22,none⟩ (.int .i64 h.lon)).setCell ⟨g,23,none⟩ (.int .i64 h.lat))
theorem drew_heap (w:World) (k:Nat):w.drew.heap[k]?=w.heap[k]?:=rfl
theorem nine_cells (h:Hd):(((((((((cH (half h)).setIfInBounds 15 (.int .i64 h.z0)).setIfInBounds 16 (.int .i64 h.z1)).setIfInBounds 17 (.int .i64 h.lo0)).setIfInBounds 18 (.int .i64 h.la0)).setIfInBounds 19 (.int .i64 h.lo1)).setIfInBounds 20 (.int .i64 h.la1)).setIfInBounds 21 (.int .i64 h.zm)).setIfInBounds 22 (.int .i64 h.lon)).setIfInBounds 23 (.int .i64 h.lat)=cH h:=by
 unfold cH half
 simp only[List.setIfInBounds_toArray,List.set_cons_zero,List.set_cons_succ]
theorem nine_at {w2:World} {g:Nat} {T:TypeId} {h:Hd} (H:HAt w2 g T (half h)):HAt (nine w2 g h).drew g T h:=by
 unfold HAt at H ⊢
 rw[drew_heap,← nine_cells h]
 unfold nine
 exact(setCell_blk (i:=23) (setCell_blk (i:=22) (setCell_blk (i:=21) (setCell_blk (i:=20) (setCell_blk (i:=19) (setCell_blk (i:=18) (setCell_blk (i:=17) (setCell_blk (i:=16) (setCell_blk (i:=15) H (.int .i64 h.z0)) (.int .i64 h.z1)) (.int .i64 h.lo0)) (.int .i64 h.la0)) (.int .i64 h.lo1)) (.int .i64 h.la1)) (.int .i64 h.zm)) (.int .i64 h.lon)) (.int .i64 h.lat))
theorem nine_below {w2 w:World} {g B:Nat} {h:Hd} (hb:Below B w w2) (hB:B≤g):Below B w (nine w2 g h).drew:=Below.drew (Below.setCell (Below.setCell (Below.setCell (Below.setCell (Below.setCell (Below.setCell (Below.setCell (Below.setCell (Below.setCell hb hB _) hB _) hB _) hB _) hB _) hB _) hB _) hB _) hB _)
theorem heap_other {w:World} {g i k:Nat} {v:Value} (h:k≠g):(w.setCell ⟨g,i,none⟩ v).heap[k]?=w.heap[k]?:=Below.heap_setCell _ _ _ _ h
theorem nine_other {w2:World} {g k:Nat} {h:Hd} (hk:k≠g):(nine w2 g h).drew.heap[k]?=w2.heap[k]?:=by
 rw[drew_heap]
 unfold nine
 simp only[heap_other hk]
set_option maxRecDepth 20000 in
set_option maxHeartbeats 1000000 in
theorem own_anyCc (h:Hd) (w:World):Calls Tryz.prog 15 #[.agg (cH h)] w fun e w'=>e=.returned (.agg (cH h))∧Below w.heap.size w w':=by
 have H0:=HAt.made w h 49
 go_enter Tryz.func15,Tryz.ntmps15
 go_upto_region 1 with fail
 obtain⟨W,hW⟩:∃ W,(w.alloc (.cells (cH h) 49)).alloc (.cells #[.int .u64 zeroH.rf,.int .u64 zeroH.rl,.int .u64 zeroH.mf,.int .u64 zeroH.ml,.int .u64 zeroH.lf,.int .u64 zeroH.ll,.int .u64 zeroH.df,.int .u64 zeroH.dl,.int .u64 zeroH.ad,.int .u64 zeroH.en,.int .u64 zeroH.co,.bool zeroH.cl,.int .u8 zeroH.inn,.int .u8 zeroH.out,.int .u8 zeroH.knd,.int .i64 zeroH.z0,.int .i64 zeroH.z1,.int .i64 zeroH.lo0,.int .i64 zeroH.la0,.int .i64 zeroH.lo1,.int .i64 zeroH.la1,.int .i64 zeroH.zm,.int .i64 zeroH.lon,.int .i64 zeroH.lat] 44)=W:=⟨_,rfl⟩
 have HA:HAt W w.heap.size 49 h:=by rw[← hW];exact H0.below ((Below.refl _ _).alloc (Nat.le_refl _) _) (by rw[World.size_alloc];omega)
 have HR:HAt W (w.heap.size+1) 44 zeroH:=by rw[← hW,← World.size_alloc w (.cells (cH h) 49)];exact HAt.zero _ _
 have hz:w.heap.size+2≤W.heap.size:=by rw[← hW,World.size_alloc,World.size_alloc];omega
 have U:Below w.heap.size w W:=by rw[← hW];exact((Below.refl _ _).alloc (Nat.le_refl _) _).alloc (by rw[World.size_alloc];omega) _
 have hW2:(w.alloc (.cells (cH h) 49)).alloc (.cells #[.int .u64 0,.int .u64 0,.int .u64 0,.int .u64 0,.int .u64 0,.int .u64 0,.int .u64 0,.int .u64 0,.int .u64 0,.int .u64 0,.int .u64 0,.bool false,.int .u8 0,.int .u8 0,.int .u8 0,.int .i64 0,.int .i64 0,.int .i64 0,.int .i64 0,.int .i64 0,.int .i64 0,.int .i64 0,.int .i64 0,.int .i64 0] 44)=W:=hW
 rw[hW2]
 clear hW hW2 H0
 have a0:=at0 HA
 have a1:=at1 HA
 have a2:=at2 HA
 have a3:=at3 HA
 have a4:=at4 HA
 have a5:=at5 HA
 have a6:=at6 HA
 have a7:=at7 HA
 have a8:=at8 HA
 have a9:=at9 HA
 have a10:=at10 HA
 have a11:=at11 HA
 have a12:=at12 HA
 have a13:=at13 HA
 have a14:=at14 HA
 have HZ:=HAt.zero W 44
 have HHA:=Lib.hid HA
 have HHR:=Lib.hid HR
 have HU:=Lib.hid U
 clear HA HR U
 go_cut [3] (fun p wx=>p=.pointer (some ⟨W.heap.size,0,none⟩)∧HAt wx w.heap.size 49 h∧HAt wx (w.heap.size+1) 44 zeroH∧HAt wx W.heap.size 44 (half h)∧Below w.heap.size w wx∧W.heap.size+1≤wx.heap.size)
 case first =>
  go_wp2_with (first|(refine store_head (by rfl) _ _ rfl _ rfl (half h) rfl _ zeroH (by assumption) rfl ?_;intro w2 HP)|fail)
  go_meet
  case rel =>
   have hlt:w.heap.size<W.heap.size:=by omega
   exact⟨rfl,HP.keep (HHA.out.later ((Below.refl _ _).alloc (Nat.le_refl _) _)) (by omega),HP.keep (HHR.out.later ((Below.refl _ _).alloc (Nat.le_refl _) _)) (by omega),HP.1,HP.2.2.1 _ _ (by omega) (HU.out.alloc (by omega) _),by rw[HP.2.1,World.size_alloc];omega⟩
 case rest =>
 obtain⟨rfl,HA2,HR2,HB2,U2,hz2⟩:=hcut
 generalize wc=w2 at *
 have hlt:w.heap.size<W.heap.size:=by omega
 have hf:∀ o,w2.frozen? ⟨W.heap.size,o,none⟩=false:=fun o=>by unfold HAt at HB2;simp[World.frozen?,HB2]
 clear HZ HHA HHR HU
 clear a0 a1 a2 a3 a4 a5 a6 a7 a8 a9 a10 a11 a12 a13 a14
 have a15:=at15 HA2
 have a16:=at16 HA2
 have a17:=at17 HA2
 have a18:=at18 HA2
 have a19:=at19 HA2
 have a20:=at20 HA2
 have a21:=at21 HA2
 have a22:=at22 HA2
 have a23:=at23 HA2
 have e15:w2.cell? ⟨W.heap.size,15,none⟩=some (.int .i64 0):=at15 HB2
 have e16:w2.cell? ⟨W.heap.size,16,none⟩=some (.int .i64 0):=at16 HB2
 have e17:w2.cell? ⟨W.heap.size,17,none⟩=some (.int .i64 0):=at17 HB2
 have e18:w2.cell? ⟨W.heap.size,18,none⟩=some (.int .i64 0):=at18 HB2
 have e19:w2.cell? ⟨W.heap.size,19,none⟩=some (.int .i64 0):=at19 HB2
 have e20:w2.cell? ⟨W.heap.size,20,none⟩=some (.int .i64 0):=at20 HB2
 have e21:w2.cell? ⟨W.heap.size,21,none⟩=some (.int .i64 0):=at21 HB2
 have e22:w2.cell? ⟨W.heap.size,22,none⟩=some (.int .i64 0):=at22 HB2
 have e23:w2.cell? ⟨W.heap.size,23,none⟩=some (.int .i64 0):=at23 HB2
 have hn1:¬ W.heap.size=w.heap.size:=by omega
 have hn2:¬ w.heap.size=W.heap.size:=by omega
 have HHA:=Lib.hid HA2
 have HHR:=Lib.hid HR2
 have HHB:=Lib.hid HB2
 have HU:=Lib.hid U2
 have HZ2:Hid (W.heap.size+1≤w2.heap.size):=Lib.hid (by omega)
 clear HA2 HR2 HB2 U2 hz2
 go_upto_region 2 with fail
 have HS0:Hid ((fun w'=>w'.cell? ⟨w.heap.size,15,none⟩=some (.int .i64 h.z0)∧w'.cell? ⟨w.heap.size,16,none⟩=some (.int .i64 h.z1)∧w'.cell? ⟨w.heap.size,17,none⟩=some (.int .i64 h.lo0)∧w'.cell? ⟨w.heap.size,18,none⟩=some (.int .i64 h.la0)∧w'.cell? ⟨w.heap.size,19,none⟩=some (.int .i64 h.lo1)∧w'.cell? ⟨w.heap.size,20,none⟩=some (.int .i64 h.la1)∧w'.cell? ⟨w.heap.size,21,none⟩=some (.int .i64 h.zm)∧w'.cell? ⟨w.heap.size,22,none⟩=some (.int .i64 h.lon)∧w'.cell? ⟨w.heap.size,23,none⟩=some (.int .i64 h.lat)) w2.drew):=Lib.hid ⟨cellb_later (Below.drew (Below.refl _ _)) a15,cellb_later (Below.drew (Below.refl _ _)) a16,cellb_later (Below.drew (Below.refl _ _)) a17,cellb_later (Below.drew (Below.refl _ _)) a18,cellb_later (Below.drew (Below.refl _ _)) a19,cellb_later (Below.drew (Below.refl _ _)) a20,cellb_later (Below.drew (Below.refl _ _)) a21,cellb_later (Below.drew (Below.refl _ _)) a22,cellb_later (Below.drew (Below.refl _ _)) a23⟩
 clear a15 a16 a17 a18 a19 a20 a21 a22 a23
 go_cut [] (fun wx=>HAt wx W.heap.size 44 h∧HAt wx (w.heap.size+1) 44 zeroH∧Below w.heap.size w wx)
 case first =>
  go_region_held3 (fun w'=>w'.cell? ⟨w.heap.size,15,none⟩=some (.int .i64 h.z0)∧w'.cell? ⟨w.heap.size,16,none⟩=some (.int .i64 h.z1)∧w'.cell? ⟨w.heap.size,17,none⟩=some (.int .i64 h.lo0)∧w'.cell? ⟨w.heap.size,18,none⟩=some (.int .i64 h.la0)∧w'.cell? ⟨w.heap.size,19,none⟩=some (.int .i64 h.lo1)∧w'.cell? ⟨w.heap.size,20,none⟩=some (.int .i64 h.la1)∧w'.cell? ⟨w.heap.size,21,none⟩=some (.int .i64 h.zm)∧w'.cell? ⟨w.heap.size,22,none⟩=some (.int .i64 h.lon)∧w'.cell? ⟨w.heap.size,23,none⟩=some (.int .i64 h.lat)) (first|(with_reducible exact keepOd hn2 (by with_reducible assumption))|(with_reducible exact HS0.out)) (fail)
  go_wp2_with fail
  go_meet
  case rel=>exact⟨nine_at HHB.out,(nine_other (by omega)).trans HHR.out,nine_below HU.out (by omega)⟩
 case rest =>
  obtain⟨hA,hB,hU⟩:=hcut
  generalize wc=w3 at *
  clear HS0 HHA HHR HHB HU HZ2 hf e15 e16 e17 e18 e19 e20 e21 e22 e23
  go_wp2_with (first|(refine load_head (by rfl) _ rfl _ rfl _ h (by assumption) ?_)|(refine store_head (by rfl) _ _ rfl _ rfl h rfl _ zeroH (by assumption) rfl ?_;intro w4 HP)|fail)
  refine bodyPost_ret (v:=.agg (cH h)) (results_cell_row Tryz.results15 _ _ _ _ _ _ _ rfl HP.1 Tryz.underlying44 rfl head_size) rfl ⟨rfl,HP.2.2.1 _ _ (by omega) hU⟩
end Go.Proofs.YtdnmgpcfgcidbaaGreatDoor
