/- Several texts, one behind the other: Px, Py. -/
import Derived.Test.YtbkceneakdbdkaaGreatDoorMR
import Derived.Test.YtbkceneakdbdkaaGreatDoorMF
import Derived.Test.YtbkceneakdbdkaaGreatDoorMI
import Derived.Test.YtbkceneakdbdkaaGreatDoorMB
import Derived.Lib.AppendIntMem
/- The program's put: what is flat. -/
namespace Go.Proofs.YtbkceneakdbdkaaGreatDoor
open Go.RowKit
set_option maxRecDepth 20000
set_option linter.unusedVariables false
set_option linter.unusedSimpArgs false
set_option maxHeartbeats 4000000
/-- The tables lie below a block. -/
def QLow (B : Nat) (W : World) : Prop := QTab W ∧ 1 < B ∧ 3 < B
theorem QTab.low {W : World} (h : QTab W) (B : Nat) (hB : W.heap.size ≤ B) : QLow B W := by
  obtain ⟨h1, ev, h2, h3⟩ := h
  refine ⟨⟨h1, ev, h2, h3⟩, ?_, ?_⟩
  · refine Nat.lt_of_lt_of_le ?_ hB
    unfold Lib.TabIs World.var? at h1
    rw [gPow] at h1
    simp only [Option.bind_some] at h1
    rcases Nat.lt_or_ge 1 W.heap.size with h' | h'
    · exact h'
    · rw [Array.getElem?_eq_none h'] at h1; cases h1
  · exact Nat.lt_of_lt_of_le (World.block_lt_of_cell? _ _ h2) hB
theorem QLow.below {B : Nat} {W W' : World} (h : QLow B W) (hb : Below B W W') : QLow B W' := by
  obtain ⟨⟨h1, ev, h2, h3⟩, h4, h5⟩ := h
  refine ⟨⟨?_, ev, (hb.cell (p := ⟨3, 0, none⟩) h5).trans h2, h3⟩, h4, h5⟩
  unfold Lib.TabIs World.var? at h1 ⊢
  rw [gPow] at h1 ⊢
  simp only [Option.bind_some] at h1 ⊢
  rw [hb.block _ h4]
  exact h1
/-- The bytes behind: what was to come came, or there is too much already. -/
def PutR (out add out' : List Int) : Prop := out'.length ≤ (out ++ add).length ∧ ((∀ b ∈ out, 0 ≤ b ∧ b < 256) → ∀ b ∈ out', 0 ≤ b ∧ b < 256) ∧ (out' = out ++ add ∨ 4096 < out'.length ∧ 4096 < (out ++ add).length)
theorem PutR.one {out add : List Int} (h : ∀ b ∈ add, 0 ≤ b ∧ b < 256) : PutR out add (out ++ add) :=
  ⟨Nat.le_refl _, fun ho b hb => (List.mem_append.1 hb).elim (ho b) (h b), .inl rfl⟩
theorem PutR.skip {out add : List Int} (h : 4096 < out.length) : PutR out add out :=
  ⟨by rw [List.length_append]; omega, fun h => h, .inr ⟨h, by rw [List.length_append]; omega⟩⟩
theorem PutR.zero (out : List Int) : PutR out [] out := ⟨by simp, fun h => h, .inl (by simp)⟩
theorem PutR.trans {a b c d e : List Int} (h : PutR a b c) (g : PutR c d e) : PutR a (b ++ d) e := by
  obtain ⟨h1, h2, h3⟩ := h
  obtain ⟨g1, g2, g3⟩ := g
  rw [List.length_append] at h1 g1
  refine ⟨by simp only [List.length_append]; omega, fun x => g2 (h2 x), ?_⟩
  rcases h3 with rfl | ⟨h3, h4⟩
  · rcases g3 with rfl | ⟨g3, g4⟩
    · exact .inl (by rw [List.append_assoc])
    · exact .inr ⟨g3, by rw [← List.append_assoc]; exact g4⟩
  · rw [List.length_append] at h4
    refine .inr ⟨?_, by simp only [List.length_append]; omega⟩
    rcases g3 with rfl | ⟨g3, g4⟩
    · rw [List.length_append]; omega
    · exact g3
def PutE (B : Nat) (out add : List Int) (W : World) (e : Ending) (W' : World) : Prop :=
  e = .returned (.tuple #[]) ∧ (∃ out', Bd B out' W' ∧ PutR out add out') ∧ Below B W W' ∧ OK B W W'
theorem len_any (B : Nat) (out : List Int) (W : World) (h : Bd B out W) : Calls Tryz.prog 24 #[bp B] W fun e W' => e = .returned (.int .i64 out.length) ∧ W' = W := by
  have := Any.Builder_Len_f lenL B B (out.map (Value.int .u8)) W h
  rw [List.length_map] at this
  exact this
theorem fb_any (b : Bool) (W : World) : Calls Tryz.prog 39 #[.bool b] W fun e w' => (∃ r : ByteArray, e = .returned (.string r) ∧ bI r = printV (.bool b) ∧ r.size ≤ 10) ∧ w' = W := by
  refine (Any.strconv_FormatBool fbL b W).mono ?_
  rintro e w' ⟨rfl, rfl⟩
  refine ⟨⟨_, rfl, ?_, ?_⟩, rfl⟩
  · rw [bI_arr]; cases b <;> rw [printV] <;> decide +kernel
  · cases b <;> decide +kernel
theorem ito_any (n : Int) (W : World) (h0 : -9223372036854775808 ≤ n) (h1 : n ≤ 9223372036854775807) (hq : QTab W) : Calls Tryz.prog 40 #[.int .i64 n] W fun e w' => (∃ r : ByteArray, e = .returned (.string r) ∧ bI r = digI n) ∧ Below W.heap.size W w' := by
  refine (Any.strconv_Itoa itoL n h0 h1 W hq.1).mono ?_
  rintro e w' ⟨rfl, k, os, rfl⟩
  refine ⟨⟨_, rfl, by rw [bI_arr, ito_dig]⟩, ?_⟩
  exact Lib.below_grow _ _ (Nat.le_refl _) _ _
theorem comma_any (B : Nat) (out : List Int) (i : Nat) (W : World) (h : Bd B out W) (hl : out.length ≤ 900000) : Calls Tryz.prog 43 #[bp B, .int .i64 i] W (PutE B out (if i = 0 then [] else [44]) W) := by
  unfold PutE
  by_cases hi : i = 0
  · subst hi
    rw [if_pos rfl]
    have HB := Lib.hid h
    clear h
    go_enter Tryz.func43, Tryz.ntmps43
    go_wp2_with fail
    exact bodyPost_end (v := .tuple #[]) (by simp [results, Tryz.results43, go_sem]) rfl ⟨rfl, ⟨out, HB.out, PutR.zero _⟩, by go_grown, Lib.OthersKept.refl _ _ _⟩
  · rw [if_neg hi]
    have e1 : decide (0 < (i : Int)) = true := by simp; omega
    have e2 : (0 : Int) < (i : Int) := by omega
    have HW := Lib.hid (wb_any B out 44 W h (by omega))
    clear h
    go_enter Tryz.func43, Tryz.ntmps43
    go_wp2_with fail
    refine HW.out.mono ?_
    rintro e w1 ⟨rfl, hb1, hb2, hb3⟩
    have H1 := Lib.hid hb1
    have H2 := Lib.hid hb2
    have H3 := Lib.hid hb3
    clear hb1 hb2 hb3
    go_wp2_with fail
    exact bodyPost_end (v := .tuple #[]) (by simp [results, Tryz.results43, go_sem]) rfl ⟨rfl, ⟨_, H1.out, PutR.one (by simp)⟩, H2.out, H3.out⟩
theorem quoteS_byte {l : List Int} (h : 0 ≤ countP l) : ∀ b ∈ quoteS l, 0 ≤ b ∧ b < 256 := by
  obtain ⟨n, hv, _⟩ := count_of h
  intro b hb
  unfold quoteS at hb
  rcases List.mem_append.1 hb with hb | hb
  · rcases List.mem_cons.1 hb with rfl | hb
    · omega
    · have := quoteB_byte hv b hb; omega
  · obtain rfl := List.mem_singleton.1 hb; omega
theorem ptext_put (B : Nat) (out : List Int) (t : ByteArray) (W : World) (h : Bd B out W) (hc : 0 ≤ countP (bI t)) (ht : t.size ≤ 5000) (hl : out.length ≤ 900000) : Calls Tryz.prog 41 #[bp B, .string t] W (PutE B out (quoteS (bI t)) W) := by
  have HQ := Lib.hid (fun W => jquote_any t W (by omega))
  rw [(quoteS_of hc).1, (quoteS_of hc).2] at HQ
  have hqb := quoteS_byte hc
  have hqs := bI_str _ hqb
  have hql := quoteS_len (bI t)
  rw [bI_len] at hql
  generalize quoteS (bI t) = q at HQ hqb hqs hql ⊢
  have hqz : (str q).size ≤ 1000000 := by rw [str_size]; omega
  have HB := Lib.hid h
  have HW := Lib.hid (fun W h => ws_any B out (str q) W h (by omega) hqz)
  rw [hqs] at HW
  have HQB := Lib.hid hqb
  unfold PutE
  clear h hqb hqs hql hqz
  go_enter Tryz.func41, Tryz.ntmps41
  go_wp2_with fail
  refine (HQ.out _).mono ?_
  rintro e w1 ⟨rfl, hb1⟩
  have HB1 := Lib.hid (HB.out.kept hb1)
  have HBL := Lib.hid (hb1.mono (Nat.le_of_lt HB.out.lt))
  have HOK := Lib.hid (show OK B W w1 from fun k o hk _ _ => (hb1.block k (Array.getElem?_eq_some_iff.1 hk).1).trans hk)
  clear hb1
  go_wp2_with fail
  refine (HW.out _ HB1.out).mono ?_
  rintro e w2 ⟨rfl, h1, h2, h3⟩
  have H1 := Lib.hid h1
  have H2 := Lib.hid (HBL.out.trans h2)
  have H3 := Lib.hid (HOK.out.trans h3)
  clear h1 h2 h3
  go_wp2_with fail
  exact bodyPost_end (v := .tuple #[]) (by simp [results, Tryz.results41, go_sem]) rfl ⟨rfl, ⟨_, H1.out, PutR.one HQB.out⟩, H2.out, H3.out⟩
def PtOk (v : Js) : Prop := ∀ (d B : Nat) (out : List Int) (W : World) (x : Value), AnyAt (fun b => b < B) W v x → Bd B out W → chkV d v = 0 → out.length + (printV v).length ≤ 900000 → QLow B W →
  Calls Tryz.prog 23 #[bp B, x] W (PutE B out (printV v) W)
theorem put_much (B : Nat) (out add : List Int) (W : World) (x : Value) (h : Bd B out W) (hm : 4096 < out.length) : Calls Tryz.prog 23 #[bp B, x] W (PutE B out add W) := by
  have HL := Lib.hid (len_any B out W h)
  have HB := Lib.hid h
  have e1 : decide (4096 < (out.length : Int)) = true := by simp; omega
  have e2 : (4096 : Int) < (out.length : Int) := by omega
  unfold PutE
  clear h
  go_enter Tryz.func23, Tryz.ntmps23
  go_wp2_with fail
  refine HL.out.mono ?_
  rintro e w1 ⟨rfl, rfl⟩
  go_wp2_with fail
  refine bodyPost_ret (v := .tuple #[]) (by simp [results, Tryz.results23, go_sem]) rfl ⟨rfl, ⟨out, HB.out, PutR.skip hm⟩, by go_grown, Lib.OthersKept.refl _ _ _⟩
theorem put_nul : PtOk (.nul) := by
  intro d B out W x h hB hck hlen hq
  by_cases hm : 4096 < out.length
  · exact put_much B out _ W x hB hm
  have e1 : decide (4096 < (out.length : Int)) = false := by simp; omega
  have e2 : ¬ (4096 : Int) < (out.length : Int) := by omega
  have HL := Lib.hid (len_any B out W hB)
  have HB := Lib.hid hB
  have HQ := Lib.hid hq
  rw [AnyAt] at h
  subst h
  rw [printV]
  have HW := Lib.hid (ws_any B out { data := #[110, 117, 108, 108] } W hB (by omega) (by decide))
  have hn : bI { data := #[110, 117, 108, 108] } = [110, 117, 108, 108] := rfl
  rw [hn] at HW
  have a1 := fun W => assert_nil 20 4 _ _ Tryz.underlying4 rfl zBool W
  have a2 := fun W => assert_nil 20 3 _ _ Tryz.underlying3 rfl zInt W
  have a3 := fun W => assert_nil 20 9 _ _ Tryz.underlying9 rfl zStr W
  have a4 := fun W => assert_nil 20 57 _ _ Tryz.underlying57 rfl zLst W
  have a5 := fun W => assert_nil 20 58 _ _ Tryz.underlying58 rfl zPrs W
  unfold PutE
  clear hB hq
  go_enter Tryz.func23, Tryz.ntmps23
  go_wp2_with fail
  refine HL.out.mono ?_
  rintro e w1 ⟨rfl, rfl⟩
  go_wp2_with fail
  refine (HW.out).mono ?_
  rintro e w2 ⟨rfl, h1, h2, h3⟩
  have H1 := Lib.hid h1
  have H2 := Lib.hid (h2)
  have H3 := Lib.hid (h3)
  clear h1 h2 h3
  go_wp2_with fail
  exact bodyPost_end (v := .tuple #[]) (by simp [results, Tryz.results23, go_sem]) rfl ⟨rfl, ⟨_, H1.out, PutR.one (by simp)⟩, H2.out, H3.out⟩
theorem put_bool (b : Bool) : PtOk (.bool b) := by
  intro d B out W x h hB hck hlen hq
  by_cases hm : 4096 < out.length
  · exact put_much B out _ W x hB hm
  have e1 : decide (4096 < (out.length : Int)) = false := by simp; omega
  have e2 : ¬ (4096 : Int) < (out.length : Int) := by omega
  have HL := Lib.hid (len_any B out W hB)
  have HB := Lib.hid hB
  have HQ := Lib.hid hq
  rw [AnyAt] at h
  subst h
  have hpb : ∀ c ∈ printV (.bool b), 0 ≤ c ∧ c < 256 := by cases b <;> rw [printV] <;> simp
  have HPB := Lib.hid hpb
  have HF := Lib.hid (fun W => fb_any b W)
  clear hpb
  generalize printV (.bool b) = P at HF HPB hlen ⊢
  have a1 := fun W => assert_yes 20 4 (.bool b) _ Tryz.underlying4 rfl W
  unfold PutE
  clear hB hq
  go_enter Tryz.func23, Tryz.ntmps23
  go_wp2_with fail
  refine HL.out.mono ?_
  rintro e w1 ⟨rfl, rfl⟩
  go_wp2_with fail
  refine (HF.out _).mono ?_
  rintro e w1 ⟨⟨r, rfl, hr, hr2⟩, rfl⟩
  have HW := Lib.hid (ws_any B out r w1 HB.out (by omega) (by omega))
  rw [hr] at HW
  clear hr hr2
  go_wp2_with fail
  refine (HW.out).mono ?_
  rintro e w2 ⟨rfl, h1, h2, h3⟩
  have H1 := Lib.hid h1
  have H2 := Lib.hid (h2)
  have H3 := Lib.hid (h3)
  clear h1 h2 h3
  go_wp2_with fail
  exact bodyPost_end (v := .tuple #[]) (by simp [results, Tryz.results23, go_sem]) rfl ⟨rfl, ⟨_, H1.out, PutR.one HPB.out⟩, H2.out, H3.out⟩
theorem put_num (n : Int) : PtOk (.num n) := by
  intro d B out W x h hB hck hlen hq
  by_cases hm : 4096 < out.length
  · exact put_much B out _ W x hB hm
  have e1 : decide (4096 < (out.length : Int)) = false := by simp; omega
  have e2 : ¬ (4096 : Int) < (out.length : Int) := by omega
  have HL := Lib.hid (len_any B out W hB)
  have HB := Lib.hid hB
  have HQ := Lib.hid hq
  rw [AnyAt] at h
  subst h
  rw [printV]
  rw [printV] at hlen
  have hn : -9223372036854775808 ≤ n ∧ n ≤ 9223372036854775807 := by
    rw [chkV] at hck
    unfold maxI at hck
    split at hck
    · cases hck
    · omega
  have HI := Lib.hid (ito_any n W hn.1 hn.2 hq.1)
  generalize digI n = P at HI hlen ⊢
  have a1 := fun W => assert_no 20 4 3 (.int .i64 n) _ _ Tryz.underlying4 rfl zBool (by decide) W
  have a2 := fun W => assert_yes 20 3 (.int .i64 n) _ Tryz.underlying3 rfl W
  unfold PutE
  clear hB hq
  go_enter Tryz.func23, Tryz.ntmps23
  go_wp2_with fail
  refine HL.out.mono ?_
  rintro e w0 ⟨rfl, rfl⟩
  go_wp2_with fail
  refine HI.out.mono ?_
  rintro e w1 ⟨⟨r, rfl, hr⟩, hb1⟩
  have hrl : r.size ≤ 900000 := by rw [← bI_len, hr]; omega
  have HW := Lib.hid (ws_any B out r w1 (HB.out.kept hb1) (by omega) (by omega))
  rw [hr] at HW
  have HPB := Lib.hid (bI_byte r)
  rw [hr] at HPB
  have HBL := Lib.hid (hb1.mono (Nat.le_of_lt HB.out.lt))
  have HOK := Lib.hid (show OK B _ w1 from fun k o hk _ _ => (hb1.block k (Array.getElem?_eq_some_iff.1 hk).1).trans hk)
  clear hr hrl hb1
  go_wp2_with fail
  refine (HW.out).mono ?_
  rintro e w2 ⟨rfl, h1, h2, h3⟩
  have H1 := Lib.hid h1
  have H2 := Lib.hid (HBL.out.trans h2)
  have H3 := Lib.hid (HOK.out.trans h3)
  clear h1 h2 h3
  go_wp2_with fail
  exact bodyPost_end (v := .tuple #[]) (by simp [results, Tryz.results23, go_sem]) rfl ⟨rfl, ⟨_, H1.out, PutR.one HPB.out⟩, H2.out, H3.out⟩
theorem put_str (s : List Int) : PtOk (.str s) := by
  intro d B out W x h hB hck hlen hq
  by_cases hm : 4096 < out.length
  · exact put_much B out _ W x hB hm
  have e1 : decide (4096 < (out.length : Int)) = false := by simp; omega
  have e2 : ¬ (4096 : Int) < (out.length : Int) := by omega
  have HL := Lib.hid (len_any B out W hB)
  have HB := Lib.hid hB
  have HQ := Lib.hid hq
  rw [AnyAt] at h
  obtain ⟨t, rfl, rfl, hs⟩ := h
  rw [bI_len] at hs
  rw [printV]
  have hc : 0 ≤ countP (bI t) := by
    rw [chkV] at hck
    split at hck
    · cases hck
    · omega
  have HT := Lib.hid (ptext_put B out t W hB hc hs (by omega))
  unfold PutE at HT
  have a1 := fun W => assert_no 20 4 9 (.string t) _ _ Tryz.underlying4 rfl zBool (by decide) W
  have a2 := fun W => assert_no 20 3 9 (.string t) _ _ Tryz.underlying3 rfl zInt (by decide) W
  have a3 := fun W => assert_yes 20 9 (.string t) _ Tryz.underlying9 rfl W
  unfold PutE
  clear hB hq
  go_enter Tryz.func23, Tryz.ntmps23
  go_wp2_with fail
  refine HL.out.mono ?_
  rintro e w1 ⟨rfl, rfl⟩
  go_wp2_with fail
  refine HT.out.mono ?_
  rintro e w2 ⟨rfl, h1, h2, h3⟩
  have H1 := Lib.hid h1
  have H2 := Lib.hid h2
  have H3 := Lib.hid h3
  clear h1 h2 h3
  go_wp2_with fail
  exact bodyPost_end (v := .tuple #[]) (by simp [results, Tryz.results23, go_sem]) rfl ⟨rfl, H1.out, H2.out, H3.out⟩
theorem put_bad : PtOk .bad := fun d B out W x h hB hck => by rw [chkV] at hck; cases hck
end Go.Proofs.YtbkceneakdbdkaaGreatDoor
/- The program's put: lists and objects; Put. -/
namespace Go.Proofs.YtbkceneakdbdkaaGreatDoor
open Go.RowKit
set_option maxRecDepth 20000
set_option linter.unusedVariables false
set_option linter.unusedSimpArgs false
set_option maxHeartbeats 4000000
theorem chkL_at (ob : Bool) (d : Nat) : ∀ (l : Jl) (names : List (List Int)) (i : Nat) (n : List Int) (v : Js), chkL ob d names l = 0 → l.at? i = some (n, v) → chkV (d + 1) v = 0 ∧ (ob = true → 0 ≤ countP n ∧ n ∉ names)
  | .nil, _, _, _, _, _, h => by cases h
  | .cons n' v' t, names, 0, n, v, hc, h => by
    obtain ⟨rfl, rfl⟩ : n' = n ∧ v' = v := by simpa [Jl.at?] using h
    have := chk_cons hc
    exact ⟨this.2.1, this.1⟩
  | .cons n' v' t, names, i + 1, n, v, hc, h => by
    have := chkL_at ob d t (names ++ [n']) i n v (chk_cons hc).2.2 h
    exact ⟨this.1, fun e => ⟨(this.2 e).1, fun x => (this.2 e).2 (List.mem_append_left _ x)⟩⟩
def restJ (ob : Bool) (l : Jl) (i : Nat) : List Int := if i = 0 then bodyP ob l else tailP ob (l.drop i)
theorem restJ_step (ob : Bool) (l : Jl) (i : Nat) (n : List Int) (v : Js) (h : l.at? i = some (n, v)) : restJ ob l i = (if i = 0 then [] else [44]) ++ ((if ob then quoteS n ++ [58] else []) ++ (printV v ++ restJ ob l (i + 1))) := by
  have hd := Jl.drop_at l i n v h
  unfold restJ
  rw [if_neg (show ¬ i + 1 = 0 by omega)]
  by_cases hi : i = 0
  · subst hi
    rw [Jl.drop_zero] at hd
    rw [if_pos rfl, if_pos rfl, hd, bodyP]
    simp [Jl.drop, Jl.drop_zero]
  · rw [if_neg hi, if_neg hi, hd, tailP]
    simp
theorem restJ_end (ob : Bool) (l : Jl) : restJ ob l l.length = [] := by
  unfold restJ
  rw [Jl.drop_len]
  split
  · rename_i h
    cases l with
    | nil => rw [bodyP]
    | cons n v t => simp [Jl.length] at h
  · rw [tailP]
theorem any_low {B : Nat} {W W' : World} {v : Js} {x : Value} (h : AnyAt (fun b => b < B) W v x) (hb : Below B W W') : AnyAt (fun b => b < B) W' v x := AnyAt.keep (fun _ e _ => e) hb.size (fun b hb' _ => hb.block b hb') v x h
theorem OK.obj {B : Nat} {W W' : World} (h : OK B W W') {k : Nat} {cs : Array Value} {T : TypeId} {fz : Nat × Nat} (hk : W.heap[k]? = some (.cells cs T fz)) (hB : k ≠ B) (hT : T ≠ 5) : W'.heap[k]? = some (.cells cs T fz) :=
  h k _ hk (fun e => hB (by injection e)) (fun c f e => hT (by injection e))
theorem put_list (l : Jl) (HK : ∀ i n v, l.at? i = some (n, v) → PtOk v) : PtOk (.arr l) := by
  intro d B out W x h hB hck hlen hq
  by_cases hm : 4096 < out.length
  · exact put_much B out _ W x hB hm
  have e1 : decide (4096 < (out.length : Int)) = false := by simp; omega
  have e2 : ¬ (4096 : Int) < (out.length : Int) := by omega
  have HL := Lib.hid (len_any B out W hB)
  rw [AnyAt] at h
  obtain ⟨a, cap, rfl, h1, h2, hr⟩ := h
  have hml : (l.length : Int) ≤ 9223372036854775807 := by rw [maxL] at h2; omega
  rw [printV] at hlen ⊢
  rw [chkV] at hck
  have hck : chkL false d [] l = 0 := by
    split at hck
    · cases hck
    split at hck
    · cases hck
    · exact hck
  have HCK := Lib.hid (fun i n v => chkL_at false d l [] i n v hck)
  have HK := Lib.hid HK
  have HR := Lib.hid hr
  have HQ := Lib.hid hq
  have HW := Lib.hid (wb_any B out 91 W hB (by omega))
  have hlen2 : out.length + 2 + (bodyP false l).length ≤ 900000 := by simp only [List.cons_append, List.length_cons, List.length_append, List.length_nil] at hlen; omega
  have hP0 : restJ false l 0 = bodyP false l := rfl
  obtain ⟨P, hP⟩ : ∃ P, bodyP false l = P := ⟨_, rfl⟩
  rw [hP] at hlen2 hP0 ⊢
  have HP0 := Lib.hid hP0
  have a1 := fun W => assert_no 20 4 57 (.slice a l.length cap) _ _ Tryz.underlying4 rfl zBool (by decide) W
  have a2 := fun W => assert_no 20 3 57 (.slice a l.length cap) _ _ Tryz.underlying3 rfl zInt (by decide) W
  have a3 := fun W => assert_no 20 9 57 (.slice a l.length cap) _ _ Tryz.underlying9 rfl zStr (by decide) W
  have a4 := fun W => assert_yes 20 57 (.slice a l.length cap) _ Tryz.underlying57 rfl W
  unfold PutE
  clear hB hq hck hr hlen hP hP0
  go_enter Tryz.func23, Tryz.ntmps23
  go_wp2_with fail
  refine HL.out.mono ?_
  rintro e w1 ⟨rfl, rfl⟩
  go_wp2_with fail
  refine HW.out.mono ?_
  rintro e w2 ⟨rfl, hb1, hb2, hb3⟩
  have HB1 := Lib.hid hb1
  have HB2 := Lib.hid hb2
  have HB3 := Lib.hid hb3
  clear hb1 hb2 hb3
  go_wp2_with fail
  go_loopw [48] (fun z wr => ∃ (i : Nat) (oi dn : List Int), i ≤ l.length ∧ z = .int .i64 i ∧ Hid (Bd B oi wr) ∧ Hid (PutR out (91 :: dn) oi) ∧ Hid (dn ++ restJ false l i = P) ∧ Hid (Below B w1 wr) ∧ Hid (OK B w1 wr)) (fun z _ => l.length - (intOf z).toNat)
  case atStart => exact ⟨0, out ++ [91], [], Nat.zero_le _, rfl, HB1, Lib.hid (PutR.one (by simp)), Lib.hid HP0.out, HB2, HB3⟩
  case round =>
    obtain ⟨i, oi, dn, hi, rfl, HBD, HPR, HDN, HBL, HOK⟩ := hrel
    by_cases hlt : i < l.length
    · have hi2 : (i : Int) < (l.length : Int) := by omega
      obtain ⟨n, v, hat⟩ := Jl.lt_at l i hlt
      obtain ⟨g, off, y, rfl, hgB, hg, l0, hav⟩ := RowA.at l 0 i n v HR.out hat
      rw [Nat.zero_add] at l0
      replace l0 := (HBL.out.cell (p := ⟨g, off + i, none⟩) hgB).trans l0
      have hst := restJ_step false l i n v hat
      simp only [Bool.false_eq_true, if_false, List.nil_append] at hst
      have hdn := HDN.out
      rw [hst] at hdn
      have hoi := HPR.out.1
      rw [List.length_append, List.length_cons] at hoi
      have hll := congrArg List.length hdn
      simp only [List.length_append] at hll
      have HCM := Lib.hid (comma_any B oi i wr HBD.out (by omega))
      have HC := Lib.hid (fun o2 W2 (hbd : Bd B o2 W2) (hbl : Below B w1 W2) hl2 => HK.out i n v hat (d + 1) B o2 W2 y (any_low hav hbl) hbd (HCK.out i n v hat).1 hl2 (HQ.out.below hbl))
      unfold PutE at HCM HC
      have HST := Lib.hid hdn
      generalize (if i = 0 then ([] : List Int) else [44]) = cm at HCM HST hll hst hdn
      generalize printV v = pv at HC HST hll hst hdn
      clear hat hav hst hdn
      go_wp2_with fail
      refine HCM.out.mono ?_
      rintro e w3 ⟨rfl, ⟨o3, hb3, hp3⟩, hl3, hk3⟩
      have HB3' := Lib.hid hb3
      have HP3 := Lib.hid (PutR.trans HPR.out hp3)
      have HL3 := Lib.hid (HBL.out.trans hl3)
      have HK3 := Lib.hid (HOK.out.trans hk3)
      have ho3 := hp3.1
      rw [List.length_append] at ho3
      clear hb3 hp3 hl3 hk3 l0
      go_wp2_with fail
      refine (HC.out o3 _ HB3'.out HL3.out (by omega)).mono ?_
      rintro e w4 ⟨rfl, ⟨o4, hb4, hp4⟩, hl4, hk4⟩
      have HB4 := Lib.hid hb4
      have HP4 := Lib.hid (PutR.trans HP3.out hp4)
      have HL4 := Lib.hid (HL3.out.trans hl4)
      have HK4 := Lib.hid (HK3.out.trans hk4)
      clear hb4 hp4 hl4 hk4
      go_wp2_with fail
      go_roundw
      case rel => exact ⟨i + 1, o4, dn ++ cm ++ pv, by omega, by go_num, HB4, Lib.hid (by have := HP4.out; simpa using this), Lib.hid (by rw [← HST.out]; simp), HL4, HK4⟩
      case measure => simp [intOf]; omega
    · obtain rfl : i = l.length := by omega
      have hdn := HDN.out
      rw [restJ_end, List.append_nil] at hdn
      subst hdn
      have hoi := HPR.out.1
      rw [List.length_append, List.length_cons] at hoi
      have HW2 := Lib.hid (wb_any B oi 93 wr HBD.out (by omega))
      clear hi hlt
      go_wp2_with fail
      refine HW2.out.mono ?_
      rintro e w3 ⟨rfl, hb1, hb2, hb3⟩
      have H1 := Lib.hid hb1
      have H2 := Lib.hid (HBL.out.trans hb2)
      have H3 := Lib.hid (HOK.out.trans hb3)
      clear hb1 hb2 hb3
      go_wp2_with fail
      exact bodyPost_end (v := .tuple #[]) (by simp [results, Tryz.results23, go_sem]) rfl ⟨rfl, ⟨_, H1.out, by have := PutR.trans HPR.out (PutR.one (out := oi) (add := [93]) (by simp)); simpa using this⟩, H2.out, H3.out⟩
theorem put_obj (l : Jl) (HK : ∀ i n v, l.at? i = some (n, v) → PtOk v) : PtOk (.obj l) := by
  intro d B out W x h hB hck hlen hq
  by_cases hm : 4096 < out.length
  · exact put_much B out _ W x hB hm
  have e1 : decide (4096 < (out.length : Int)) = false := by simp; omega
  have e2 : ¬ (4096 : Int) < (out.length : Int) := by omega
  have HL := Lib.hid (len_any B out W hB)
  rw [AnyAt] at h
  obtain ⟨a, cap, rfl, h1, h2, hr⟩ := h
  have hml : (l.length : Int) ≤ 9223372036854775807 := by rw [maxL] at h2; omega
  rw [printV] at hlen ⊢
  rw [chkV] at hck
  have hck : chkL true d [] l = 0 := by
    split at hck
    · cases hck
    split at hck
    · cases hck
    · exact hck
  have HCK := Lib.hid (fun i n v => chkL_at true d l [] i n v hck)
  have HK := Lib.hid HK
  have HR := Lib.hid hr
  have HQ := Lib.hid hq
  have HW := Lib.hid (wb_any B out 123 W hB (by omega))
  have hlen2 : out.length + 2 + (bodyP true l).length ≤ 900000 := by simp only [List.cons_append, List.length_cons, List.length_append, List.length_nil] at hlen; omega
  have hP0 : restJ true l 0 = bodyP true l := rfl
  obtain ⟨P, hP⟩ : ∃ P, bodyP true l = P := ⟨_, rfl⟩
  rw [hP] at hlen2 hP0 ⊢
  have HP0 := Lib.hid hP0
  have a1 := fun W => assert_no 20 4 58 (.slice a l.length cap) _ _ Tryz.underlying4 rfl zBool (by decide) W
  have a2 := fun W => assert_no 20 3 58 (.slice a l.length cap) _ _ Tryz.underlying3 rfl zInt (by decide) W
  have a3 := fun W => assert_no 20 9 58 (.slice a l.length cap) _ _ Tryz.underlying9 rfl zStr (by decide) W
  have a4 := fun W => assert_no 20 57 58 (.slice a l.length cap) _ _ Tryz.underlying57 rfl zLst (by decide) W
  have a5 := fun W => assert_yes 20 58 (.slice a l.length cap) _ Tryz.underlying58 rfl W
  unfold PutE
  clear hB hq hck hr hlen hP hP0
  go_enter Tryz.func23, Tryz.ntmps23
  go_wp2_with fail
  refine HL.out.mono ?_
  rintro e w1 ⟨rfl, rfl⟩
  go_wp2_with fail
  refine HW.out.mono ?_
  rintro e w2 ⟨rfl, hb1, hb2, hb3⟩
  have HB1 := Lib.hid hb1
  have HB2 := Lib.hid hb2
  have HB3 := Lib.hid hb3
  clear hb1 hb2 hb3
  go_wp2_with fail
  go_loopw [69] (fun z wr => ∃ (i : Nat) (oi dn : List Int), i ≤ l.length ∧ z = .int .i64 i ∧ Hid (Bd B oi wr) ∧ Hid (PutR out (123 :: dn) oi) ∧ Hid (dn ++ restJ true l i = P) ∧ Hid (Below B w1 wr) ∧ Hid (OK B w1 wr)) (fun z _ => l.length - (intOf z).toNat)
  case atStart => exact ⟨0, out ++ [123], [], Nat.zero_le _, rfl, HB1, Lib.hid (PutR.one (by simp)), Lib.hid HP0.out, HB2, HB3⟩
  case round =>
    obtain ⟨i, oi, dn, hi, rfl, HBD, HPR, HDN, HBL, HOK⟩ := hrel
    by_cases hlt : i < l.length
    · have hi2 : (i : Int) < (l.length : Int) := by omega
      obtain ⟨n, v, hat⟩ := Jl.lt_at l i hlt
      obtain ⟨g, off, y, t, rfl, hgB, hg, l0, hbt, hnl, l1, hav⟩ := RowP.at l 0 i n v HR.out hat
      rw [Nat.zero_add] at l0 l1
      replace l0 := (HBL.out.cell (p := ⟨g, off + i * 2, none⟩) hgB).trans l0
      replace l1 := (HBL.out.cell (p := ⟨g, off + i * 2 + 1, none⟩) hgB).trans l1
      have hst := restJ_step true l i n v hat
      simp only [if_true] at hst
      have hdn := HDN.out
      rw [hst] at hdn
      have hoi := HPR.out.1
      rw [List.length_append, List.length_cons] at hoi
      have hll := congrArg List.length hdn
      simp only [List.length_append, List.length_singleton] at hll
      have HC := Lib.hid (fun o2 W2 (hbd : Bd B o2 W2) (hbl : Below B w1 W2) hl2 => HK.out i n v hat (d + 1) B o2 W2 y (any_low hav hbl) hbd (HCK.out i n v hat).1 hl2 (HQ.out.below hbl))
      have HCN := Lib.hid (show 0 ≤ countP (bI t) by rw [hbt]; exact ((HCK.out i n v hat).2 trivial).1)
      have htl : t.size ≤ 5000 := by rw [← bI_len, hbt]; exact hnl
      unfold PutE at HC
      have HST := Lib.hid hdn
      have hyf := any_form hav
      obtain ⟨qn, hqn⟩ : ∃ qn, quoteS n = qn := ⟨_, rfl⟩
      have hbt : quoteS (bI t) = qn := by rw [hbt, hqn]
      rw [hqn] at HST hll
      generalize printV v = pv at HC HST hll
      clear hat hav hst hdn hqn
      rcases hyf with rfl | ⟨u, z, rfl⟩
      · obtain ⟨W0, HW0, hW0⟩ : ∃ W0, Hid (W0 = wr.alloc (.cells #[.string t, .nilIface] 56)) ∧ W0.heap[wr.heap.size]? = some (.cells #[.string t, .nilIface] 56 (0, 0)) := ⟨_, Lib.hid rfl, heap_new17 _ _⟩
        have hb0 : Bd B oi W0 := by rw [HW0.out]; exact HBD.out.alloc _
        have hl0 : Below B w1 W0 := by rw [HW0.out]; exact HBL.out.alloc (Nat.le_of_lt HBD.out.lt) _
        have hk0 : OK B w1 W0 := by rw [HW0.out]; exact Lib.OthersKept.alloc HOK.out _
        have hnB : wr.heap.size ≠ B := by have := HBD.out.lt; omega
        have HCM := Lib.hid (comma_any B oi i W0 hb0 (by omega))
        unfold PutE at HCM
        generalize (if i = 0 then ([] : List Int) else [44]) = cm at HCM HST hll
        have HL0 := Lib.hid hl0
        have HK0 := Lib.hid hk0
        have H00 := Lib.hid hW0
        clear hb0 hl0 hk0 hW0
        go_wp2_with fail
        rw [← HW0.out]
        refine HCM.out.mono ?_
        rintro e w3 ⟨rfl, ⟨o3, hb3, hp3⟩, hl3, hk3⟩
        have HB3' := Lib.hid hb3
        have HP3 := Lib.hid (PutR.trans HPR.out hp3)
        have HL3 := Lib.hid (HL0.out.trans hl3)
        have HK3 := Lib.hid (HK0.out.trans hk3)
        have H03 := Lib.hid (hk3.obj H00.out hnB (by decide))
        have ho3 := hp3.1
        rw [List.length_append] at ho3
        clear hb3 hp3 hl3 hk3 l0 l1
        have c3 : w3.cell? ⟨wr.heap.size, 0, none⟩ = some (.string t) := by simp [World.cell?, H03.out]
        have s3 : wr.heap.size < w3.heap.size := World.block_lt_of_cell? _ _ c3
        have HTX := Lib.hid (ptext_put B o3 t w3 HB3'.out HCN.out htl (by omega))
        unfold PutE at HTX
        rw [hbt] at HTX
        go_wp2_with fail
        refine HTX.out.mono ?_
        rintro e w4 ⟨rfl, ⟨o4, hb4, hp4⟩, hl4, hk4⟩
        have HB4 := Lib.hid hb4
        have HP4 := Lib.hid (PutR.trans HP3.out hp4)
        have HL4 := Lib.hid (HL3.out.trans hl4)
        have HK4 := Lib.hid (HK3.out.trans hk4)
        have H04 := Lib.hid (hk4.obj H03.out hnB (by decide))
        have ho4 := hp4.1
        rw [List.length_append] at ho4
        clear hb4 hp4 hl4 hk4 c3 s3
        have HCO := Lib.hid (wb_any B o4 58 w4 HB4.out (by omega))
        go_wp2_with fail
        refine HCO.out.mono ?_
        rintro e w5 ⟨rfl, hb5, hl5, hk5⟩
        have HB5 := Lib.hid hb5
        have HP5 := Lib.hid (PutR.trans HP4.out (PutR.one (out := o4) (add := [58]) (by simp)))
        have HL5 := Lib.hid (HL4.out.trans hl5)
        have HK5 := Lib.hid (HK4.out.trans hk5)
        have H05 := Lib.hid (Lib.OthersKept.refl _ _ _ |>.trans hk5 |> fun (h : OK B w4 w5) => h.obj H04.out hnB (by decide))
        clear hb5 hl5 hk5
        have c5 : w5.cell? ⟨wr.heap.size, 1, none⟩ = some (.nilIface) := by simp [World.cell?, H05.out]
        have s5 : wr.heap.size < w5.heap.size := World.block_lt_of_cell? _ _ c5
        go_wp2_with fail
        refine (HC.out (o4 ++ [58]) _ HB5.out HL5.out (by rw [List.length_append]; simp only [List.length_singleton]; omega)).mono ?_
        rintro e w6 ⟨rfl, ⟨o6, hb6, hp6⟩, hl6, hk6⟩
        have HB6 := Lib.hid hb6
        have HP6 := Lib.hid (PutR.trans HP5.out hp6)
        have HL6 := Lib.hid (HL5.out.trans hl6)
        have HK6 := Lib.hid (HK5.out.trans hk6)
        clear hb6 hp6 hl6 hk6 c5 s5
        go_wp2_with fail
        go_roundw
        case rel => exact ⟨i + 1, o6, dn ++ cm ++ qn ++ [58] ++ pv, by omega, by go_num, HB6, Lib.hid (by have := HP6.out; simpa using this), Lib.hid (by rw [← HST.out]; simp), HL6, HK6⟩
        case measure => simp [intOf]; omega
      · obtain ⟨W0, HW0, hW0⟩ : ∃ W0, Hid (W0 = wr.alloc (.cells #[.string t, .iface u z] 56)) ∧ W0.heap[wr.heap.size]? = some (.cells #[.string t, .iface u z] 56 (0, 0)) := ⟨_, Lib.hid rfl, heap_new17 _ _⟩
        have hb0 : Bd B oi W0 := by rw [HW0.out]; exact HBD.out.alloc _
        have hl0 : Below B w1 W0 := by rw [HW0.out]; exact HBL.out.alloc (Nat.le_of_lt HBD.out.lt) _
        have hk0 : OK B w1 W0 := by rw [HW0.out]; exact Lib.OthersKept.alloc HOK.out _
        have hnB : wr.heap.size ≠ B := by have := HBD.out.lt; omega
        have HCM := Lib.hid (comma_any B oi i W0 hb0 (by omega))
        unfold PutE at HCM
        generalize (if i = 0 then ([] : List Int) else [44]) = cm at HCM HST hll
        have HL0 := Lib.hid hl0
        have HK0 := Lib.hid hk0
        have H00 := Lib.hid hW0
        clear hb0 hl0 hk0 hW0
        go_wp2_with fail
        rw [← HW0.out]
        refine HCM.out.mono ?_
        rintro e w3 ⟨rfl, ⟨o3, hb3, hp3⟩, hl3, hk3⟩
        have HB3' := Lib.hid hb3
        have HP3 := Lib.hid (PutR.trans HPR.out hp3)
        have HL3 := Lib.hid (HL0.out.trans hl3)
        have HK3 := Lib.hid (HK0.out.trans hk3)
        have H03 := Lib.hid (hk3.obj H00.out hnB (by decide))
        have ho3 := hp3.1
        rw [List.length_append] at ho3
        clear hb3 hp3 hl3 hk3 l0 l1
        have c3 : w3.cell? ⟨wr.heap.size, 0, none⟩ = some (.string t) := by simp [World.cell?, H03.out]
        have s3 : wr.heap.size < w3.heap.size := World.block_lt_of_cell? _ _ c3
        have HTX := Lib.hid (ptext_put B o3 t w3 HB3'.out HCN.out htl (by omega))
        unfold PutE at HTX
        rw [hbt] at HTX
        go_wp2_with fail
        refine HTX.out.mono ?_
        rintro e w4 ⟨rfl, ⟨o4, hb4, hp4⟩, hl4, hk4⟩
        have HB4 := Lib.hid hb4
        have HP4 := Lib.hid (PutR.trans HP3.out hp4)
        have HL4 := Lib.hid (HL3.out.trans hl4)
        have HK4 := Lib.hid (HK3.out.trans hk4)
        have H04 := Lib.hid (hk4.obj H03.out hnB (by decide))
        have ho4 := hp4.1
        rw [List.length_append] at ho4
        clear hb4 hp4 hl4 hk4 c3 s3
        have HCO := Lib.hid (wb_any B o4 58 w4 HB4.out (by omega))
        go_wp2_with fail
        refine HCO.out.mono ?_
        rintro e w5 ⟨rfl, hb5, hl5, hk5⟩
        have HB5 := Lib.hid hb5
        have HP5 := Lib.hid (PutR.trans HP4.out (PutR.one (out := o4) (add := [58]) (by simp)))
        have HL5 := Lib.hid (HL4.out.trans hl5)
        have HK5 := Lib.hid (HK4.out.trans hk5)
        have H05 := Lib.hid (Lib.OthersKept.refl _ _ _ |>.trans hk5 |> fun (h : OK B w4 w5) => h.obj H04.out hnB (by decide))
        clear hb5 hl5 hk5
        have c5 : w5.cell? ⟨wr.heap.size, 1, none⟩ = some (.iface u z) := by simp [World.cell?, H05.out]
        have s5 : wr.heap.size < w5.heap.size := World.block_lt_of_cell? _ _ c5
        go_wp2_with fail
        refine (HC.out (o4 ++ [58]) _ HB5.out HL5.out (by rw [List.length_append]; simp only [List.length_singleton]; omega)).mono ?_
        rintro e w6 ⟨rfl, ⟨o6, hb6, hp6⟩, hl6, hk6⟩
        have HB6 := Lib.hid hb6
        have HP6 := Lib.hid (PutR.trans HP5.out hp6)
        have HL6 := Lib.hid (HL5.out.trans hl6)
        have HK6 := Lib.hid (HK5.out.trans hk6)
        clear hb6 hp6 hl6 hk6 c5 s5
        go_wp2_with fail
        go_roundw
        case rel => exact ⟨i + 1, o6, dn ++ cm ++ qn ++ [58] ++ pv, by omega, by go_num, HB6, Lib.hid (by have := HP6.out; simpa using this), Lib.hid (by rw [← HST.out]; simp), HL6, HK6⟩
        case measure => simp [intOf]; omega
    · obtain rfl : i = l.length := by omega
      have hdn := HDN.out
      rw [restJ_end, List.append_nil] at hdn
      subst hdn
      have hoi := HPR.out.1
      rw [List.length_append, List.length_cons] at hoi
      have HW2 := Lib.hid (wb_any B oi 125 wr HBD.out (by omega))
      clear hi hlt
      go_wp2_with fail
      refine HW2.out.mono ?_
      rintro e w3 ⟨rfl, hb1, hb2, hb3⟩
      have H1 := Lib.hid hb1
      have H2 := Lib.hid (HBL.out.trans hb2)
      have H3 := Lib.hid (HOK.out.trans hb3)
      clear hb1 hb2 hb3
      go_wp2_with fail
      exact bodyPost_end (v := .tuple #[]) (by simp [results, Tryz.results23, go_sem]) rfl ⟨rfl, ⟨_, H1.out, by have := PutR.trans HPR.out (PutR.one (out := oi) (add := [125]) (by simp)); simpa using this⟩, H2.out, H3.out⟩
theorem put_any17 : ∀ v : Js, PtOk v := Js.ind put_nul put_bool put_num put_str put_list put_obj put_bad
theorem pput_any (S : Nat → Prop) (v : Js) (x : Value) (w : World) (h : AnyAt S w v x) (hq : QTab w) (hl : chkV 1 v = 0 → (printV v).length ≤ 800000) :
    Calls Tryz.prog 9 #[x] w fun e w' => e = .returned (.tuple #[.string (str (putV v).1), .int .i64 (putV v).2]) ∧ Below w.heap.size w w' := by
  have HC := Lib.hid (fun W (hb : Below w.heap.size w W) => pcheck_any S v x W (h.below hb))
  have HV := Lib.hid (put_of v)
  have e0 : str [] = { data := #[] } := rfl
  by_cases hc : chkV 1 v ≠ 0
  · have hV : putV v = ([], chkV 1 v) := by rw [HV.out, if_pos hc]
    rw [hV]
    generalize chkV 1 v = c at HC hc
    have hcd : (c != 0) = true := by simpa using hc
    clear hV HV h
    simp only [e0]
    go_enter Tryz.func9, Tryz.ntmps9
    go_wp2_with fail
    refine (HC.out _ (by go_grown)).mono ?_
    rintro e w1 ⟨rfl, hb1⟩
    go_wp2_with fail
    go_ret2
    exact ⟨rfl, hb1⟩
  have hc := Decidable.not_not.1 hc
  have hlen := hl hc
  have HV2 : Hid (putV v = if 4096 < (printV v).length then ([], 5) else (printV v, 0)) := Lib.hid (by rw [HV.out, if_neg (by rw [hc]; simp)])
  have HP := Lib.hid (fun (W : World) (hb : Below w.heap.size w W) (hq : QTab W) => put_any17 v 1 W.heap.size [] (W.alloc (.cells #[.pointer none, .slice none 0 0] 62)) x
    (AnyAt.keep (S' := fun b => b < W.heap.size) (fun _ _ e => e) (by simp) (fun b _ e => heap_old17 e) v x (h.below hb)) (Bd.fresh W) hc (by simpa using (by omega : (printV v).length ≤ 900000)) ((hq.low W.heap.size (Nat.le_refl _)).below ((Below.refl _ W).alloc (Nat.le_refl _) _)))
  rw [hc] at HC
  generalize printV v = P at HP HV2 hlen
  generalize putV v = V at HV2 ⊢
  unfold PutE at HP
  have HQ := Lib.hid hq
  clear HV h hq hc hl
  go_enter Tryz.func9, Tryz.ntmps9
  go_wp2_with fail
  refine (HC.out _ (by go_grown)).mono ?_
  rintro e w1 ⟨rfl, hb1⟩
  have HB1 := Lib.hid hb1
  clear hb1
  go_wp2_with fail
  refine (HP.out w1 HB1.out (HQ.out.below HB1.out)).mono ?_
  rintro e w2 ⟨rfl, ⟨o, hbd, hpr⟩, hbl, _⟩
  have HB2 := Lib.hid (HB1.out.trans ((((Below.refl _ w1).alloc (Nat.le_refl _) _).trans hbl).mono HB1.out.size))
  have HBD := Lib.hid hbd
  obtain ⟨p1, p2, p3⟩ := hpr
  rw [List.nil_append] at p1 p3
  have HLN := Lib.hid (len_any w1.heap.size o w2 hbd)
  have HP2 := Lib.hid (p2 (by simp))
  have hlt := hbd.lt
  clear hbd hbl p2
  by_cases hm : 4096 < o.length
  · have e1 : decide (4096 < (o.length : Int)) = true := by simp; omega
    have e2 : (4096 : Int) < (o.length : Int) := by omega
    have hV : V = ([], 5) := by rw [HV2.out, if_pos (by omega)]
    subst hV
    clear p1 p3
    simp only [e0]
    go_wp2_with fail
    refine HLN.out.mono ?_
    rintro e w3 ⟨rfl, rfl⟩
    go_wp2_with fail
    go_ret2
    exact ⟨rfl, HB2.out⟩
  · have e1 : decide (4096 < (o.length : Int)) = false := by simp; omega
    have e2 : ¬ (4096 : Int) < (o.length : Int) := by omega
    have ho : o = P := by
      rcases p3 with h | h
      · exact h
      · omega
    subst ho
    have hV : V = (o, 0) := by rw [HV2.out, if_neg hm]
    subst hV
    have HS := Lib.hid (st_any w1.heap.size o w2 HBD.out HP2.out)
    clear p1 p3
    go_wp2_with fail
    refine HLN.out.mono ?_
    rintro e w3 ⟨rfl, rfl⟩
    go_wp2_with fail
    refine HS.out.mono ?_
    rintro e w4 ⟨rfl, hb4⟩
    have HB4 := Lib.hid (HB2.out.trans (hb4.mono HB1.out.size))
    clear hb4
    go_wp2_with fail
    go_ret2
    exact ⟨rfl, HB4.out⟩
end Go.Proofs.YtbkceneakdbdkaaGreatDoor
