/- slices.Chunk at entries: what it hands on. -/
import Derived.Test.YtbkodaijigcebaaNa
import Derived.Test.YtbkodaijigcebaaRn
namespace Go.Proofs.Ytbkodaijigcebaa
open Go.RowKit Go.Shelf
set_option maxRecDepth 20000
set_option linter.unusedVariables false
set_option linter.unusedSimpArgs false
attribute [local go_sem] Oper.semAt_some
theorem cut_lt (n : Nat) (hn : 1 ≤ n) : ∀ (k : Nat) (l : List En), k < (cutN n l).length ↔ k * n < l.length
  | 0, l => by
    cases l with
    | nil => simp [cutN_nil]
    | cons e l => rw [cutN_step n hn _ (by simp)]; simp
  | k + 1, l => by
    by_cases h : l = []
    · subst h; simp [cutN_nil]
    · rw [cutN_step n hn l h, List.length_cons, Nat.add_lt_add_iff_right, cut_lt n hn k (l.drop n), List.length_drop, Nat.succ_mul]
      omega
theorem cut_at (n : Nat) (hn : 1 ≤ n) : ∀ (k : Nat) (l : List En), k * n < l.length → (cutN n l)[k]? = some ((l.drop (k * n)).take n)
  | 0, l, h => by
    have h0 : l ≠ [] := by intro e; rw [e] at h; simp at h
    rw [cutN_step n hn l h0]; simp
  | k + 1, l, h => by
    have h0 : l ≠ [] := by intro e; rw [e] at h; simp at h
    rw [cutN_step n hn l h0, List.getElem?_cons_succ, cut_at n hn k (l.drop n) (by rw [List.length_drop]; rw [Nat.succ_mul] at h; omega), List.drop_drop, Nat.succ_mul, Nat.add_comm n]
/-- The k-th piece, as it is handed on. -/
def chV (g off len n k : Nat) : Value := .slice (some ⟨g, off + k * n * 4, none⟩) (min n (len - k * n)) (min n (len - k * n))
theorem chV_ens {W : World} {l : List En} {g off cap : Nat} (h : EnsAt W (.slice (some ⟨g, off, none⟩) l.length cap) l) (n k : Nat) (hk : k * n < l.length) : EnsAt W (chV g off l.length n k) ((l.drop (k * n)).take n) := by
  have h1 := h.dropS (k * n) (Nat.le_of_lt hk)
  rw [← List.length_drop] at h1
  have h2 := h1.takeS (min n (l.length - k * n)) (by rw [List.length_drop]; omega)
  have hl : ((l.drop (k * n)).take n).length = min n (l.length - k * n) := by rw [List.length_take, List.length_drop]
  have hm : (l.drop (k * n)).take (min n (l.length - k * n)) = (l.drop (k * n)).take n := by
    rw [List.take_eq_take_iff, List.length_drop]; omega
  rw [hm] at h2
  unfold chV
  generalize min n (l.length - k * n) = m at *
  obtain ⟨a, c, e, g1, g2, hc⟩ := h2
  injection e with e1 e2 e3
  subst e1
  exact ⟨_, _, by rw [hl], by rw [hl]; exact Nat.le_refl _, by rw [hl] at g1; omega, hc⟩
set_option maxHeartbeats 4000000 in
set_option maxRecDepth 100000 in
theorem chunk1_seq (l : List En) (g off cap n B0 B1 : Nat) (a : Option Addr) (w : World) (hn : 1 ≤ n ∧ n ≤ 9223372036854775807) (ha : l ≠ [] → a = some ⟨g, off, none⟩) (hcap : l.length ≤ cap) (hmx : cap ≤ maxLen) (hll : l.length ≤ 1000000)
    (h0 : w.cell? ⟨B0, 0, none⟩ = some (.slice a l.length cap)) (h1 : w.cell? ⟨B1, 0, none⟩ = some (.int .i64 n)) :
    SeqD Try.prog 55 #[.pointer (some ⟨B0, 0, none⟩), .pointer (some ⟨B1, 0, none⟩)] (fun k => #[chV g off l.length n k]) (cutN n l).length (fun _ => False) (fun b => b = B0 ∨ b = B1) (fun _ _ => True) (fun _ => True) w := by
  intro n0 lp J Jx S0 W hW hJ hJx hG hS0 hY hj0
  have hn0 : ¬ S0 B0 := fun h => (hS0 _ h).2 (.inl rfl)
  have hn1 : ¬ S0 B1 := fun h => (hS0 _ h).2 (.inr rfl)
  have g0 := ecell_later hW h0
  have g1 := ecell_later hW h1
  unfold maxLen at hmx
  have HJ := Lib.hid hJ
  have HG := Lib.hid hG
  have HY := Lib.hid hY
  have HN0 := Lib.hid hn0
  have HN1 := Lib.hid hn1
  have HA := Lib.hid ha
  have HG0 := Lib.hid g0
  have HG1 := Lib.hid g1
  have HLT := Lib.hid (fun k => cut_lt n hn.1 k l)
  have HCL : Hid ((cutN n l).length = (cutN n l).length) := Lib.hid rfl
  clear hJ hY hS0 hJx hn0 hn1 hG ha h0 h1
  refine callsIn_of_wp Try.func55 rfl trivial ?_ rfl
  simp only [Try.ntmps55, List.size_toArray, List.length_cons, List.length_nil, Nat.reduceAdd, Nat.reduceSub, Array.replicate_succ, Array.replicate_zero, List.push_toArray, List.append_toArray, List.nil_append, List.cons_append]
  clear g0 g1
  gi_wp2
  gi_loopw [4] (fun i wr => ∃ k q : Nat, Hid (q = k * n) ∧ i = .int .i64 (q : Int) ∧ Hid (k ≤ (cutN n l).length) ∧ ∃ S, Hid (J k S wr) ∧ Hid (KeepsS S0 S W wr)) (fun i _ => l.length - (intOf i).toNat)
  case atStart => exact ⟨0, 0, Lib.hid (by rw [Nat.zero_mul]), rfl, Lib.hid (Nat.zero_le _), S0, Lib.hid hj0, Lib.hid (.refl _ _)⟩
  case round =>
    obtain ⟨k, q, HQ, rfl, HKL, S, HJs, HK⟩ := hrel
    have c0 := HK.out.cell (p := ⟨B0, 0, none⟩) HN0.out HG0.out
    have c1 := HK.out.cell (p := ⟨B1, 0, none⟩) HN1.out HG1.out
    by_cases hlt : q < l.length
    · have hne : l ≠ [] := by rintro rfl; simp at hlt
      have ha := HA.out hne
      subst ha
      have hkl := (HLT.out k).2 (by rw [← HQ.out]; exact hlt)
      have HKN := Lib.hid hkl
      have hJd : J k S wr.drew := HJ.out.grow (s := (k, S)) HJs.out (Below.drew (Below.refl _ _))
      have HJD := Lib.hid hJd
      have HKD := Lib.hid (KeepsS.below S (Below.drew (Below.refl wr.heap.size wr)))
      have d0 := ecell_later (Below.drew (Below.refl wr.heap.size wr)) c0
      have d1 := ecell_later (Below.drew (Below.refl wr.heap.size wr)) c1
      have hq1 : (q : Int) < (l.length : Int) := by omega
      have hq2 : (q : Int) ≤ (l.length : Int) := by omega
      have hq3 : ¬ cap - q = 0 := by omega
      obtain ⟨m, hm⟩ : ∃ m : Nat, min n (l.length - q) = m := ⟨_, rfl⟩
      have hm2 : (if l.length - q < n then ((l.length - q : Nat) : Int) else (n : Int)) = (m : Int) := by split <;> omega
      have hm3 : m ≤ l.length - q := by omega
      have hm4 : 1 ≤ m := by omega
      have hw1 : IntKind.i64.wrap ((q : Int) + (m : Int)) = ((q + m : Nat) : Int) := by rw [IntKind.wrap_i64] <;> omega
      have hw2 : IntKind.i64.wrap ((q : Int) + (n : Int)) = ((q + n : Nat) : Int) := by
        have := HQ.out
        cases k with
        | zero => rw [IntKind.wrap_i64] <;> omega
        | succ k => rw [Nat.succ_mul] at this; rw [IntKind.wrap_i64] <;> omega
      have hv : chV g off l.length n k = .slice (some ⟨g, off + q * 4, none⟩) m m := by unfold chV; rw [← HQ.out, hm]
      obtain ⟨fn, tmps, assign, body, hy, hR⟩ := HY.out _ S _ HJD.out hkl
      rw [hv] at hy
      have HR := Lib.hid hR
      have HM := Lib.hid hm
      have HM2 := Lib.hid hm2
      clear hkl hJd hne hR hv hm hm2
      gi_wp2
      gi_region
      rw [HM2.out]
      gi_wp2
      refine ⟨noDepth, HR.out.mono ?_⟩
      rintro x W3 (⟨rfl, S3, hJ3, hk3⟩ | ⟨rfl, hJx3, _⟩)
      · have HJ3 := Lib.hid hJ3
        have HK3 := Lib.hid ((HK.out.trans HKD.out).trans hk3)
        have e1 := HK3.out.cell (p := ⟨B1, 0, none⟩) HN1.out HG1.out
        have HQ2 : Hid (q + n = (k + 1) * n) := Lib.hid (by rw [Nat.succ_mul, ← HQ.out])
        have hme : l.length - (q + n) < l.length - q := by omega
        clear hJ3 hk3 c0 c1 d0 d1 HK HKD HJD HJs hy HR HM HM2 HN0 HA
        gi_wp2
        go_roundw
        case rel => exact ⟨k + 1, q + n, HQ2, by first | rfl | (push_cast; rfl), Lib.hid HKN.out, S3, HJ3, HK3⟩
        case measure => simp [intOf]; omega
      · have HJ3 := Lib.hid hJx3
        clear hJx3 c0 c1 d0 d1 HK HKD HJD HJs hy HR HM HM2 HN0 HA
        gi_wp2
        refine bodyPost_ret (results_none rfl _ _ _) rfl ?_
        exact ⟨⟨_, rfl⟩, .inr ⟨k + 1, HKN.out, HJ3.out⟩⟩
    · have hq1 : ¬ (q : Int) < (l.length : Int) := by omega
      have HKE : Hid (k = (cutN n l).length) := Lib.hid (by
        have h1 := HKL.out
        have h2 := mt (HLT.out k).1 (by rw [← HQ.out]; exact hlt)
        omega)
      gi_wp2
      go_end0
      have hjz : J (cutN n l).length S wr := by rw [← HKE.out]; exact HJs.out
      first | exact ⟨⟨_, rfl⟩, .inl ⟨S, hjz, trivial⟩⟩ | exact ⟨⟨_, rfl⟩, .inl ⟨S, hjz⟩⟩
/-- slices.Chunk: two boxes, and the function over them. -/
theorem chunk_any (v : Value) (l : List En) (n : Nat) (w : World) (hv : EnsAt w v l) (hn : 1 ≤ n ∧ n ≤ 9223372036854775807) :
    Calls Try.prog 30 #[v, .int .i64 n] w fun e w' => e = .returned (.func (.func 55) #[] #[.pointer (some ⟨w.heap.size, 0, none⟩), .pointer (some ⟨w.heap.size + 1, 0, none⟩)]) ∧ w'.cell? ⟨w.heap.size, 0, none⟩ = some v ∧ w'.cell? ⟨w.heap.size + 1, 0, none⟩ = some (.int .i64 n) ∧ Below w.heap.size w w' := by
  obtain ⟨av, cv, rfl⟩ := ensAt_form hv
  clear hv
  have hn1 : ¬ (n : Int) < 1 := by omega
  have d1 : decide ((n : Int) < 1) = false := decide_eq_false hn1
  go_enter Try.func30, Try.ntmps30
  go_wp2_with fail
  go_ret
  exact ⟨rfl, by simp, by simp, by go_grown⟩
end Go.Proofs.Ytbkodaijigcebaa
