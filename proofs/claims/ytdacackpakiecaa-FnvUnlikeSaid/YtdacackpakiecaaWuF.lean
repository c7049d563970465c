/- The walk of FnvUnlike. -/
import Derived.Test.YtdacackpakiecaaFd
import Derived.Laws.IdiomStrings
namespace Go.Proofs.Ytdacackpakiecaa
open Go.RowKit
set_option linter.unusedVariables false
set_option linter.unusedSimpArgs false
theorem wrap_u8' (n : Int) : IntKind.u8.wrap n = n % 256 := by simp [IntKind.wrap, IntKind.bits, IntKind.signed]
theorem bits_xor_u8_nat (a b : Nat) (ha : a < 256) (hb : b < 256) : bits .xor .u8 (a : Int) (b : Int) = ((a ^^^ b : Nat) : Int) := by
  have hx : a ^^^ b < 2 ^ 8 := Nat.xor_lt_two_pow (by omega) (by omega)
  have h1 : (BitVec.ofInt 8 (a : Int)).toNat = a := by
    rw [BitVec.ofInt_natCast, BitVec.toNat_ofNat]; exact Nat.mod_eq_of_lt (by omega)
  have h2 : (BitVec.ofInt 8 (b : Int)).toNat = b := by
    rw [BitVec.ofInt_natCast, BitVec.toNat_ofNat]; exact Nat.mod_eq_of_lt (by omega)
  show IntKind.u8.wrap ((BitVec.ofInt 8 (a : Int) ^^^ BitVec.ofInt 8 (b : Int)).toNat : Int) = _
  rw [BitVec.toNat_xor, h1, h2, wrap_u8']
  omega
/-- A byte by which a number that is not 0 is put another one. -/
theorem byte_turned (c : UInt8) (b : Nat) (h0 : b ≠ 0) (hb : b < 256) : ∃ d : UInt8, d ≠ c ∧ bits .xor .u8 (c.toNat : Int) (b : Int) = (d.toNat : Int) := by
  have hc : c.toNat < 256 := c.toNat_lt
  have hx : c.toNat ^^^ b < 256 := by
    have := Nat.xor_lt_two_pow (n := 8) (x := c.toNat) (y := b) (by omega) (by omega)
    omega
  have hn : (UInt8.ofNat (c.toNat ^^^ b)).toNat = c.toNat ^^^ b := by
    rw [UInt8.toNat_ofNat']
    exact Nat.mod_eq_of_lt (by omega)
  refine ⟨UInt8.ofNat (c.toNat ^^^ b), ?_, ?_⟩
  · intro he
    have := congrArg UInt8.toNat he
    rw [hn] at this
    have h := xor_back' c.toNat b
    rw [this, Nat.xor_self] at h
    exact h0 h.symm
  · rw [bits_xor_u8_nat _ _ hc hb, hn]
/-- '[]byte(s)': a row of one's own, with the text's bytes. -/
theorem bytes_made (w : World) (s : ByteArray) : ∃ (cp : Nat) (w2 : World), (convert 9 29 (.string s)).run Try.prog w = .ok (.slice (some ⟨w.heap.size, 0, none⟩) s.size cp) w2 ∧
    (∀ j (hj : j < s.size), w2.cell? ⟨w.heap.size, j, none⟩ = some (.int .u8 ((s[j]'hj).toNat : Int)) ∧ w2.frozen? ⟨w.heap.size, j, none⟩ = false) ∧ Below w.heap.size w w2 ∧ w2.heap.size = w.heap.size + 1 := by
  refine ⟨_, _, run_bytes_of_string w 9 29 5 s Try.underlying9 Try.underlying29 Try.underlying5, ?_, ?_, ?_⟩
  · intro j hj
    have hg := grownCap_ge w s.size 0 5
    have hz : s.size ≤ (bytesRow s (grownCap w s.size 0 5)).size := by unfold bytesRow; simp
    have hc := World.cell?_alloc_mark w.drew (bytesRow s (grownCap w s.size 0 5)) 5 ((bytesRow s (grownCap w s.size 0 5)).size, (bytesRow s (grownCap w s.size 0 5)).size + 1) j
    have hf := World.frozen?_alloc_mark w.drew (bytesRow s (grownCap w s.size 0 5)) 5 (bytesRow s (grownCap w s.size 0 5)).size ((bytesRow s (grownCap w s.size 0 5)).size + 1) j
    refine ⟨hc.trans (bytesRow_at s _ j hj), hf.trans ?_⟩
    rw [decide_eq_false (by omega)]
    rfl
  · exact Below.alloc (Below.drew (Below.refl _ _)) (Nat.le_refl _) _
  · exact World.size_alloc _ _
/-- 'string(b)', behind a byte that was put. -/
theorem bytes_back (w w2 : World) (g cp : Nat) (s : ByteArray) (k : Nat) (d : UInt8) (hk : k < s.size) (hc : ∀ j (hj : j < s.size), w2.cell? ⟨g, j, none⟩ = some (.int .u8 ((s[j]'hj).toNat : Int))) :
    (convert 29 9 (.slice (some ⟨g, 0, none⟩) s.size cp)).run Try.prog (w2.setCell ⟨g, k, none⟩ (.int .u8 (d.toNat : Int))) = .ok (.string ⟨(s.data.toList.set k d).toArray⟩) (w2.setCell ⟨g, k, none⟩ (.int .u8 (d.toNat : Int))) := by
  have hl : (s.data.toList.set k d).length = s.size := by simp
  have h := run_convert_bytes_back (P := Try.prog) (w2.setCell ⟨g, k, none⟩ (.int .u8 (d.toNat : Int))) 29 9 5 ⟨g, 0, none⟩ cp (s.data.toList.set k d) Try.underlying29 Try.underlying5 Try.underlying9 (by
    intro j hj
    rw [hl] at hj
    have e : (⟨g, 0, none⟩ : Addr).add j = ⟨g, j, none⟩ := by simp [Addr.add]; omega
    rw [e]
    by_cases hjk : k = j
    · subst hjk
      rw [World.cell?_setCell_same (h := hc k hk)]
      simp
    · rw [World.cell?_setCell_other (h := (by intro h; exact hjk (by injection h))), hc j hj]
      rw [List.getElem_set_ne hjk]
      simp only [Array.getElem_toList]
      rfl)
  rw [hl] at h
  exact h
theorem sum_turned (s : ByteArray) (k : Nat) (hk : k < s.size) (d : UInt8) (hd : d ≠ s[k]) : sumF fSt (s.data.toList.set k d) ≠ sumF fSt s.data.toList := by
  have hk' : k < s.data.toList.length := by simpa using hk
  have e1 : s.data.toList = s.data.toList.take k ++ s[k] :: s.data.toList.drop (k + 1) := by
    have h := List.drop_eq_getElem_cons hk'
    have h2 := (List.take_append_drop k s.data.toList).symm
    rw [h] at h2
    exact h2
  have e2 : s.data.toList.set k d = s.data.toList.take k ++ d :: s.data.toList.drop (k + 1) := by
    rw [List.set_eq_take_append_cons_drop, if_pos hk']
  have h := sumF_unlike (s.data.toList.take k) (s.data.toList.drop (k + 1)) d s[k] hd
  rw [← e1, ← e2] at h
  exact h
set_option maxHeartbeats 1000000 in
theorem fnvunlike_law (s : ByteArray) (n y : Int) (w : World) (hs : s.size ≤ maxLen) (n0 : -9223372036854775808 ≤ n) (n1 : n ≤ 9223372036854775807) (y0 : 0 ≤ y) (y1 : y ≤ 255) :
    Calls Try.prog 5 #[.string s, .int .i64 n, .int .u8 y] w fun e w' => e = .returned (.bool true) ∧ Below w.heap.size w w' := by
  have HK := Lib.hid awake_any
  have hs0 := hs
  unfold maxLen at hs
  by_cases h0 : 500 < s.size ∨ n < 0 ∨ (s.size : Int) ≤ n ∨ y = 0
  · have h0' : (500 < s.size) ∨ (¬ 500 < s.size ∧ n < 0) ∨ (¬ 500 < s.size ∧ ¬ n < 0 ∧ (s.size : Int) ≤ n) ∨ (¬ 500 < s.size ∧ ¬ n < 0 ∧ ¬ (s.size : Int) ≤ n ∧ y = 0) := by omega
    clear h0
    rcases h0' with h1 | ⟨h1, h2⟩ | ⟨h1, h2, h3⟩ | ⟨h1, h2, h3, rfl⟩
    all_goals
      go_enter Try.func5, Try.ntmps5
      go_wp2_with fail
      refine (HK.out _).mono ?_
      rintro y w1 ⟨rfl, hb⟩
      have HB := Lib.hid hb
      clear hb
      go_wp2_with fail
      go_ret
      exact ⟨rfl, HB.out⟩
  · obtain ⟨h1, h2, h3, h4⟩ : ¬ 500 < s.size ∧ ¬ n < 0 ∧ ¬ (s.size : Int) ≤ n ∧ ¬ y = 0 := by omega
    clear h0
    have hd5 : decide (500 < (s.size : Int)) = false := decide_eq_false (by omega)
    obtain ⟨k, rfl⟩ : ∃ k : Nat, n = k := ⟨n.toNat, by omega⟩
    obtain ⟨b, rfl⟩ : ∃ b : Nat, y = b := ⟨y.toNat, by omega⟩
    have hk : k < s.size := by omega
    obtain ⟨d, hd, hbit⟩ := byte_turned s[k] b (by omega) (by omega)
    have HT := Lib.hid (sum_turned s k hk d hd)
    obtain ⟨cp, w2, hrun, hc, hb2, hz2⟩ := bytes_made w s
    have hback := bytes_back w w2 w.heap.size cp s k d hk (fun j hj => (hc j hj).1)
    obtain ⟨hck, hfk⟩ := hc k hk
    have HB2 := Lib.hid (hb2.setCell (p := ⟨w.heap.size, k, none⟩) (Nat.le_refl _) (.int .u8 (d.toNat : Int)))
    have HS := Lib.hid (fun W => sum_any s hs0 W)
    have HU := Lib.hid (fun W => sum_any ⟨(s.data.toList.set k d).toArray⟩ (by
      have : (⟨(s.data.toList.set k d).toArray⟩ : ByteArray).size = s.size := by
        show (s.data.toList.set k d).toArray.size = s.size
        simp
      rw [this]; exact hs0) W)
    clear hc hb2 hd
    have hne := HT.out
    have HX : Hid (∀ (W : World), Calls Try.prog 8 #[.string ⟨(s.data.toList.set k d).toArray⟩] W fun e w' => e = .returned (.int .u64 ((sumF fSt (s.data.toList.set k d) : Nat) : Int)) ∧ Below W.heap.size W w') := HU
    clear HU HT
    generalize sumF fSt (s.data.toList.set k d) = p at *
    generalize sumF fSt s.data.toList = q at *
    have hnq : ((p : Int) != (q : Int)) = true := by simp; omega
    clear hne
    go_enter Try.func5, Try.ntmps5
    go_wp2_with fail
    refine (HX.out _).mono ?_
    rintro y w3 ⟨rfl, hb⟩
    have H3 := Lib.hid (HB2.out.trans (hb.mono HB2.out.size))
    clear hb HB2
    go_wp2_with fail
    refine (HS.out _).mono ?_
    rintro y w4 ⟨rfl, hb⟩
    have H4 := Lib.hid (H3.out.trans (hb.mono H3.out.size))
    clear hb H3
    go_wp2_with fail
    refine (HK.out _).mono ?_
    rintro y w5 ⟨rfl, hb⟩
    have H5 := Lib.hid (H4.out.trans (hb.mono H4.out.size))
    clear hb H4
    go_wp2_with fail
    go_ret
    exact ⟨rfl, H5.out⟩
end Go.Proofs.Ytdacackpakiecaa
