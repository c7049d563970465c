/- Plain: a header's bytes and the header of bytes, with their errors; that each tells the other; a byte that is another one; sections one behind the other. No Go in sight. -/
import Derived.Test.YtodjdeilaimjaaaHp
namespace Go.Proofs.Ytodjdeilaimjaaa
set_option linter.unusedVariables false
def mgH : List Int := [80, 77, 84, 105, 108, 101, 115]
def headH : List Int := [80, 77, 84, 105, 108, 101, 115, 3]
theorem headH_byts : Byts headH := by
  intro c hc
  simp only [headH, List.mem_cons, List.not_mem_nil, or_false] at hc
  omega
/-- The document's bytes of a header. -/
def bytsH (h : Hd) : List Int := headH ++ laysH widH (numsH h)
def encH (h : Hd) : List Int × Int := if ckH h = 0 then (bytsH h, 0) else ([], ckH h)
/-- The header that bytes tell. -/
def telH (l : List Int) : Hd := ofNums (takesH widH (l.drop 8))
def decH (l : List Int) : Hd × Int :=
  if l.length < 127 then (zeroH, 3) else
  if l.take 7 ≠ mgH then (zeroH, 12) else
  if l.getD 7 0 ≠ 3 then (zeroH, 13) else
  if 1 < l.getD 96 0 then (zeroH, 4) else
  if ckH (telH l) = 0 then (telH l, 0) else (zeroH, ckH (telH l))
theorem sumW_widH : sumW widH = 119 := rfl
theorem bytsH_len (h : Hd) (hm : MayH h) (hc : ckH h = 0) : (bytsH h).length = 127 := by
  rw [bytsH, List.length_append, laysH_len _ _ (nums_fit h hm hc), sumW_widH]; rfl
theorem bytsH_byts (h : Hd) : Byts (bytsH h) := by
  intro c hc
  rcases List.mem_append.1 hc with hc | hc
  · exact headH_byts c hc
  · exact laysH_byts _ _ c hc
theorem tel_byts (h : Hd) (r : List Int) (hm : MayH h) (hc : ckH h = 0) : telH (bytsH h ++ r) = h := by
  rw [telH, bytsH, List.append_assoc, List.drop_left' (by rfl), takes_lays _ _ _ (nums_fit h hm hc), of_nums h hc]
/-- The byte of Clustered. -/
theorem byts_cl (h : Hd) (r : List Int) : (bytsH h ++ r).getD 96 0 = cl01 h.cl := by
  have hcl : (cl01 h.cl) % 256 = cl01 h.cl := by unfold cl01; cases h.cl <;> rfl
  simp only [bytsH, headH, widH, numsH, laysH, leH, List.cons_append, List.nil_append, List.getD_cons_succ, List.getD_cons_zero, hcl]
/-- A header that may be is told by its bytes, whatever stands behind. -/
theorem dec_enc (h : Hd) (r : List Int) (hm : MayH h) (hc : ckH h = 0) : decH (bytsH h ++ r) = (h, 0) := by
  have hl := bytsH_len h hm hc
  have h7 : (bytsH h ++ r).take 7 = mgH := by simp only [bytsH, headH, mgH, List.cons_append, List.take_succ_cons, List.take_zero]
  have h3 : (bytsH h ++ r).getD 7 0 = 3 := by simp only [bytsH, headH, List.cons_append, List.getD_cons_succ, List.getD_cons_zero]
  have hcl : ¬ 1 < (bytsH h ++ r).getD 96 0 := by rw [byts_cl]; unfold cl01; cases h.cl <;> simp
  unfold decH
  rw [if_neg (by rw [List.length_append]; omega), if_neg (by rw [h7]; exact fun f => f rfl), if_neg (by rw [h3]; exact fun f => f rfl), if_neg hcl, tel_byts h r hm hc, if_pos hc]
/-- What bytes must be that tell a header. -/
theorem dec_ok (l : List Int) (y : Hd) (h : decH l = (y, 0)) : 127 ≤ l.length ∧ l.take 7 = mgH ∧ l.getD 7 0 = 3 ∧ l.getD 96 0 ≤ 1 ∧ y = telH l ∧ ckH y = 0 := by
  unfold decH at h
  split at h
  · simp at h
  split at h
  · simp at h
  split at h
  · simp at h
  split at h
  · simp at h
  split at h
  · obtain ⟨e, -⟩ := Prod.mk.injEq .. ▸ h
    subst e
    refine ⟨by omega, ?_, ?_, by omega, rfl, by assumption⟩
    · rename_i h1 _ _ _; exact Classical.not_not.1 h1
    · rename_i h1 _ _; exact Classical.not_not.1 h1
  · obtain ⟨-, e⟩ := Prod.mk.injEq .. ▸ h
    contradiction
/-- Numbers that fit are a header's own. -/
theorem nums_of (xs : List Int) (h : FitsH widH xs) (hcl : xs.getD 11 0 ≤ 1) : numsH (ofNums xs) = xs := by
  rcases xs with _ | ⟨x0, xs⟩
  · exact h.elim
  obtain ⟨h0, h⟩ := h
  rcases xs with _ | ⟨x1, xs⟩
  · exact h.elim
  obtain ⟨h1, h⟩ := h
  rcases xs with _ | ⟨x2, xs⟩
  · exact h.elim
  obtain ⟨h2, h⟩ := h
  rcases xs with _ | ⟨x3, xs⟩
  · exact h.elim
  obtain ⟨h3, h⟩ := h
  rcases xs with _ | ⟨x4, xs⟩
  · exact h.elim
  obtain ⟨h4, h⟩ := h
  rcases xs with _ | ⟨x5, xs⟩
  · exact h.elim
  obtain ⟨h5, h⟩ := h
  rcases xs with _ | ⟨x6, xs⟩
  · exact h.elim
  obtain ⟨h6, h⟩ := h
  rcases xs with _ | ⟨x7, xs⟩
  · exact h.elim
  obtain ⟨h7, h⟩ := h
  rcases xs with _ | ⟨x8, xs⟩
  · exact h.elim
  obtain ⟨h8, h⟩ := h
  rcases xs with _ | ⟨x9, xs⟩
  · exact h.elim
  obtain ⟨h9, h⟩ := h
  rcases xs with _ | ⟨x10, xs⟩
  · exact h.elim
  obtain ⟨h10, h⟩ := h
  rcases xs with _ | ⟨x11, xs⟩
  · exact h.elim
  obtain ⟨h11, h⟩ := h
  rcases xs with _ | ⟨x12, xs⟩
  · exact h.elim
  obtain ⟨h12, h⟩ := h
  rcases xs with _ | ⟨x13, xs⟩
  · exact h.elim
  obtain ⟨h13, h⟩ := h
  rcases xs with _ | ⟨x14, xs⟩
  · exact h.elim
  obtain ⟨h14, h⟩ := h
  rcases xs with _ | ⟨x15, xs⟩
  · exact h.elim
  obtain ⟨h15, h⟩ := h
  rcases xs with _ | ⟨x16, xs⟩
  · exact h.elim
  obtain ⟨h16, h⟩ := h
  rcases xs with _ | ⟨x17, xs⟩
  · exact h.elim
  obtain ⟨h17, h⟩ := h
  rcases xs with _ | ⟨x18, xs⟩
  · exact h.elim
  obtain ⟨h18, h⟩ := h
  rcases xs with _ | ⟨x19, xs⟩
  · exact h.elim
  obtain ⟨h19, h⟩ := h
  rcases xs with _ | ⟨x20, xs⟩
  · exact h.elim
  obtain ⟨h20, h⟩ := h
  rcases xs with _ | ⟨x21, xs⟩
  · exact h.elim
  obtain ⟨h21, h⟩ := h
  rcases xs with _ | ⟨x22, xs⟩
  · exact h.elim
  obtain ⟨h22, h⟩ := h
  rcases xs with _ | ⟨x23, xs⟩
  · exact h.elim
  obtain ⟨h23, h⟩ := h
  rcases xs with _ | ⟨y, xs⟩
  · simp only [List.getD_cons_zero, List.getD_cons_succ] at hcl
    simp only [p256_8, p256_4, p256_1] at h0 h1 h2 h3 h4 h5 h6 h7 h8 h9 h10 h11 h12 h13 h14 h15 h16 h17 h18 h19 h20 h21 h22 h23
    have e : cl01 (x11 == 1) = x11 := by
      rcases (by omega : x11 = 0 ∨ x11 = 1) with rfl | rfl <;> rfl
    simp only [numsH, ofNums, List.getD_cons_zero, List.getD_cons_succ, e, unsg_sg x17 h17.1 h17.2, unsg_sg x18 h18.1 h18.2, unsg_sg x19 h19.1 h19.2, unsg_sg x20 h20.1 h20.2, unsg_sg x22 h22.1 h22.2, unsg_sg x23 h23.1 h23.2]
  · exact h.elim
/-- What the numbers that fit tell may be. -/
theorem may_of (xs : List Int) (h : FitsH widH xs) : MayH (ofNums xs) := by
  rcases xs with _ | ⟨x0, xs⟩
  · exact h.elim
  obtain ⟨h0, h⟩ := h
  rcases xs with _ | ⟨x1, xs⟩
  · exact h.elim
  obtain ⟨h1, h⟩ := h
  rcases xs with _ | ⟨x2, xs⟩
  · exact h.elim
  obtain ⟨h2, h⟩ := h
  rcases xs with _ | ⟨x3, xs⟩
  · exact h.elim
  obtain ⟨h3, h⟩ := h
  rcases xs with _ | ⟨x4, xs⟩
  · exact h.elim
  obtain ⟨h4, h⟩ := h
  rcases xs with _ | ⟨x5, xs⟩
  · exact h.elim
  obtain ⟨h5, h⟩ := h
  rcases xs with _ | ⟨x6, xs⟩
  · exact h.elim
  obtain ⟨h6, h⟩ := h
  rcases xs with _ | ⟨x7, xs⟩
  · exact h.elim
  obtain ⟨h7, h⟩ := h
  rcases xs with _ | ⟨x8, xs⟩
  · exact h.elim
  obtain ⟨h8, h⟩ := h
  rcases xs with _ | ⟨x9, xs⟩
  · exact h.elim
  obtain ⟨h9, h⟩ := h
  rcases xs with _ | ⟨x10, xs⟩
  · exact h.elim
  obtain ⟨h10, h⟩ := h
  rcases xs with _ | ⟨x11, xs⟩
  · exact h.elim
  obtain ⟨h11, h⟩ := h
  rcases xs with _ | ⟨x12, xs⟩
  · exact h.elim
  obtain ⟨h12, h⟩ := h
  rcases xs with _ | ⟨x13, xs⟩
  · exact h.elim
  obtain ⟨h13, h⟩ := h
  rcases xs with _ | ⟨x14, xs⟩
  · exact h.elim
  obtain ⟨h14, h⟩ := h
  rcases xs with _ | ⟨x15, xs⟩
  · exact h.elim
  obtain ⟨h15, h⟩ := h
  rcases xs with _ | ⟨x16, xs⟩
  · exact h.elim
  obtain ⟨h16, h⟩ := h
  rcases xs with _ | ⟨x17, xs⟩
  · exact h.elim
  obtain ⟨h17, h⟩ := h
  rcases xs with _ | ⟨x18, xs⟩
  · exact h.elim
  obtain ⟨h18, h⟩ := h
  rcases xs with _ | ⟨x19, xs⟩
  · exact h.elim
  obtain ⟨h19, h⟩ := h
  rcases xs with _ | ⟨x20, xs⟩
  · exact h.elim
  obtain ⟨h20, h⟩ := h
  rcases xs with _ | ⟨x21, xs⟩
  · exact h.elim
  obtain ⟨h21, h⟩ := h
  rcases xs with _ | ⟨x22, xs⟩
  · exact h.elim
  obtain ⟨h22, h⟩ := h
  rcases xs with _ | ⟨x23, xs⟩
  · exact h.elim
  obtain ⟨h23, h⟩ := h
  simp only [p256_8, p256_4, p256_1] at h0 h1 h2 h3 h4 h5 h6 h7 h8 h9 h10 h11 h12 h13 h14 h15 h16 h17 h18 h19 h20 h21 h22 h23
  simp only [MayH, U64, U8, ofNums, List.getD_cons_zero, List.getD_cons_succ]
  omega
theorem num_one (l : List Int) (n : Nat) : numH ((l.drop n).take 1) = l.getD n 0 := by
  induction n generalizing l with
  | zero =>
    cases l with
    | nil => rfl
    | cons c l => simp [numH]
  | succ n ih =>
    cases l with
    | nil => simp [numH]
    | cons c l => rw [List.drop_succ_cons, ih, List.getD_cons_succ]
theorem takes_cl (l : List Int) : (takesH widH (l.drop 8)).getD 11 0 = l.getD 96 0 := by
  simp only [widH, takesH, List.getD_cons_succ, List.getD_cons_zero, List.drop_drop, num_one]
/-- The first eight bytes. -/
theorem take8 (l : List Int) (h : l.take 7 = mgH) (h3 : l.getD 7 0 = 3) : l.take 8 = headH := by
  rcases l with _ | ⟨a0, l⟩
  · simp [mgH] at h
  rcases l with _ | ⟨a1, l⟩
  · simp [mgH] at h h3
  rcases l with _ | ⟨a2, l⟩
  · simp [mgH] at h h3
  rcases l with _ | ⟨a3, l⟩
  · simp [mgH] at h h3
  rcases l with _ | ⟨a4, l⟩
  · simp [mgH] at h h3
  rcases l with _ | ⟨a5, l⟩
  · simp [mgH] at h h3
  rcases l with _ | ⟨a6, l⟩
  · simp [mgH] at h h3
  rcases l with _ | ⟨a7, l⟩
  · simp [mgH] at h h3
  simp only [List.take_succ_cons, List.take_zero, mgH, List.cons.injEq, and_true] at h
  simp only [List.getD_cons_zero, List.getD_cons_succ] at h3
  obtain ⟨rfl, rfl, rfl, rfl, rfl, rfl, rfl⟩ := h
  subst h3
  rfl
/-- Bytes that tell a header begin with its own, and it may be. -/
theorem enc_dec (l : List Int) (y : Hd) (hl : Byts l) (h : decH l = (y, 0)) : MayH y ∧ ckH y = 0 ∧ bytsH y = l.take 127 := by
  obtain ⟨h1, h2, h3, h4, rfl, h6⟩ := dec_ok l y h
  have hd : Byts (l.drop 8) := fun c hc => hl c (List.mem_of_mem_drop hc)
  have hs : sumW widH ≤ (l.drop 8).length := by rw [List.length_drop, sumW_widH]; omega
  have hf := takes_fit widH _ hd hs
  have hc : (takesH widH (l.drop 8)).getD 11 0 ≤ 1 := by rw [takes_cl]; exact h4
  refine ⟨may_of _ hf, h6, ?_⟩
  rw [bytsH, telH, nums_of _ hf hc, lays_takes _ _ hd hs, sumW_widH, ← take8 l h2 h3, ← List.take_add]
/-- A byte that is another one: another header, or none. -/
theorem dec_bit (h : Hd) (l : List Int) (hm : MayH h) (hc : ckH h = 0) (hl : Byts l) (hn : l.length = 127) (ne : l ≠ bytsH h) : decH l ≠ (h, 0) := by
  intro e
  obtain ⟨-, -, e2⟩ := enc_dec l h hl e
  rw [List.take_of_length_le (by omega)] at e2
  exact ne e2.symm
/-- Another one of the first eight: none. -/
theorem dec_magic (l : List Int) (y : Hd) (hl : Byts l) (ne : l.take 8 ≠ headH) : decH l ≠ (y, 0) := by
  intro e
  obtain ⟨h1, h2, h3, -⟩ := dec_ok l y e
  exact ne (take8 l h2 h3)
/-- Whether sections stand one behind the other. -/
def laidB (h : Hd) (n : Int) : Int :=
  if ckH h ≠ 0 then ckH h else
  if h.rf < 127 then 10 else
  if h.mf < h.rf + h.rl then 10 else
  if h.lf < h.mf + h.ml then 10 else
  if h.df < h.lf + h.ll then 10 else
  if n < h.df + h.dl then 8 else 0
theorem laid_ok (h : Hd) (n : Int) (e : laidB h n = 0) : ckH h = 0 ∧ 127 ≤ h.rf ∧ h.rf + h.rl ≤ h.mf ∧ h.mf + h.ml ≤ h.lf ∧ h.lf + h.ll ≤ h.df ∧ h.df + h.dl ≤ n := by
  unfold laidB at e
  split at e
  · contradiction
  · split at e
    · omega
    split at e
    · omega
    split at e
    · omega
    split at e
    · omega
    split at e
    · omega
    rename_i h0 _ _ _ _ _
    exact ⟨Classical.not_not.1 h0, by omega, by omega, by omega, by omega, by omega⟩
theorem laid_more (h : Hd) (n m : Int) (e : laidB h n = 0) (hm : n ≤ m) : laidB h m = 0 := by
  obtain ⟨h0, h1, h2, h3, h4, h5⟩ := laid_ok h n e
  unfold laidB
  rw [if_neg (fun f => f h0), if_neg (by omega), if_neg (by omega), if_neg (by omega), if_neg (by omega), if_neg (by omega)]
end Go.Proofs.Ytodjdeilaimjaaa
