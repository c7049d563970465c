/- Plain: numbers as bytes, the least one first; many numbers of known widths laid behind one another and taken again; a header's 24 numbers, its bytes, what bytes tell; that each tells the other. No Go in sight. -/
import Derived.IntWalk
namespace Go.Proofs.Ytodjdeilaimjaaa
set_option linter.unusedVariables false
/-- The lowest n bytes of x, the least one first, and what bytes tell. -/
def leH : Nat → Int → List Int
  | 0, _ => []
  | n + 1, x => x % 256 :: leH n (x / 256)
def numH : List Int → Int
  | [] => 0
  | c :: l => c + 256 * numH l
def p256 : Nat → Int
  | 0 => 1
  | n + 1 => 256 * p256 n
theorem p256_pos (n : Nat) : 1 ≤ p256 n := by
  induction n with
  | zero => simp [p256]
  | succ n ih => simp only [p256]; omega
/-- Bytes alone. -/
def Byts (l : List Int) : Prop := ∀ c ∈ l, 0 ≤ c ∧ c < 256
theorem leH_len (n : Nat) (x : Int) : (leH n x).length = n := by
  induction n generalizing x with
  | zero => rfl
  | succ n ih => simp [leH, ih]
theorem leH_byts (n : Nat) (x : Int) : Byts (leH n x) := by
  induction n generalizing x with
  | zero => intro c hc; simp [leH] at hc
  | succ n ih =>
    intro c hc
    rcases List.mem_cons.1 hc with rfl | hc
    · omega
    · exact ih _ c hc
theorem num_leH (n : Nat) (x : Int) (h0 : 0 ≤ x) (h1 : x < p256 n) : numH (leH n x) = x := by
  induction n generalizing x with
  | zero => simp only [p256] at h1; simp only [leH, numH]; omega
  | succ n ih =>
    simp only [p256] at h1
    have hp := p256_pos n
    rw [leH, numH, ih (x / 256) (by omega) (by omega)]
    omega
theorem numH_bd (l : List Int) (h : Byts l) : 0 ≤ numH l ∧ numH l < p256 l.length := by
  induction l with
  | nil => simp [numH, p256]
  | cons c l ih =>
    have hc := h c List.mem_cons_self
    have := ih (fun d hd => h d (List.mem_cons_of_mem _ hd))
    simp only [numH, List.length_cons, p256]
    omega
theorem leH_num (l : List Int) (h : Byts l) : leH l.length (numH l) = l := by
  induction l with
  | nil => rfl
  | cons c l ih =>
    have hc := h c List.mem_cons_self
    have hl : Byts l := fun d hd => h d (List.mem_cons_of_mem _ hd)
    have hb := numH_bd l hl
    rw [List.length_cons, numH, leH, show (c + 256 * numH l) % 256 = c from by omega, show (c + 256 * numH l) / 256 = numH l from by omega, ih hl]
/-- Many numbers, each in so many bytes. -/
def laysH : List Nat → List Int → List Int
  | w :: ws, x :: xs => leH w x ++ laysH ws xs
  | _, _ => []
def takesH : List Nat → List Int → List Int
  | [], _ => []
  | w :: ws, l => numH (l.take w) :: takesH ws (l.drop w)
def sumW : List Nat → Nat
  | [] => 0
  | w :: ws => w + sumW ws
/-- Each within its bytes. -/
def FitsH : List Nat → List Int → Prop
  | [], [] => True
  | w :: ws, x :: xs => (0 ≤ x ∧ x < p256 w) ∧ FitsH ws xs
  | _, _ => False
theorem laysH_len (ws : List Nat) (xs : List Int) (h : FitsH ws xs) : (laysH ws xs).length = sumW ws := by
  induction ws generalizing xs with
  | nil => cases xs <;> rfl
  | cons w ws ih =>
    cases xs with
    | nil => exact h.elim
    | cons x xs => rw [laysH, List.length_append, leH_len, ih xs h.2, sumW]
theorem laysH_byts (ws : List Nat) (xs : List Int) : Byts (laysH ws xs) := by
  induction ws generalizing xs with
  | nil => intro c hc; simp [laysH] at hc
  | cons w ws ih =>
    cases xs with
    | nil => intro c hc; simp [laysH] at hc
    | cons x xs =>
      intro c hc
      rcases List.mem_append.1 hc with hc | hc
      · exact leH_byts w x c hc
      · exact ih xs c hc
theorem takes_lays (ws : List Nat) (xs r : List Int) (h : FitsH ws xs) : takesH ws (laysH ws xs ++ r) = xs := by
  induction ws generalizing xs with
  | nil =>
    cases xs with
    | nil => rfl
    | cons x xs => exact h.elim
  | cons w ws ih =>
    cases xs with
    | nil => exact h.elim
    | cons x xs =>
      have hl := leH_len w x
      rw [laysH, takesH, List.append_assoc, List.take_left' hl, List.drop_left' hl, num_leH w x h.1.1 h.1.2, ih xs h.2]
theorem takes_fit (ws : List Nat) (l : List Int) (hl : Byts l) (h : sumW ws ≤ l.length) : FitsH ws (takesH ws l) := by
  induction ws generalizing l with
  | nil => exact trivial
  | cons w ws ih =>
    simp only [sumW] at h
    have hb := numH_bd (l.take w) (fun c hc => hl c (List.mem_of_mem_take hc))
    rw [List.length_take, Nat.min_eq_left (by omega)] at hb
    exact ⟨hb, ih (l.drop w) (fun c hc => hl c (List.mem_of_mem_drop hc)) (by rw [List.length_drop]; omega)⟩
theorem lays_takes (ws : List Nat) (l : List Int) (hl : Byts l) (h : sumW ws ≤ l.length) : laysH ws (takesH ws l) = l.take (sumW ws) := by
  induction ws generalizing l with
  | nil => simp [laysH, sumW]
  | cons w ws ih =>
    simp only [sumW] at h
    have hw : (l.take w).length = w := by rw [List.length_take]; omega
    have e := leH_num (l.take w) (fun c hc => hl c (List.mem_of_mem_take hc))
    rw [hw] at e
    rw [takesH, laysH, e, ih (l.drop w) (fun c hc => hl c (List.mem_of_mem_drop hc)) (by rw [List.length_drop]; omega), sumW, List.take_add]
/-- A header's numbers. -/
structure Hd where
  rf : Int
  rl : Int
  mf : Int
  ml : Int
  lf : Int
  ll : Int
  df : Int
  dl : Int
  ad : Int
  en : Int
  co : Int
  cl : Bool
  inn : Int
  out : Int
  knd : Int
  z0 : Int
  z1 : Int
  lo0 : Int
  la0 : Int
  lo1 : Int
  la1 : Int
  zm : Int
  lon : Int
  lat : Int
theorem Hd.eq_iff (a b : Hd) : a = b ↔ (a.rf = b.rf ∧ a.rl = b.rl ∧ a.mf = b.mf ∧ a.ml = b.ml ∧ a.lf = b.lf ∧ a.ll = b.ll ∧ a.df = b.df ∧ a.dl = b.dl ∧ a.ad = b.ad ∧ a.en = b.en ∧ a.co = b.co ∧ a.cl = b.cl ∧ a.inn = b.inn ∧ a.out = b.out ∧ a.knd = b.knd ∧ a.z0 = b.z0 ∧ a.z1 = b.z1 ∧ a.lo0 = b.lo0 ∧ a.la0 = b.la0 ∧ a.lo1 = b.lo1 ∧ a.la1 = b.la1 ∧ a.zm = b.zm ∧ a.lon = b.lon ∧ a.lat = b.lat) := by
  constructor
  · rintro rfl; simp
  · cases a; cases b; simp only; rintro ⟨rfl, rfl, rfl, rfl, rfl, rfl, rfl, rfl, rfl, rfl, rfl, rfl, rfl, rfl, rfl, rfl, rfl, rfl, rfl, rfl, rfl, rfl, rfl, rfl⟩; rfl
def zeroH : Hd := ⟨0, 0, 0, 0, 0, 0, 0, 0, 0, 0, 0, false, 0, 0, 0, 0, 0, 0, 0, 0, 0, 0, 0, 0⟩
/-- Is a section within 2^40? (From and Length are below 2^64.) -/
def secB (f l : Int) : Bool := decide (f ≤ 1099511627776) && (decide (l ≤ 1099511627776) && decide (f + l ≤ 1099511627776))
def KindB (h : Hd) : Bool := decide (h.inn ≤ 4) && (decide (h.out ≤ 4) && decide (h.knd ≤ 5))
def ZoomsB (h : Hd) : Bool := (decide (0 ≤ h.z0) && decide (h.z0 ≤ h.z1)) && (decide (h.z1 ≤ 26) && (decide (0 ≤ h.zm) && decide (h.zm ≤ 26)))
def DegB (h : Hd) : Bool := (decide (-1800000000 ≤ h.lo0) && decide (h.lo0 ≤ h.lo1)) && (decide (h.lo1 ≤ 1800000000) && ((decide (-900000000 ≤ h.la0) && decide (h.la0 ≤ h.la1)) && (decide (h.la1 ≤ 900000000) && ((decide (-1800000000 ≤ h.lon) && decide (h.lon ≤ 1800000000)) && (decide (-900000000 ≤ h.lat) && decide (h.lat ≤ 900000000))))))
def SecsB (h : Hd) : Bool := secB h.rf h.rl && (secB h.mf h.ml && (secB h.lf h.ll && secB h.df h.dl))
/-- The document's Check. -/
def ckH (h : Hd) : Int := if SecsB h = true then (if KindB h = true then (if ZoomsB h = true then (if DegB h = true then 0 else 8) else 8) else 14) else 8
/-- What a field of its type may be. -/
def U64 (x : Int) : Prop := 0 ≤ x ∧ x ≤ 18446744073709551615
def U8 (x : Int) : Prop := 0 ≤ x ∧ x ≤ 255
def MayH (h : Hd) : Prop := U64 h.rf ∧ U64 h.rl ∧ U64 h.mf ∧ U64 h.ml ∧ U64 h.lf ∧ U64 h.ll ∧ U64 h.df ∧ U64 h.dl ∧ U64 h.ad ∧ U64 h.en ∧ U64 h.co ∧ U8 h.inn ∧ U8 h.out ∧ U8 h.knd
def unsg (x : Int) : Int := x % 4294967296
def sg (x : Int) : Int := if x < 2147483648 then x else x - 4294967296
def cl01 (b : Bool) : Int := if b then 1 else 0
def widH : List Nat := [8, 8, 8, 8, 8, 8, 8, 8, 8, 8, 8, 1, 1, 1, 1, 1, 1, 4, 4, 4, 4, 1, 4, 4]
def numsH (h : Hd) : List Int := [h.rf, h.rl, h.mf, h.ml, h.lf, h.ll, h.df, h.dl, h.ad, h.en, h.co, cl01 h.cl, h.inn, h.out, h.knd, h.z0, h.z1, unsg h.lo0, unsg h.la0, unsg h.lo1, unsg h.la1, h.zm, unsg h.lon, unsg h.lat]
def ofNums (l : List Int) : Hd := ⟨l.getD 0 0, l.getD 1 0, l.getD 2 0, l.getD 3 0, l.getD 4 0, l.getD 5 0, l.getD 6 0, l.getD 7 0, l.getD 8 0, l.getD 9 0, l.getD 10 0, l.getD 11 0 == 1, l.getD 12 0, l.getD 13 0, l.getD 14 0, l.getD 15 0, l.getD 16 0, sg (l.getD 17 0), sg (l.getD 18 0), sg (l.getD 19 0), sg (l.getD 20 0), l.getD 21 0, sg (l.getD 22 0), sg (l.getD 23 0)⟩
theorem p256_8 : p256 8 = 18446744073709551616 := rfl
theorem p256_4 : p256 4 = 4294967296 := rfl
theorem p256_1 : p256 1 = 256 := rfl
theorem ck_zero (h : Hd) (hc : ckH h = 0) : SecsB h = true ∧ KindB h = true ∧ ZoomsB h = true ∧ DegB h = true := by
  unfold ckH at hc
  split at hc
  · split at hc
    · split at hc
      · split at hc
        · exact ⟨by assumption, by assumption, by assumption, by assumption⟩
        · omega
      · omega
    · omega
  · omega
theorem sg_unsg (x : Int) (h0 : -2147483648 ≤ x) (h1 : x < 2147483648) : sg (unsg x) = x := by
  unfold sg unsg
  split <;> omega
theorem unsg_sg (x : Int) (h0 : 0 ≤ x) (h1 : x < 4294967296) : unsg (sg x) = x := by
  unfold sg unsg
  split <;> omega
/-- A header that may be fits its bytes. -/
theorem nums_fit (h : Hd) (hm : MayH h) (hc : ckH h = 0) : FitsH widH (numsH h) := by
  obtain ⟨c1, c2, c3, c4⟩ := ck_zero h hc
  simp only [SecsB, secB, KindB, ZoomsB, DegB, Bool.and_eq_true, decide_eq_true_eq] at c1 c2 c3 c4
  unfold MayH U64 U8 at hm
  have hcl : 0 ≤ cl01 h.cl ∧ cl01 h.cl < 256 := by unfold cl01; split <;> omega
  simp only [widH, numsH, FitsH, p256_8, p256_4, p256_1, unsg, and_true]
  refine ⟨?_, ?_, ?_, ?_, ?_, ?_, ?_, ?_, ?_, ?_, ?_, hcl, ?_, ?_, ?_, ?_, ?_, ?_, ?_, ?_, ?_, ?_, ?_, ?_⟩ <;> omega
theorem of_nums (h : Hd) (hc : ckH h = 0) : ofNums (numsH h) = h := by
  obtain ⟨c1, c2, c3, c4⟩ := ck_zero h hc
  simp only [DegB, Bool.and_eq_true, decide_eq_true_eq] at c4
  have hcl : (cl01 h.cl == 1) = h.cl := by unfold cl01; cases h.cl <;> rfl
  rw [Hd.eq_iff]
  simp only [ofNums, numsH, List.getD_cons_zero, List.getD_cons_succ]
  refine ⟨trivial, trivial, trivial, trivial, trivial, trivial, trivial, trivial, trivial, trivial, trivial, hcl, trivial, trivial, trivial, trivial, trivial, sg_unsg _ (by omega) (by omega), sg_unsg _ (by omega) (by omega), sg_unsg _ (by omega) (by omega), sg_unsg _ (by omega) (by omega), trivial, sg_unsg _ (by omega) (by omega), sg_unsg _ (by omega) (by omega)⟩
end Go.Proofs.Ytodjdeilaimjaaa
