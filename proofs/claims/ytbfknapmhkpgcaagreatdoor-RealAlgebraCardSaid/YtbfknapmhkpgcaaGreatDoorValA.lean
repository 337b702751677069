/-
  PACKAGE real, THE PLAIN NUMBERS (merged): rounding as a function of the value; Entier and Round; what Add, Sub, Mul, Div make.
-/
import Derived.Test.YtbfknapmhkpgcaaGreatDoorReal11
import Derived.Test.YtbfknapmhkpgcaaGreatDoorReal16

namespace Go.Proofs.YtbfknapmhkpgcaaGreatDoor
open Go.RowKit
set_option linter.unusedVariables false

/-! XVal -/

/-- N / 2^s, to the nearest, of two to the even one -/
def rhe (N s : Nat) : Nat := if s = 0 then N else N / 2 ^ s + (if 2 ^ (s - 1) < N % 2 ^ s ∨ (N % 2 ^ s = 2 ^ (s - 1) ∧ N / 2 ^ s % 2 = 1) then 1 else 0)

/-- how many bits go, beyond q -/
def kk (N q : Nat) : Nat := Nat.log2 N + 1 - (24 + q)

/-- the index of N / 2^q -/
def RR (N q : Nat) : Nat := rhe N (q + kk N q) + kk N q * 8388608

theorem rhe_lo (N s : Nat) : N / 2 ^ s ≤ rhe N s := by
  unfold rhe
  split
  · rename_i h; subst h; simp
  · omega

theorem rhe_hi (N s : Nat) : rhe N s ≤ N / 2 ^ s + 1 := by
  unfold rhe
  split
  · rename_i h; subst h; simp
  · split <;> omega

theorem rhe_mono {N M : Nat} (h : N ≤ M) (s : Nat) : rhe N s ≤ rhe M s := by
  by_cases hs : s = 0
  · subst hs; simpa [rhe] using h
  · have hp := Nat.pow_pos (n := s) (a := 2) (by decide)
    rcases Nat.lt_or_ge (N / 2 ^ s) (M / 2 ^ s) with hq | hq
    · have a := rhe_hi N s
      have b := rhe_lo M s
      omega
    · have he : N / 2 ^ s = M / 2 ^ s := Nat.le_antisymm (Nat.div_le_div_right h) hq
      have e1 := Nat.div_add_mod N (2 ^ s)
      have e2 := Nat.div_add_mod M (2 ^ s)
      unfold rhe
      rw [if_neg hs, if_neg hs]
      rw [he] at e1 ⊢
      generalize M / 2 ^ s = q at *
      generalize N % 2 ^ s = r at *
      generalize M % 2 ^ s = r' at *
      generalize 2 ^ (s - 1) = p at *
      generalize 2 ^ s * q = z at *
      split
      · split <;> omega
      · split <;> omega

theorem rhe_scale (N s : Nat) : rhe (2 * N) (s + 1) = rhe N s := by
  by_cases hs : s = 0
  · subst hs
    simp [rhe]
  · have hp := Nat.pow_pos (n := s - 1) (a := 2) (by decide)
    have e1 : 2 ^ (s + 1) = 2 * 2 ^ s := by rw [Nat.pow_succ, Nat.mul_comm]
    have e2 : 2 ^ s = 2 * 2 ^ (s - 1) := by
      obtain ⟨s', rfl⟩ : ∃ s', s = s' + 1 := ⟨s - 1, by omega⟩
      rw [Nat.pow_succ, Nat.mul_comm, Nat.add_sub_cancel]
    unfold rhe
    rw [if_neg hs, if_neg (by omega), Nat.add_sub_cancel, e1, Nat.mul_div_mul_left _ _ (by decide), Nat.mul_mod_mul_left, e2]
    generalize 2 ^ (s - 1) = p at *
    generalize N % (2 * p) = r
    congr 1
    have : (2 * p < 2 * r ∨ 2 * r = 2 * p ∧ N / (2 * p) % 2 = 1) ↔ (p < r ∨ r = p ∧ N / (2 * p) % 2 = 1) := by omega
    simp only [this]

theorem rhe_scale' (N s j : Nat) : rhe (N * 2 ^ j) (s + j) = rhe N s := by
  induction j with
  | zero => simp
  | succ j ih => rw [Nat.pow_succ, show N * (2 ^ j * 2) = 2 * (N * 2 ^ j) from by ac_rfl, ← Nat.add_assoc, rhe_scale, ih]

theorem rhe_exact (N s : Nat) : rhe (N * 2 ^ s) s = N := by
  have := rhe_scale' N 0 s
  rw [Nat.zero_add] at this
  rw [this]
  simp [rhe]

/-- kk is the number k with N < 2^(q+24+k), the least one -/
theorem kk_lt (N q : Nat) : N < 2 ^ (q + 24 + kk N q) := by
  refine Nat.lt_of_lt_of_le (Nat.lt_log2_self (n := N)) (Nat.pow_le_pow_right (by decide) ?_)
  unfold kk
  omega

theorem kk_ge (N q : Nat) (h : 0 < kk N q) : 2 ^ (q + 23 + kk N q) ≤ N := by
  have h0 : N ≠ 0 := by
    rintro rfl
    simp [kk] at h
    omega
  refine Nat.le_trans (Nat.pow_le_pow_right (by decide) ?_) (Nat.log2_self_le h0)
  unfold kk at *
  omega

theorem kk_unique {N q k : Nat} (h1 : N < 2 ^ (q + 24 + k)) (h2 : k = 0 ∨ 2 ^ (q + 23 + k) ≤ N) : kk N q = k := by
  have a := kk_lt N q
  have b := kk_ge N q
  rcases Nat.lt_trichotomy (kk N q) k with h | h | h
  · rcases h2 with h2 | h2
    · omega
    · have := Nat.pow_le_pow_right (n := 2) (by decide) (show q + 24 + kk N q ≤ q + 23 + k by omega)
      omega
  · exact h
  · have b' := b (by omega)
    have := Nat.pow_le_pow_right (n := 2) (by decide) (show q + 24 + k ≤ q + 23 + kk N q by omega)
    omega

theorem kk_mono {N M : Nat} (h : N ≤ M) (q : Nat) : kk N q ≤ kk M q := by
  rcases Nat.lt_or_ge (kk M q) (kk N q) with hk | hk
  · have a := kk_lt M q
    have b := kk_ge N q (by omega)
    have := Nat.pow_le_pow_right (n := 2) (by decide) (show q + 24 + kk M q ≤ q + 23 + kk N q by omega)
    omega
  · exact hk

theorem RR_mono {N M : Nat} (h : N ≤ M) (q : Nat) : RR N q ≤ RR M q := by
  have hk := kk_mono h q
  unfold RR
  rcases Nat.lt_or_ge (kk N q) (kk M q) with hl | hl
  · have a := kk_lt N q
    have b := kk_ge M q (by omega)
    have r1 : rhe N (q + kk N q) ≤ 16777216 := by
      have h1 := rhe_hi N (q + kk N q)
      have h2 : N / 2 ^ (q + kk N q) < 16777216 := by
        rw [Nat.div_lt_iff_lt_mul (Nat.pow_pos (by decide)), show (16777216 : Nat) = 2 ^ 24 from rfl, ← Nat.pow_add]
        refine Nat.lt_of_lt_of_le a (Nat.pow_le_pow_right (by decide) (by omega))
      omega
    have r2 : 8388608 ≤ rhe M (q + kk M q) := by
      have h1 := rhe_lo M (q + kk M q)
      have h2 : 8388608 ≤ M / 2 ^ (q + kk M q) := by
        rw [Nat.le_div_iff_mul_le (Nat.pow_pos (by decide)), show (8388608 : Nat) = 2 ^ 23 from rfl, ← Nat.pow_add]
        refine Nat.le_trans (Nat.pow_le_pow_right (by decide) (by omega)) b
      omega
    omega
  · have e : kk N q = kk M q := by omega
    rw [e]
    have := rhe_mono h (q + kk M q)
    omega

theorem RR_scale (N q j : Nat) : RR (N * 2 ^ j) (q + j) = RR N q := by
  have hp := Nat.pow_pos (n := j) (a := 2) (by decide)
  have hk : kk (N * 2 ^ j) (q + j) = kk N q := by
    refine kk_unique ?_ ?_
    · rw [show q + j + 24 + kk N q = (q + 24 + kk N q) + j from by omega, Nat.pow_add]
      exact Nat.mul_lt_mul_of_pos_right (kk_lt N q) hp
    · by_cases h : kk N q = 0
      · exact Or.inl h
      · right
        rw [show q + j + 23 + kk N q = (q + 23 + kk N q) + j from by omega, Nat.pow_add]
        exact Nat.mul_le_mul_right _ (kk_ge N q (by omega))
  unfold RR
  rw [hk, show q + j + kk N q = (q + kk N q) + j from by omega, rhe_scale']

theorem RR_zero (q : Nat) : RR 0 q = 0 := by
  have hk : kk 0 q = 0 := kk_unique (Nat.pow_pos (by decide)) (Or.inl rfl)
  unfold RR rhe
  rw [hk]
  split
  · rfl
  · have := Nat.pow_pos (n := q + 0 - 1) (a := 2) (by decide)
    simp

/-- a number with at most 24 bits and units enough is itself -/
theorem RR_small (N : Nat) (h : N < 16777216) : RR N 0 = N := by
  have hk : kk N 0 = 0 := kk_unique (by simpa using h) (Or.inl rfl)
  unfold RR rhe
  rw [hk]
  simp

theorem RR_full (m t : Nat) (h1 : 8388608 ≤ m) (h2 : m < 16777216) : RR (m * 2 ^ t) 0 = m + t * 8388608 := by
  have hk : kk (m * 2 ^ t) 0 = t := by
    refine kk_unique ?_ (Or.inr ?_)
    · rw [Nat.zero_add, Nat.pow_add]
      exact Nat.mul_lt_mul_of_pos_right (by simpa using h2) (Nat.pow_pos (by decide))
    · rw [Nat.zero_add, Nat.pow_add]
      exact Nat.mul_le_mul_right _ (by simpa using h1)
  unfold RR
  rw [hk, Nat.zero_add, rhe_exact]

/-! XVal2 -/

theorem rhe_cutV (A c : Nat) (h : 1 ≤ c) : (rhe A c : Int) = cutV (A : Int) c := by
  have e1 : ((2 ^ c : Nat) : Int) = (2 : Int) ^ c := by push_cast; rfl
  have e2 : ((2 ^ (c - 1) : Nat) : Int) = (2 : Int) ^ (c - 1) := by push_cast; rfl
  unfold rhe cutV
  rw [if_neg (by omega), ← e1, ← e2]
  have hq : ((A : Int) / ((2 ^ c : Nat) : Int)) = ((A / 2 ^ c : Nat) : Int) := by push_cast; rfl
  have hr : ((A : Int) % ((2 ^ c : Nat) : Int)) = ((A % 2 ^ c : Nat) : Int) := by push_cast; rfl
  rw [hq, hr]
  generalize A / 2 ^ c = q
  generalize A % 2 ^ c = r
  generalize 2 ^ (c - 1) = p
  split <;> split <;> omega

/-- the index of N / 2^q, with a sign -/
def RI (N : Int) (q : Nat) : Int := if N < 0 then -(RR (-N).toNat q : Int) else (RR N.toNat q : Int)

theorem RI_zero (q : Nat) : RI 0 q = 0 := by simp [RI, RR_zero]

theorem RI_neg (N : Int) (q : Nat) : RI (-N) q = -RI N q := by
  unfold RI
  rcases Int.lt_trichotomy N 0 with h | h | h
  · rw [if_neg (by omega), if_pos h]
    omega
  · subst h
    simp [RR_zero]
  · rw [if_pos (by omega), if_neg (by omega), Int.neg_neg]

theorem RI_mono {N M : Int} (h : N ≤ M) (q : Nat) : RI N q ≤ RI M q := by
  unfold RI
  split
  · split
    · have := RR_mono (N := (-M).toNat) (M := (-N).toNat) (by omega) q
      omega
    · omega
  · rw [if_neg (by omega)]
    have := RR_mono (N := N.toNat) (M := M.toNat) (by omega) q
    omega

theorem RI_scale (N : Int) (q j : Nat) : RI (N * 2 ^ j) (q + j) = RI N q := by
  have hp : (0 : Int) < 2 ^ j := pow_pos j
  have e1 : ((2 ^ j : Nat) : Int) = (2 : Int) ^ j := by push_cast; rfl
  unfold RI
  by_cases h : N < 0
  · have h2 : N * 2 ^ j < 0 := Int.mul_neg_of_neg_of_pos h hp
    rw [if_pos h2, if_pos h]
    have : (-(N * 2 ^ j)).toNat = (-N).toNat * 2 ^ j := by
      rw [← Int.neg_mul, ← e1]
      obtain ⟨a, ha⟩ : ∃ a : Nat, -N = a := ⟨(-N).toNat, by omega⟩
      rw [ha, ← Int.natCast_mul, Int.toNat_natCast, Int.toNat_natCast]
    rw [this, RR_scale]
  · have h2 : ¬ N * 2 ^ j < 0 := by have := Int.mul_nonneg (a := N) (b := 2 ^ j) (by omega) (by omega); omega
    rw [if_neg h2, if_neg h]
    have : (N * 2 ^ j).toNat = N.toNat * 2 ^ j := by
      rw [← e1]
      obtain ⟨a, ha⟩ : ∃ a : Nat, N = a := ⟨N.toNat, by omega⟩
      rw [ha, ← Int.natCast_mul, Int.toNat_natCast, Int.toNat_natCast]
    rw [this, RR_scale]

/-- riF, as a function of the value -/
theorem riF_val (A : Nat) (e : Int) (q : Nat) (h1 : 0 < A) (h2 : A ≤ 9223372036854775808) (hq : 0 ≤ e + 150 + q) :
    riF (A : Int) e = (RR (A * 2 ^ (e + 150 + q).toNat) q : Int) := by
  obtain ⟨b1, b2, b3, b4⟩ := bl_bd (A : Int) (by omega) (by omega)
  unfold riF cF
  rw [Int.toNat_natCast] at *
  generalize Lib.bitLen A = L at *
  obtain ⟨T, hT⟩ : ∃ T, (e + 150 + q).toNat = T := ⟨_, rfl⟩
  have hTi : e + 150 + q = (T : Int) := by omega
  rw [hT]
  have c3 : 2 ^ (L - 1) ≤ A := by exact_mod_cast b3
  have c4 : A < 2 ^ L := by exact_mod_cast b4
  obtain ⟨c, hc⟩ : ∃ c, (if (L : Int) - 24 < -150 - e then -150 - e else (L : Int) - 24) = c := ⟨_, rfl⟩
  rw [hc]
  have hk0 : 0 ≤ e + c + 150 := by split at hc <;> omega
  obtain ⟨k, hk⟩ : ∃ k : Nat, e + c + 150 = k := ⟨(e + c + 150).toNat, by omega⟩
  have hkk : kk (A * 2 ^ T) q = k := by
    refine kk_unique ?_ ?_
    · have h3 : A * 2 ^ T < 2 ^ L * 2 ^ T := Nat.mul_lt_mul_of_pos_right c4 (Nat.pow_pos (by decide))
      rw [← Nat.pow_add] at h3
      refine Nat.lt_of_lt_of_le h3 (Nat.pow_le_pow_right (by decide) ?_)
      split at hc <;> omega
    · by_cases hz : k = 0
      · exact Or.inl hz
      · right
        have h3 : 2 ^ (L - 1) * 2 ^ T ≤ A * 2 ^ T := Nat.mul_le_mul_right _ c3
        rw [← Nat.pow_add] at h3
        refine Nat.le_trans (Nat.pow_le_pow_right (by decide) ?_) h3
        split at hc <;> omega
  unfold RR
  rw [hkk, hk]
  have hmain : cutF (A : Int) c = (rhe (A * 2 ^ T) (q + k) : Int) := by
    unfold cutF
    by_cases hc0 : c ≤ 0
    · rw [if_pos hc0]
      have e1 : A * 2 ^ T = A * 2 ^ (-c).toNat * 2 ^ (q + k) := by
        rw [Nat.mul_assoc, ← Nat.pow_add]
        congr 2
        omega
      rw [e1, rhe_exact]
      push_cast
      rfl
    · rw [if_neg hc0]
      have e1 : q + k = c.toNat + T := by omega
      rw [e1, rhe_scale']
      by_cases hc63 : 63 < c
      · rw [if_pos hc63]
        have hp : 9223372036854775808 ≤ 2 ^ (c.toNat - 1) := by
          have := Nat.pow_le_pow_right (n := 2) (by decide) (show 63 ≤ c.toNat - 1 by omega)
          simpa using this
        have hp2 : 2 ^ (c.toNat - 1) < 2 ^ c.toNat := Nat.pow_lt_pow_right (by decide) (by omega)
        have hlt : A < 2 ^ c.toNat := by omega
        unfold rhe
        rw [if_neg (by omega), Nat.div_eq_of_lt hlt, Nat.mod_eq_of_lt hlt]
        generalize 2 ^ (c.toNat - 1) = p at *
        rw [if_neg (by omega)]
        rfl
      · rw [if_neg hc63]
        exact (rhe_cutV A c.toNat (by omega)).symm
  rw [hmain]
  generalize rhe (A * 2 ^ T) (q + k) = z
  omega

theorem rI_val (m e : Int) (q : Nat) (h1 : -9223372036854775808 ≤ m) (h2 : m ≤ 9223372036854775808) (hq : 0 ≤ e + 150 + q) :
    rI m e = RI (m * 2 ^ (e + 150 + q).toNat) q := by
  have hp : (0 : Int) < 2 ^ (e + 150 + q).toNat := pow_pos _
  have e1 : ((2 ^ (e + 150 + q).toNat : Nat) : Int) = (2 : Int) ^ (e + 150 + q).toNat := by push_cast; rfl
  unfold rI
  by_cases hz : m = 0
  · subst hz
    rw [if_pos rfl, Int.zero_mul, RI_zero]
  · rw [if_neg hz]
    by_cases hn : m < 0
    · rw [if_pos hn]
      obtain ⟨A, hA⟩ : ∃ A : Nat, -m = A := ⟨(-m).toNat, by omega⟩
      have hm : m = -(A : Int) := by omega
      rw [hA, riF_val A e q (by omega) (by omega) hq, hm, Int.neg_mul, RI_neg]
      unfold RI
      rw [if_neg (by have := Int.mul_nonneg (a := (A : Int)) (b := 2 ^ (e + 150 + q).toNat) (by omega) (by omega); omega), ← e1, ← Int.natCast_mul, Int.toNat_natCast]
    · rw [if_neg hn]
      obtain ⟨A, hA⟩ : ∃ A : Nat, m = A := ⟨m.toNat, by omega⟩
      rw [hA, riF_val A e q (by omega) (by omega) hq]
      unfold RI
      rw [if_neg (by have := Int.mul_nonneg (a := (A : Int)) (b := 2 ^ (e + 150 + q).toNat) (by omega) (by omega); omega), ← e1, ← Int.natCast_mul, Int.toNat_natCast]

/-- the value of a real, in units -/
def UU (m e : Int) : Int := m * 2 ^ (e + 150).toNat

theorem UU_neg (m e : Int) : UU (-m) e = -UU m e := by unfold UU; rw [Int.neg_mul]

theorem ix_val {m e : Int} (h : vr m e = true) : ix m e = RI (UU m e) 0 := by
  have pos : ∀ m e : Int, 0 < m → vr m e = true → ix m e = RI (UU m e) 0 := by
    intro m e hm h
    have k := vr_iff.1 h
    have ha : ab m = m := by unfold ab; rw [if_neg (by omega)]
    rw [ha] at k
    have hp : (0 : Int) < 2 ^ (e + 150).toNat := pow_pos _
    have e1 : ((2 ^ (e + 150).toNat : Nat) : Int) = (2 : Int) ^ (e + 150).toNat := by push_cast; rfl
    obtain ⟨A, hA⟩ : ∃ A : Nat, m = A := ⟨m.toNat, by omega⟩
    unfold UU RI ix
    rw [if_neg (by omega), if_neg (by omega), if_neg (by have := Int.mul_nonneg (a := m) (b := 2 ^ (e + 150).toNat) (by omega) (by omega); omega), hA, ← e1, ← Int.natCast_mul, Int.toNat_natCast]
    rcases k with k | k | k
    · omega
    · rw [RR_full A _ (by omega) (by omega)]
      omega
    · rw [k.2.2]
      simp only [show ((-150 : Int) + 150).toNat = 0 from rfl, Nat.pow_zero, Nat.mul_one]
      rw [RR_small A (by omega)]
      omega
  rcases Int.lt_trichotomy m 0 with hm | hm | hm
  · have h2 := pos (-m) e (by omega) (by rw [vr_neg]; exact h)
    rw [ix_neg h, UU_neg, RI_neg] at h2
    omega
  · subst hm
    have k := vr_iff.1 h
    have : e = 0 := by unfold ab at k; simp at k; omega
    subst this
    rfl
  · exact pos m e hm h

/-- a real is rounded to itself -/
theorem rI_ix {m e : Int} (h : vr m e = true) : rI m e = ix m e := by
  obtain ⟨b1, b2, b3, b4⟩ := vr_bd h
  rw [rI_val m e 0 (by omega) (by omega) (by omega), ix_val h]
  simp [UU]

theorem UU_inj {m e k f : Int} (h1 : vr m e = true) (h2 : vr k f = true) (h : UU m e = UU k f) : m = k ∧ e = f := by
  have a := at_ix h1
  have b := at_ix h2
  rw [ix_val h1, h, ← ix_val h2] at a
  exact ⟨a.1.symm.trans b.1, a.2.symm.trans b.2⟩

theorem UU_le {m e k f : Int} (h1 : vr m e = true) (h2 : vr k f = true) : ix m e ≤ ix k f ↔ UU m e ≤ UU k f := by
  constructor
  · intro h
    rcases Int.le_total (UU m e) (UU k f) with hu | hu
    · exact hu
    · have := RI_mono hu 0
      rw [← ix_val h1, ← ix_val h2] at this
      have he : ix m e = ix k f := by omega
      have a := at_ix h1
      have b := at_ix h2
      rw [he] at a
      rw [← a.1, ← a.2, b.1, b.2]
      exact Int.le_refl _
  · intro h
    have := RI_mono h 0
    rwa [← ix_val h1, ← ix_val h2] at this

theorem UU_lt {m e k f : Int} (h1 : vr m e = true) (h2 : vr k f = true) : ix m e < ix k f ↔ UU m e < UU k f := by
  have := UU_le h2 h1
  omega

theorem UU_eq {m e k f : Int} (h1 : vr m e = true) (h2 : vr k f = true) : ix m e = ix k f ↔ UU m e = UU k f := by
  have a := UU_le h2 h1
  have b := UU_le h1 h2
  omega

/-! XVal3 -/

theorem rhe_near_up (a d s : Nat) (hs : 1 ≤ s) (h : d < 2 ^ (s - 1)) : rhe (a * 2 ^ s + d) s = a := by
  have hp := Nat.pow_pos (n := s - 1) (a := 2) (by decide)
  have e2 : 2 ^ s = 2 * 2 ^ (s - 1) := by
    obtain ⟨s', rfl⟩ : ∃ s', s = s' + 1 := ⟨s - 1, by omega⟩
    rw [Nat.pow_succ, Nat.mul_comm, Nat.add_sub_cancel]
  have hd : d < 2 ^ s := by omega
  have h1 : (a * 2 ^ s + d) / 2 ^ s = a := by
    rw [Nat.mul_comm, Nat.mul_add_div (by omega), Nat.div_eq_of_lt hd, Nat.add_zero]
  have h2 : (a * 2 ^ s + d) % 2 ^ s = d := by
    rw [Nat.mul_comm, Nat.mul_add_mod, Nat.mod_eq_of_lt hd]
  unfold rhe
  rw [if_neg (by omega), h1, h2, if_neg (by omega)]
  rfl

theorem rhe_near_dn (a d s : Nat) (hs : 1 ≤ s) (h0 : 0 < d) (h : d < 2 ^ (s - 1)) (ha : 1 ≤ a) : rhe (a * 2 ^ s - d) s = a := by
  have hp := Nat.pow_pos (n := s - 1) (a := 2) (by decide)
  have e2 : 2 ^ s = 2 * 2 ^ (s - 1) := by
    obtain ⟨s', rfl⟩ : ∃ s', s = s' + 1 := ⟨s - 1, by omega⟩
    rw [Nat.pow_succ, Nat.mul_comm, Nat.add_sub_cancel]
  obtain ⟨b, rfl⟩ : ∃ b, a = b + 1 := ⟨a - 1, by omega⟩
  have e3 : (b + 1) * 2 ^ s - d = b * 2 ^ s + (2 ^ s - d) := by rw [Nat.add_mul, Nat.one_mul]; omega
  have hd : 2 ^ s - d < 2 ^ s := by omega
  have h1 : (b * 2 ^ s + (2 ^ s - d)) / 2 ^ s = b := by
    rw [Nat.mul_comm, Nat.mul_add_div (by omega), Nat.div_eq_of_lt hd, Nat.add_zero]
  have h2 : (b * 2 ^ s + (2 ^ s - d)) % 2 ^ s = 2 ^ s - d := by
    rw [Nat.mul_comm, Nat.mul_add_mod, Nat.mod_eq_of_lt hd]
  rw [e3]
  unfold rhe
  rw [if_neg (by omega), h1, h2, if_pos (by omega)]

/-- a number that is much smaller changes nothing -/
theorem absorb_up (k d t : Nat) (h1 : 8388608 ≤ k) (h2 : k < 16777216) (ht : 2 ≤ t) (hd : d < 2 ^ (t - 2)) : RR (k * 2 ^ t + d) 0 = k + t * 8388608 := by
  have hp2 : 2 ^ (t - 1) = 2 * 2 ^ (t - 2) := by
    obtain ⟨s', rfl⟩ : ∃ s', t = s' + 2 := ⟨t - 2, by omega⟩
    show 2 ^ (s' + 1) = 2 * 2 ^ s'
    rw [Nat.pow_succ, Nat.mul_comm]
  have hp3 : 2 ^ t = 2 * 2 ^ (t - 1) := by
    obtain ⟨s', rfl⟩ : ∃ s', t = s' + 1 := ⟨t - 1, by omega⟩
    rw [Nat.pow_succ, Nat.mul_comm, Nat.add_sub_cancel]
  have hlt : d < 2 ^ (t - 1) := by omega
  have hk : kk (k * 2 ^ t + d) 0 = t := by
    refine kk_unique ?_ (Or.inr ?_)
    · rw [Nat.zero_add, Nat.pow_add]
      have : (k + 1) * 2 ^ t ≤ 2 ^ 24 * 2 ^ t := Nat.mul_le_mul_right _ (by have : (2 : Nat) ^ 24 = 16777216 := rfl; omega)
      rw [Nat.add_mul, Nat.one_mul] at this
      omega
    · rw [Nat.zero_add, Nat.pow_add]
      have : 2 ^ 23 * 2 ^ t ≤ k * 2 ^ t := Nat.mul_le_mul_right _ (by simpa using h1)
      omega
  unfold RR
  rw [hk, Nat.zero_add, rhe_near_up k d t (by omega) hlt]

theorem absorb_dn (k d t : Nat) (h1 : 8388608 ≤ k) (h2 : k < 16777216) (ht : 2 ≤ t) (h0 : 0 < d) (hd : d < 2 ^ (t - 2)) : RR (k * 2 ^ t - d) 0 = k + t * 8388608 := by
  have hp2 : 2 ^ (t - 1) = 2 * 2 ^ (t - 2) := by
    obtain ⟨s', rfl⟩ : ∃ s', t = s' + 2 := ⟨t - 2, by omega⟩
    show 2 ^ (s' + 1) = 2 * 2 ^ s'
    rw [Nat.pow_succ, Nat.mul_comm]
  have hp3 : 2 ^ t = 2 * 2 ^ (t - 1) := by
    obtain ⟨s', rfl⟩ : ∃ s', t = s' + 1 := ⟨t - 1, by omega⟩
    rw [Nat.pow_succ, Nat.mul_comm, Nat.add_sub_cancel]
  have hlt : d < 2 ^ (t - 1) := by omega
  have hge : 2 ^ 23 * 2 ^ t ≤ k * 2 ^ t := Nat.mul_le_mul_right _ (by simpa using h1)
  have hle : k * 2 ^ t < 2 ^ 24 * 2 ^ t := Nat.mul_lt_mul_of_pos_right (by simpa using h2) (Nat.pow_pos (by decide))
  by_cases hc : 2 ^ 23 * 2 ^ t ≤ k * 2 ^ t - d
  · have hk : kk (k * 2 ^ t - d) 0 = t := by
      refine kk_unique ?_ (Or.inr ?_)
      · rw [Nat.zero_add, Nat.pow_add]
        omega
      · rw [Nat.zero_add, Nat.pow_add]
        exact hc
    unfold RR
    rw [hk, Nat.zero_add, rhe_near_dn k d t (by omega) h0 hlt (by omega)]
  · have hk1 : k = 8388608 := by
      by_cases hz : 8388609 ≤ k
      · have : 8388609 * 2 ^ t ≤ k * 2 ^ t := Nat.mul_le_mul_right _ hz
        exfalso
        have e : 8388609 * 2 ^ t = 2 ^ 23 * 2 ^ t + 2 ^ t := by rw [show (8388609 : Nat) = 2 ^ 23 + 1 from rfl, Nat.add_mul, Nat.one_mul]
        omega
      · omega
    subst hk1
    have e1 : 8388608 * 2 ^ t = 16777216 * 2 ^ (t - 1) := by rw [hp3]; omega
    rw [e1]
    rw [e1] at hc
    have hk : kk (16777216 * 2 ^ (t - 1) - d) 0 = t - 1 := by
      refine kk_unique ?_ (Or.inr ?_)
      · rw [Nat.zero_add, Nat.pow_add, show (2 : Nat) ^ 24 = 16777216 from rfl]
        have := Nat.pow_pos (n := t - 1) (a := 2) (by decide)
        omega
      · rw [Nat.zero_add, Nat.pow_add, show (2 : Nat) ^ 23 = 8388608 from rfl]
        omega
    unfold RR
    rw [hk, Nat.zero_add, rhe_near_dn 16777216 d (t - 1) (by omega) h0 (by rw [show t - 1 - 1 = t - 2 from by omega]; exact hd) (by decide)]
    omega

theorem absorb {k f : Int} (h : vr k f = true) (hk0 : k ≠ 0) (hf : -148 ≤ f) (D : Int) (h1 : -(2 ^ (f + 148).toNat) < D) (h2 : D < 2 ^ (f + 148).toNat) : RI (UU k f + D) 0 = ix k f := by
  have hpos : ∀ k f D : Int, 0 < k → vr k f = true → -148 ≤ f → -(2 ^ (f + 148).toNat) < D → D < 2 ^ (f + 148).toNat → RI (UU k f + D) 0 = ix k f := by
    intro k f D hk h hf h1 h2
    have q := vr_iff.1 h
    have ha : ab k = k := by unfold ab; rw [if_neg (by omega)]
    rw [ha] at q
    obtain ⟨A, hA⟩ : ∃ A : Nat, k = A := ⟨k.toNat, by omega⟩
    subst hA
    obtain ⟨t, ht⟩ : ∃ t : Nat, f + 150 = t := ⟨(f + 150).toNat, by omega⟩
    have e1 : (f + 148).toNat = t - 2 := by omega
    have e2 : ((2 ^ (t - 2) : Nat) : Int) = (2 : Int) ^ (t - 2) := by push_cast; rfl
    have e3 : ((2 ^ t : Nat) : Int) = (2 : Int) ^ t := by push_cast; rfl
    have hu : UU (A : Int) f = ((A * 2 ^ t : Nat) : Int) := by unfold UU; rw [ht, Int.toNat_natCast, Int.natCast_mul, e3]
    have hx : ix (A : Int) f = ((A + t * 8388608 : Nat) : Int) := by
      unfold ix
      rw [if_neg (by omega), if_neg (by omega)]
      omega
    rw [e1, ← e2] at h1 h2
    have hbig : 2 ^ (t - 2) ≤ A * 2 ^ t := by
      have a := Nat.pow_le_pow_right (n := 2) (by decide) (show t - 2 ≤ t by omega)
      have b : 1 * 2 ^ t ≤ A * 2 ^ t := Nat.mul_le_mul_right _ (by omega)
      omega
    rw [hu, hx]
    unfold RI
    rw [if_neg (by omega)]
    rcases Int.lt_or_le D 0 with hD | hD
    · obtain ⟨d, hd⟩ : ∃ d : Nat, D = -(d : Int) := ⟨(-D).toNat, by omega⟩
      rw [show (((A * 2 ^ t : Nat) : Int) + D).toNat = A * 2 ^ t - d from by omega, absorb_dn A d t (by omega) (by omega) (by omega) (by omega) (by omega)]
    · obtain ⟨d, hd⟩ : ∃ d : Nat, D = (d : Int) := ⟨D.toNat, by omega⟩
      rw [show (((A * 2 ^ t : Nat) : Int) + D).toNat = A * 2 ^ t + d from by omega, absorb_up A d t (by omega) (by omega) (by omega) (by omega)]
  rcases Int.lt_trichotomy k 0 with hk | hk | hk
  · have := hpos (-k) f (-D) (by omega) (by rw [vr_neg]; exact h) hf (by omega) (by omega)
    rw [UU_neg, ← Int.neg_add, RI_neg, ix_neg h] at this
    omega
  · exact absurd hk hk0
  · exact hpos k f D hk h hf h1 h2

theorem UU_zero (e : Int) : UU 0 e = 0 := by unfold UU; rw [Int.zero_mul]

theorem UU_abs {m e : Int} (h : vr m e = true) (t : Nat) (ht : e + 174 ≤ t) : -(2 ^ t) < UU m e ∧ UU m e < 2 ^ t := by
  obtain ⟨b1, b2, b3, b4⟩ := vr_bd h
  have hp : (0 : Int) < 2 ^ (e + 150).toNat := pow_pos _
  have a1 := Int.mul_lt_mul_of_pos_right (show m < 16777216 by omega) hp
  have a2 := Int.mul_lt_mul_of_pos_right (show -16777216 < m by omega) hp
  have e1 : (16777216 : Int) * 2 ^ (e + 150).toNat = 2 ^ ((e + 150).toNat + 24) := by rw [Int.pow_add]; omega
  have e2 : (2 : Int) ^ ((e + 150).toNat + 24) ≤ 2 ^ t := pow_mono _ _ (by omega)
  unfold UU
  rw [Int.neg_mul] at a2
  omega

/-- a sum, rounded, is a function of the values -/
theorem sum_val {m e k f : Int} (h1 : vr m e = true) (h2 : vr k f = true) : rI (smM m e k f) (smE m e k f) = RI (UU m e + UU k f) 0 := by
  obtain ⟨a1, a2, a3, a4⟩ := vr_bd h1
  obtain ⟨b1, b2, b3, b4⟩ := vr_bd h2
  have hbd := smM_bd m e k f (by omega) (by omega) (by omega) (by omega)
  unfold smM smE at *
  by_cases c1 : m = 0 ∧ e = 0
  · rw [if_pos c1, if_pos c1, c1.1, UU_zero, Int.zero_add, rI_ix h2, ix_val h2]
  · rw [if_neg c1, if_neg c1] at *
    by_cases c2 : k = 0 ∧ f = 0
    · rw [if_pos c2, if_pos c2, c2.1, UU_zero, Int.add_zero, rI_ix h1, ix_val h1]
    · rw [if_neg c2, if_neg c2] at *
      by_cases c3 : e < f
      · rw [if_pos c3, if_pos c3] at *
        by_cases c4 : 38 < f - e
        · rw [if_pos c4, if_pos c4, rI_ix h2]
          obtain ⟨u1, u2⟩ := UU_abs h1 (f + 148).toNat (by omega)
          rw [Int.add_comm]
          exact (absorb h2 (by have q := vr_iff.1 h2; rintro rfl; unfold ab at q; simp at q; omega) (by omega) _ u1 u2).symm
        · rw [if_neg c4, if_neg c4] at *
          rw [rI_val _ e 0 (by omega) (by omega) (by omega)]
          congr 1
          unfold UU
          have e1 : (f + 150).toNat = (f - e).toNat + (e + 150).toNat := by omega
          rw [show (e + 150 + ((0 : Nat) : Int)).toNat = (e + 150).toNat from by simp, e1, Int.pow_add, Int.add_mul, Int.mul_assoc, Int.add_comm]
      · rw [if_neg c3, if_neg c3] at *
        by_cases c4 : 38 < e - f
        · rw [if_pos c4, if_pos c4, rI_ix h1]
          obtain ⟨u1, u2⟩ := UU_abs h2 (e + 148).toNat (by omega)
          exact (absorb h1 (by have q := vr_iff.1 h1; rintro rfl; unfold ab at q; simp at q; omega) (by omega) _ u1 u2).symm
        · rw [if_neg c4, if_neg c4] at *
          rw [rI_val _ f 0 (by omega) (by omega) (by omega)]
          congr 1
          unfold UU
          have e1 : (e + 150).toNat = (e - f).toNat + (f + 150).toNat := by omega
          rw [show (f + 150 + ((0 : Nat) : Int)).toNat = (f + 150).toNat from by simp, e1, Int.pow_add, Int.add_mul, Int.mul_assoc]

/-- a product, rounded, is a function of the values -/
theorem mul_val {m e k f : Int} (h1 : vr m e = true) (h2 : vr k f = true) : rI (m * k) (e + f) = RI (UU m e * UU k f) 150 := by
  obtain ⟨a1, a2, a3, a4⟩ := vr_bd h1
  obtain ⟨b1, b2, b3, b4⟩ := vr_bd h2
  have hb := mulr_bd m k (by omega) (by omega) (by omega) (by omega)
  rw [rI_val (m * k) (e + f) 150 (by omega) (by omega) (by omega)]
  congr 1
  unfold UU
  have e1 : (e + f + 150 + ((150 : Nat) : Int)).toNat = (e + 150).toNat + (f + 150).toNat := by omega
  rw [e1, Int.pow_add]
  ac_rfl

/-- which numbers of units are reals -/
def Rep (N : Int) : Prop := ∃ m e, vr m e = true ∧ UU m e = N

theorem Rep.neg {N : Int} (h : Rep N) : Rep (-N) := by
  obtain ⟨m, e, h1, h2⟩ := h
  exact ⟨-m, e, by rw [vr_neg]; exact h1, by rw [UU_neg, h2]⟩

theorem rep_of (M : Nat) (j : Nat) (hM : M < 16777216) (hj : j ≤ 300) : Rep ((M * 2 ^ j : Nat) : Int) := by
  obtain ⟨k, hk⟩ : ∃ k, kk (M * 2 ^ j) 0 = k := ⟨_, rfl⟩
  have h1 := kk_lt (M * 2 ^ j) 0
  have h2 := kk_ge (M * 2 ^ j) 0
  rw [hk] at h1 h2
  rw [Nat.zero_add] at h1 h2
  have hkj : k ≤ j := by
    rcases Nat.lt_or_ge j k with h | h
    · have a := h2 (by omega)
      have b : M * 2 ^ j < 2 ^ 24 * 2 ^ j := Nat.mul_lt_mul_of_pos_right (by simpa using hM) (Nat.pow_pos (by decide))
      rw [← Nat.pow_add] at b
      have c := Nat.pow_le_pow_right (n := 2) (by decide) (show 24 + j ≤ 23 + k by omega)
      omega
    · exact h
  have e1 : M * 2 ^ j = M * 2 ^ (j - k) * 2 ^ k := by rw [Nat.mul_assoc, ← Nat.pow_add, show j - k + k = j from by omega]
  rw [e1] at h1 h2 ⊢
  generalize M * 2 ^ (j - k) = A at *
  have hA : A < 16777216 := by
    rw [Nat.pow_add] at h1
    have := Nat.lt_of_mul_lt_mul_right h1
    simpa using this
  have hA2 : 0 < k → 8388608 ≤ A := fun h => by
    have := h2 h
    rw [Nat.pow_add] at this
    have := Nat.le_of_mul_le_mul_right this (Nat.pow_pos (by decide))
    simpa using this
  have e3 : ((2 ^ k : Nat) : Int) = (2 : Int) ^ k := by push_cast; rfl
  by_cases hz : A = 0
  · subst hz
    exact ⟨0, 0, by rfl, by rw [UU_zero]; simp⟩
  · refine ⟨(A : Int), (k : Int) - 150, ?_, ?_⟩
    · rw [vr_iff]
      have ha : ab (A : Int) = A := by unfold ab; rw [if_neg (by omega)]
      rw [ha]
      by_cases h0 : 0 < k
      · have := hA2 h0
        omega
      · omega
    · unfold UU
      rw [show ((k : Int) - 150 + 150).toNat = k from by omega, Int.natCast_mul, e3]

/-! XVal4 -/

theorem RR_rep (A s : Nat) (h1 : A < 16777216) (h2 : s = 0 ∨ 8388608 ≤ A) : RR (A * 2 ^ s) 0 = A + s * 8388608 := by
  rcases h2 with h2 | h2
  · subst h2
    rw [Nat.pow_zero, Nat.mul_one, RR_small A h1]
    omega
  · exact RR_full A s h2 h1

theorem rep_le {A s B t : Nat} (a1 : A < 16777216) (a2 : s = 0 ∨ 8388608 ≤ A) (b1 : B < 16777216) (b2 : t = 0 ∨ 8388608 ≤ B) (h : A + s * 8388608 ≤ B + t * 8388608) : A * 2 ^ s ≤ B * 2 ^ t := by
  rcases Nat.lt_or_ge (B * 2 ^ t) (A * 2 ^ s) with hc | hc
  · have hm := RR_mono (Nat.le_of_lt hc) 0
    rw [RR_rep A s a1 a2, RR_rep B t b1 b2] at hm
    have he : A = B ∧ s = t := by omega
    rw [he.1, he.2] at hc
    omega
  · exact hc

theorem half_lo (B : Nat) (h : B < 16777216) : RR B 1 = rhe B 1 := by
  have hk : kk B 1 = 0 := kk_unique (by have : (2 : Nat) ^ (1 + 24 + 0) = 33554432 := rfl; omega) (Or.inl rfl)
  unfold RR
  rw [hk]
  simp

theorem half_hi (B t : Nat) : RR (B * 2 ^ (t + 1)) 1 = RR (B * 2 ^ t) 0 := by
  have := RR_scale (B * 2 ^ t) 0 1
  rw [Nat.mul_assoc, ← Nat.pow_add] at this
  exact this

/-- x and y within a factor of two: what lies between is a real -/
theorem st_pos (A s B t : Nat) (a1 : A < 16777216) (a2 : s = 0 ∨ 8388608 ≤ A) (b1 : B < 16777216) (b2 : t = 0 ∨ 8388608 ≤ B) (hs : s ≤ 300) (ht : t ≤ 300) (hl : RR (B * 2 ^ t) 1 ≤ RR (A * 2 ^ s) 0) (hh : RR (A * 2 ^ s) 0 ≤ RR (2 * (B * 2 ^ t)) 0) :
    Rep (((A * 2 ^ s : Nat) : Int) - ((B * 2 ^ t : Nat) : Int)) := by
  rw [RR_rep A s a1 a2] at hl hh
  have up : A * 2 ^ s ≤ 2 * (B * 2 ^ t) := by
    by_cases hB : 8388608 ≤ B
    · have e1 : 2 * (B * 2 ^ t) = B * 2 ^ (t + 1) := by rw [Nat.pow_succ]; ac_rfl
      rw [e1] at hh ⊢
      rw [RR_rep B (t + 1) b1 (Or.inr hB)] at hh
      exact rep_le a1 a2 b1 (Or.inr hB) hh
    · have t0 : t = 0 := by omega
      subst t0
      rw [Nat.pow_zero, Nat.mul_one] at hh ⊢
      have e2 := RR_rep (2 * B) 0 (by omega) (Or.inl rfl)
      rw [Nat.pow_zero, Nat.mul_one] at e2
      rw [e2] at hh
      have := rep_le (t := 0) a1 a2 (show 2 * B < 16777216 by omega) (Or.inl rfl) hh
      rwa [Nat.pow_zero, Nat.mul_one] at this
  have lo : 1 ≤ t → B * 2 ^ t ≤ 2 * (A * 2 ^ s) := fun h1 => by
    obtain ⟨t', rfl⟩ : ∃ t', t = t' + 1 := ⟨t - 1, by omega⟩
    rw [half_hi, RR_rep B t' b1 (by omega)] at hl
    have := rep_le b1 (by omega) a1 a2 hl
    rw [Nat.pow_succ, show B * (2 ^ t' * 2) = 2 * (B * 2 ^ t') from by ac_rfl]
    omega
  have fin : ∀ (D : Int) (g : Nat), g ≤ 300 → -16777216 < D → D < 16777216 → ((A * 2 ^ s : Nat) : Int) - ((B * 2 ^ t : Nat) : Int) = D * ((2 ^ g : Nat) : Int) → Rep (((A * 2 ^ s : Nat) : Int) - ((B * 2 ^ t : Nat) : Int)) := fun D g hg d1 d2 he => by
    rw [he]
    rcases Int.le_total 0 D with h | h
    · have := rep_of D.toNat g (by omega) hg
      rwa [Int.natCast_mul, show ((D.toNat : Nat) : Int) = D from by omega] at this
    · have := (rep_of (-D).toNat g (by omega) hg).neg
      rwa [Int.natCast_mul, show (((-D).toNat : Nat) : Int) = -D from by omega, Int.neg_mul, Int.neg_neg] at this
  rcases Nat.lt_or_ge t s with hc | hc
  · have e1 : A * 2 ^ s = A * 2 ^ (s - t) * 2 ^ t := by rw [Nat.mul_assoc, ← Nat.pow_add, show s - t + t = s from by omega]
    have hp := Nat.pow_pos (n := t) (a := 2) (by decide)
    have hu : A * 2 ^ (s - t) ≤ 2 * B := by
      rw [e1, ← Nat.mul_assoc] at up
      exact Nat.le_of_mul_le_mul_right up hp
    refine fin ((A * 2 ^ (s - t) : Nat) - (B : Nat)) t ht (by omega) (by omega) ?_
    rw [e1, Int.sub_mul, ← Int.natCast_mul, ← Int.natCast_mul]
  · have e1 : B * 2 ^ t = B * 2 ^ (t - s) * 2 ^ s := by rw [Nat.mul_assoc, ← Nat.pow_add, show t - s + s = t from by omega]
    have hp := Nat.pow_pos (n := s) (a := 2) (by decide)
    refine fin ((A : Nat) - (B * 2 ^ (t - s) : Nat)) s hs ?_ (by omega) ?_
    · by_cases h0 : t = s
      · rw [h0, Nat.sub_self, Nat.pow_zero, Nat.mul_one]
        omega
      · have hu : B * 2 ^ (t - s) ≤ 2 * A := by
          have := lo (by omega)
          rw [e1, ← Nat.mul_assoc] at this
          exact Nat.le_of_mul_le_mul_right this hp
        omega
    · rw [e1, Int.sub_mul, ← Int.natCast_mul, ← Int.natCast_mul]

theorem st_neg (B t : Nat) (b0 : 1 ≤ B) (b1 : B < 16777216) (b2 : t = 0 ∨ 8388608 ≤ B) : RR (B * 2 ^ t) 1 < RR (2 * (B * 2 ^ t)) 0 := by
  have e1 : 2 * (B * 2 ^ t) = B * 2 ^ (t + 1) := by rw [Nat.pow_succ]; ac_rfl
  by_cases ht : 1 ≤ t
  · obtain ⟨t', rfl⟩ : ∃ t', t = t' + 1 := ⟨t - 1, by omega⟩
    rw [half_hi, e1, RR_rep B t' b1 (by omega), RR_rep B (t' + 1 + 1) b1 (by omega)]
    omega
  · obtain rfl : t = 0 := by omega
    rw [Nat.pow_zero, Nat.mul_one, half_lo B b1]
    have h1 := rhe_hi B 1
    rw [Nat.pow_one] at h1
    by_cases hB : 2 * B < 16777216
    · rw [RR_small (2 * B) hB]
      by_cases hb1 : B = 1
      · subst hb1
        decide
      · omega
    · have := RR_rep B 1 b1 (Or.inr (by omega))
      rw [Nat.pow_one, Nat.mul_comm] at this
      rw [this]
      omega

/-- a real's value: a mantissa's bits, and how far they are shifted -/
theorem val_of {m e : Int} (h : vr m e = true) : ∃ A s : Nat, A < 16777216 ∧ (s = 0 ∨ 8388608 ≤ A) ∧ s ≤ 300 ∧ (m = 0 ↔ A = 0) ∧ (0 ≤ m → UU m e = ((A * 2 ^ s : Nat) : Int)) ∧ (m ≤ 0 → UU m e = -((A * 2 ^ s : Nat) : Int)) := by
  have q := vr_iff.1 h
  have e3 : ∀ k : Nat, ((2 ^ k : Nat) : Int) = (2 : Int) ^ k := fun k => by push_cast; rfl
  by_cases hz : m = 0
  · subst hz
    exact ⟨0, 0, by decide, Or.inl rfl, by decide, by simp, fun _ => by rw [UU_zero]; rfl, fun _ => by rw [UU_zero]; rfl⟩
  · have hab : (ab m = m ∧ 0 < m) ∨ (ab m = -m ∧ m < 0) := by unfold ab; split <;> omega
    refine ⟨(ab m).toNat, (e + 150).toNat, by omega, by omega, by omega, by omega, fun h0 => ?_, fun h0 => ?_⟩
    · rw [Int.natCast_mul, e3]
      unfold UU
      rw [show (((ab m).toNat : Nat) : Int) = m from by omega]
    · rw [Int.natCast_mul, e3]
      unfold UU
      rw [show (((ab m).toNat : Nat) : Int) = -m from by omega, Int.neg_mul, Int.neg_neg]

theorem sterbenz {m e k f : Int} (h1 : vr m e = true) (h2 : vr k f = true) (hl : RI (UU k f) 1 ≤ RI (UU m e) 0) (hh : RI (UU m e) 0 ≤ RI (2 * UU k f) 0) : Rep (UU m e - UU k f) := by
  obtain ⟨A, s, a1, a2, a3, a4, a5, a6⟩ := val_of h1
  obtain ⟨B, t, b1, b2, b3, b4, b5, b6⟩ := val_of h2
  have hri : ∀ (N q : Nat), RI (N : Int) q = (RR N q : Int) := fun N q => by unfold RI; rw [if_neg (by omega), Int.toNat_natCast]
  have hrn : ∀ (N q : Nat), RI (-(N : Int)) q = -(RR N q : Int) := fun N q => by rw [RI_neg, hri]
  have h2n : ∀ N : Nat, 2 * (N : Int) = ((2 * N : Nat) : Int) := fun N => by omega
  rcases Int.lt_trichotomy k 0 with hk | hk | hk
  · exfalso
    have hy := b6 (by omega)
    rw [hy, hrn] at hl
    rw [hy, Int.mul_neg, h2n, hrn] at hh
    have := st_neg B t (by omega) b1 b2
    omega
  · subst hk
    have hy : UU 0 f = 0 := UU_zero f
    rw [hy, RI_zero] at hl
    rw [hy, Int.mul_zero, RI_zero] at hh
    have hx : ix m e = ix 0 0 := by rw [ix_val h1]; show _ = 0; omega
    have := (UU_eq h1 (show vr 0 0 = true by rfl)).1 hx
    rw [hy, this, UU_zero]
    exact ⟨0, 0, by rfl, by rw [UU_zero]; rfl⟩
  · have hy := b5 (by omega)
    rw [hy, hri] at hl
    rw [hy, h2n, hri] at hh
    rcases Int.lt_or_le m 0 with hm | hm
    · exfalso
      have hx := a6 (by omega)
      rw [hx, hrn, RR_rep A s a1 a2] at hl
      omega
    · have hx := a5 hm
      rw [hx, hri] at hl hh
      rw [hx, hy]
      exact st_pos A s B t a1 a2 b1 b2 a3 b3 (by omega) (by omega)

/-! XIntM -/

theorem flo_val (m e : Int) (h1 : -150 ≤ e) (h2 : e ≤ 38) : flo m e = m * 2 ^ (e + 150).toNat / 2 ^ 150 := by
  unfold flo
  by_cases h : e ≤ 0
  · rw [if_pos h]
    have e1 : (2 : Int) ^ 150 = 2 ^ (-e).toNat * 2 ^ (e + 150).toNat := by rw [← Int.pow_add, show (-e).toNat + (e + 150).toNat = 150 from by omega]
    rw [e1, Int.mul_ediv_mul_of_pos_left _ _ (pow_pos _)]
  · rw [if_neg h, if_neg (by omega)]
    rw [show (e + 150).toNat = e.toNat + 150 from by omega, Int.pow_add, ← Int.mul_assoc, Int.mul_ediv_cancel _ (Int.ne_of_gt (pow_pos 150))]

theorem ent_UU {m e : Int} (h : vr m e = true) (h2 : e ≤ 37) : ent m e = UU m e / 2 ^ 150 := by
  obtain ⟨_, _, h3, _⟩ := vr_bd h
  exact flo_val m e h3 (by omega)

theorem rnd_UU {m e : Int} (h : vr m e = true) (h2 : e ≤ 37) : rnd m e = (UU m e + 2 ^ 149) / 2 ^ 150 := by
  obtain ⟨_, _, h3, _⟩ := vr_bd h
  unfold rnd UU
  rw [flo_val m (e + 1) (by omega) (by omega), show (e + 1 + 150).toNat = (e + 150).toNat + 1 from by omega, Int.pow_succ, ← Int.mul_assoc]
  have hp : (0 : Int) < 2 ^ 149 := pow_pos _
  rw [show (2 : Int) ^ 150 = 2 ^ 149 * 2 from by rw [← Int.pow_succ]]
  generalize m * 2 ^ (e + 150).toNat = U
  generalize (2 : Int) ^ 149 = Q at *
  rw [Int.mul_ediv_mul_of_pos_left _ _ (by decide), ← Int.ediv_ediv_of_nonneg (Int.le_of_lt hp)]
  congr 1
  have := Int.add_mul_ediv_right U 1 (c := Q) (by omega)
  rw [Int.one_mul] at this
  exact this.symm

theorem big_e {m e : Int} (h : vr m e = true) (hp : inR (ent m e) = true) : e ≤ 37 := by
  rcases Int.lt_or_le 37 e with h8 | h8
  · exfalso
    have k := vr_iff.1 h
    have hr := of_decide_eq_true hp
    have hm : 8388608 ≤ m ∨ m ≤ -8388608 := by unfold ab at k; split at k <;> omega
    unfold ent flo at hr
    rw [if_neg (by omega)] at hr
    split at hr
    · unfold c3 at hr
      rcases hm with hm | hm
      · rw [if_neg (by omega), if_pos (by omega)] at hr; omega
      · rw [if_pos (by omega)] at hr; omega
    · rw [show e.toNat = 38 from by omega] at hr
      omega
  · exact h8

theorem rep_int (n : Int) (h1 : -16777216 ≤ n) (h2 : n ≤ 16777216) : Rep (n * 2 ^ 150) := by
  have pos : ∀ M : Nat, M ≤ 16777216 → Rep ((M : Int) * 2 ^ 150) := fun M hM => by
    have e3 : ((2 ^ 150 : Nat) : Int) = (2 : Int) ^ 150 := pow_nat 150
    rcases Nat.lt_or_ge M 16777216 with h | h
    · have := rep_of M 150 h (by omega)
      rwa [Int.natCast_mul, e3] at this
    · have hM2 : M = 16777216 := by omega
      have := rep_of 1 174 (by decide) (by omega)
      rw [hM2, ← e3, ← Int.natCast_mul]
      have e4 : 16777216 * 2 ^ 150 = 1 * 2 ^ 174 := by decide
      rw [e4]
      exact this
  rcases Int.le_total 0 n with h | h
  · obtain ⟨M, rfl⟩ : ∃ M : Nat, n = M := ⟨n.toNat, by omega⟩
    exact pos M (by omega)
  · obtain ⟨M, rfl⟩ : ∃ M : Nat, n = -(M : Int) := ⟨(-n).toNat, by omega⟩
    rw [Int.neg_mul]
    exact (pos M (by omega)).neg

/-- FromInt of an int of up to 2^24 is the real with its value -/
theorem fi_is (n : Int) (h1 : -16777216 ≤ n) (h2 : n ≤ 16777216) : ∃ k f, vr k f = true ∧ UU k f = n * 2 ^ 150 ∧ aM (rI n 0) = k ∧ aE (rI n 0) = f := by
  obtain ⟨k, f, hv, hu⟩ := rep_int n h1 h2
  refine ⟨k, f, hv, hu, ?_⟩
  have := rI_val n 0 0 (by omega) (by omega) (by omega)
  rw [show (0 + 150 + ((0 : Nat) : Int)).toNat = 150 from rfl, ← hu, ← ix_val hv] at this
  rw [this]
  exact at_ix hv

theorem ent_fi {n k f : Int} (h1 : -16777216 ≤ n) (h2 : n ≤ 16777216) (hv : vr k f = true) (hu : UU k f = n * 2 ^ 150) : ent k f = n := by
  have hf : f ≤ 37 := by
    rcases Int.lt_or_le 37 f with h | h
    · exfalso
      have kk := vr_iff.1 hv
      have hm : 8388608 ≤ k ∨ k ≤ -8388608 := by unfold ab at kk; split at kk <;> omega
      unfold UU at hu
      have e1 : (2 : Int) ^ (f + 150).toNat = 2 ^ f.toNat * 2 ^ 150 := by rw [← Int.pow_add, show f.toNat + 150 = (f + 150).toNat from by omega]
      rw [e1, ← Int.mul_assoc] at hu
      have h3 := Int.eq_of_mul_eq_mul_right (Int.ne_of_gt (pow_pos 150)) hu
      have hp : (2 : Int) ^ 38 ≤ 2 ^ f.toNat := pow_mono 38 _ (by omega)
      rcases hm with hm | hm
      · have a := Int.mul_le_mul hm hp (by decide) (by omega)
        omega
      · have a := Int.mul_le_mul (show 8388608 ≤ -k by omega) hp (by decide) (by omega)
        rw [Int.neg_mul] at a
        omega
    · exact h
  rw [ent_UU hv hf, hu, Int.mul_ediv_cancel _ (Int.ne_of_gt (pow_pos 150))]

/-- what Entier, Round and the Round of the negated real have to do with the rest of the value beyond the integer -/
theorem parts (U P Q : Int) (hP : P = 2 * Q) (hQ : 0 < Q) : ∃ a r, U = a * P + r ∧ 0 ≤ r ∧ r < P ∧ U / P = a ∧
    ((r < Q ∧ (U + Q) / P = a ∧ (-U + Q) / P = -a) ∨ (r = Q ∧ (U + Q) / P = a + 1 ∧ (-U + Q) / P = -a) ∨ (Q < r ∧ (U + Q) / P = a + 1 ∧ (-U + Q) / P = -(a + 1))) := by
  have h1 := Int.emod_nonneg U (b := P) (by omega)
  have h2 := Int.emod_lt_of_pos U (b := P) (by omega)
  have h3 := Int.emod_add_mul_ediv U P
  obtain ⟨a, ha⟩ : ∃ a, U / P = a := ⟨_, rfl⟩
  obtain ⟨r, hr⟩ : ∃ r, U % P = r := ⟨_, rfl⟩
  rw [ha, hr] at h3
  rw [hr] at h1 h2
  have key : ∀ x b : Int, 0 ≤ x → x < P → (P * b + x) / P = b := fun x b hx1 hx2 => by
    rw [Int.add_comm, Int.add_mul_ediv_left _ _ (by omega), Int.ediv_eq_zero_of_lt hx1 hx2, Int.zero_add]
  refine ⟨a, r, by rw [Int.mul_comm]; omega, h1, h2, ha, ?_⟩
  have m1 : P * (a + 1) = P * a + P := by rw [Int.mul_add, Int.mul_one]
  have m2 : P * (-a) = -(P * a) := by rw [Int.mul_neg]
  have m3 : P * (-(a + 1)) = -(P * a) - P := by rw [Int.mul_neg, m1]; omega
  rcases Int.lt_trichotomy r Q with h | h | h
  · left
    refine ⟨h, ?_, ?_⟩
    · have := key (r + Q) a (by omega) (by omega)
      rwa [show P * a + (r + Q) = U + Q from by omega] at this
    · have := key (Q - r) (-a) (by omega) (by omega)
      rwa [show P * (-a) + (Q - r) = -U + Q from by omega] at this
  · right; left
    refine ⟨h, ?_, ?_⟩
    · have := key 0 (a + 1) (by omega) (by omega)
      rwa [show P * (a + 1) + 0 = U + Q from by omega] at this
    · have := key 0 (-a) (by omega) (by omega)
      rwa [show P * (-a) + 0 = -U + Q from by omega] at this
  · right; right
    refine ⟨h, ?_, ?_⟩
    · have := key (r - Q) (a + 1) (by omega) (by omega)
      rwa [show P * (a + 1) + (r - Q) = U + Q from by omega] at this
    · have := key (Q - r + P) (-(a + 1)) (by omega) (by omega)
      rwa [show P * (-(a + 1)) + (Q - r + P) = -U + Q from by omega] at this

theorem half_vr : vr 8388608 (-24) = true := by decide

theorem half_UU : UU 8388608 (-24) = 2 ^ 149 := by decide +kernel

theorem one_vr : vr 8388608 (-23) = true := by decide

theorem one_UU : UU 8388608 (-23) = 2 ^ 150 := by decide +kernel

/-- the rest beyond the integer, when it is below a half, is a real -/
theorem rest_rep {m e k f U a r : Int} (h1 : vr m e = true) (h2 : vr k f = true) (hm : UU m e = U) (hk : UU k f = a * 2 ^ 150) (hU : U = a * 2 ^ 150 + r) (r0 : 0 ≤ r) (r1 : r < 2 ^ 149) : Rep r := by
  have e0 : (2 : Int) ^ 150 = 2 * 2 ^ 149 := by rw [show (150 : Nat) = 149 + 1 from rfl, Int.pow_succ, Int.mul_comm]
  have hQ : (0 : Int) < 2 ^ 149 := pow_pos _
  rw [e0] at hk hU
  generalize (2 : Int) ^ 149 = Q at *
  have up : ∀ x : Int, RI x 0 = RI (x * 2) 1 := fun x => by
    have := RI_scale x 0 1
    simpa using this.symm
  rcases Int.lt_trichotomy a 0 with h | h | h
  · have hA : a * (2 * Q) ≤ -1 * (2 * Q) := Int.mul_le_mul_of_nonneg_right (by omega) (by omega)
    generalize a * (2 * Q) = A at *
    have v1 : vr (-m) e = true := by rw [vr_neg]; exact h1
    have v2 : vr (-k) f = true := by rw [vr_neg]; exact h2
    have s := sterbenz v1 v2 (by rw [UU_neg, UU_neg, up]; exact RI_mono (by omega) 1) (by rw [UU_neg, UU_neg]; exact RI_mono (by omega) 0)
    have := s.neg
    rw [UU_neg, UU_neg, hm, hk] at this
    rwa [show -(-U - -A) = r from by omega] at this
  · subst h
    exact ⟨m, e, h1, by omega⟩
  · have hA : 1 * (2 * Q) ≤ a * (2 * Q) := Int.mul_le_mul_of_nonneg_right (by omega) (by omega)
    generalize a * (2 * Q) = A at *
    have s := sterbenz h1 h2 (by rw [up]; exact RI_mono (by omega) 1) (by exact RI_mono (by omega) 0)
    rw [hm, hk] at s
    rwa [show U - A = r from by omega] at s

theorem c3_lt {a b : Int} (h : a < b) : c3 a b = -1 := by unfold c3; rw [if_pos h]

theorem c3_gt {a b : Int} (h : b < a) : c3 a b = 1 := by unfold c3; rw [if_neg (by omega), if_pos h]

theorem c3_eq {a b : Int} (h : a = b) : c3 a b = 0 := by subst h; unfold c3; simp

/-- a sum of two reals that lies from 0 to 1 -/
theorem sum_small {m e k f r : Int} (h1 : vr m e = true) (h2 : vr k f = true) (hr : UU m e + UU k f = r) (r0 : 0 ≤ r) (r1 : r ≤ 2 ^ 150) :
    ∃ d g, vr d g = true ∧ ix d g = RI r 0 ∧ roM (smM m e k f) (smE m e k f) = d ∧ roE (smM m e k f) (smE m e k f) = g ∧ roX (smM m e k f) (smE m e k f) = 0 := by
  have hs := sum_val h1 h2
  rw [hr] at hs
  have b1 : 0 ≤ RI r 0 := by have := RI_mono r0 0; rwa [RI_zero] at this
  have b2 : RI r 0 ≤ 2533359615 := by
    have a := RI_mono r1 0
    rw [← one_UU, ← ix_val one_vr] at a
    have : ix 8388608 (-23) ≤ 2533359615 := (ix_bd one_vr).2
    omega
  have hk : rOk (smM m e k f) (smE m e k f) = true := decide_eq_true (by rw [hs]; omega)
  refine ⟨aM (RI r 0), aE (RI r 0), at_vr (by omega) (by omega), ix_at (by omega) (by omega), ?_, ?_, ?_⟩
  · unfold roM; rw [if_pos hk, hs]
  · unfold roE; rw [if_pos hk, hs]
  · unfold roX; rw [if_pos hk]

/-! XAlgM -/

def oM (I : Int) : Int := if -2533359615 ≤ I ∧ I ≤ 2533359615 then aM I else 0

def oE (I : Int) : Int := if -2533359615 ≤ I ∧ I ≤ 2533359615 then aE I else 0

def oX (I : Int) : Int := if -2533359615 ≤ I ∧ I ≤ 2533359615 then 0 else 3

abbrev oR (I : Int) : Value := rE (oM I) (oE I) (oX I)

theorem oV_oR (m e : Int) : oV m e = oR (rI m e) := by
  show rE _ _ _ = rE _ _ _
  unfold roM roE roX rOk oM oE oX
  by_cases h : -2533359615 ≤ rI m e ∧ rI m e ≤ 2533359615
  · simp [h]
  · rw [decide_eq_false h, if_neg h, if_neg h, if_neg h]
    rfl

theorem aM_neg (i : Int) : aM (-i) = -aM i := by unfold aM sx ab; split <;> split <;> (try split) <;> omega

theorem aE_neg (i : Int) : aE (-i) = aE i := by unfold aE sx ab; split <;> split <;> (try split) <;> omega

theorem oM_neg (I : Int) : oM (-I) = -oM I := by
  unfold oM
  by_cases h : -2533359615 ≤ I ∧ I ≤ 2533359615
  · rw [if_pos h, if_pos (by omega), aM_neg]
  · rw [if_neg h, if_neg (by omega)]; rfl

theorem oE_neg (I : Int) : oE (-I) = oE I := by
  unfold oE
  by_cases h : -2533359615 ≤ I ∧ I ≤ 2533359615
  · rw [if_pos h, if_pos (by omega), aE_neg]
  · rw [if_neg h, if_neg (by omega)]

theorem oX_neg (I : Int) : oX (-I) = oX I := by
  unfold oX
  by_cases h : -2533359615 ≤ I ∧ I ≤ 2533359615
  · rw [if_pos h, if_pos (by omega)]
  · rw [if_neg h, if_neg (by omega)]

theorem o_vr (I : Int) : vr (oM I) (oE I) = true := by
  unfold oM oE
  by_cases h : -2533359615 ≤ I ∧ I ≤ 2533359615
  · rw [if_pos h, if_pos h]; exact at_vr h.1 h.2
  · rw [if_neg h, if_neg h]; rfl

theorem o_in {I : Int} (h1 : -2533359615 ≤ I) (h2 : I ≤ 2533359615) : oX I = 0 ∧ ix (oM I) (oE I) = I := by
  unfold oM oE oX
  rw [if_pos ⟨h1, h2⟩, if_pos ⟨h1, h2⟩, if_pos ⟨h1, h2⟩]
  exact ⟨rfl, ix_at h1 h2⟩

theorem o_ix {m e : Int} (h : vr m e = true) : oM (ix m e) = m ∧ oE (ix m e) = e ∧ oX (ix m e) = 0 := by
  have b := ix_bd h
  have a := at_ix h
  unfold oM oE oX
  rw [if_pos b, if_pos b, if_pos b]
  exact ⟨a.1, a.2, rfl⟩

theorem o_dec (I : Int) : (oX I = 0 ∧ -2533359615 ≤ I ∧ I ≤ 2533359615) ∨ (oX I = 3 ∧ oM I = 0 ∧ oE I = 0) := by
  unfold oM oE oX
  by_cases h : -2533359615 ≤ I ∧ I ≤ 2533359615
  · left; rw [if_pos h]; exact ⟨rfl, h⟩
  · right; rw [if_neg h, if_neg h, if_neg h]; exact ⟨rfl, rfl, rfl⟩

theorem add_i {m e k f : Int} (h1 : vr m e = true) (h2 : vr k f = true) : oV (smM m e k f) (smE m e k f) = oR (RI (UU m e + UU k f) 0) := by rw [oV_oR, sum_val h1 h2]

theorem sub_i {m e k f : Int} (h1 : vr m e = true) (h2 : vr k f = true) : oV (smM m e (-k) f) (smE m e (-k) f) = oR (RI (UU m e - UU k f) 0) := by
  have h3 : vr (-k) f = true := by rw [vr_neg]; exact h2
  rw [add_i h1 h3, UU_neg, Int.sub_eq_add_neg]

theorem mul_i {m e k f : Int} (h1 : vr m e = true) (h2 : vr k f = true) : oV (m * k) (e + f) = oR (RI (UU m e * UU k f) 150) := by rw [oV_oR, mul_val h1 h2]

theorem mul_one {m e : Int} (h : vr m e = true) : oV (m * 8388608) (e + (-23)) = oR (ix m e) := by
  rw [mul_i h one_vr, one_UU]
  have := RI_scale (UU m e) 0 150
  rw [Nat.zero_add] at this
  rw [this, ← ix_val h]

theorem mul_half {m e : Int} (h : vr m e = true) : oV (m * 8388608) (e + (-24)) = oR (RI (UU m e) 1) := by
  rw [mul_i h half_vr, half_UU]
  have := RI_scale (UU m e) 1 149
  rw [this]

theorem add_zero' {m e : Int} (h : vr m e = true) : oV (smM m e 0 0) (smE m e 0 0) = oR (ix m e) := by
  rw [add_i h (by rfl : vr 0 0 = true), UU_zero, Int.add_zero, ← ix_val h]

theorem qu_one {m e : Int} (h : vr m e = true) : rI (quM m 8388608) (quE m e (-23)) = ix m e := by
  obtain ⟨m1, m2, e1, e2⟩ := vr_bd h
  obtain ⟨s1, s2, _, _⟩ := quS_bd m (by omega) (by omega)
  have hq := quM_bd m 8388608 (by omega) (by omega) (by decide) (by decide) (by decide)
  obtain ⟨t, ht⟩ : ∃ t : Nat, quS m = (t : Int) + 23 := ⟨(quS m - 23).toNat, by omega⟩
  have hM : quM m 8388608 = m * 2 ^ (t + 1) := by
    unfold quM quP
    rw [ht, show ((t : Int) + 23).toNat = t + 23 from by omega, show ab 8388608 = 2 ^ 23 from rfl, Int.pow_add, ← Int.mul_assoc,
      Int.mul_tdiv_cancel _ (by decide), Int.mul_tmod_left]
    unfold qsg stk ab
    simp only [bne_self_eq_false, Bool.false_eq_true, if_false]
    rw [Int.pow_succ]
    by_cases hm : m < 0
    · rw [if_pos hm, decide_eq_true hm, if_neg (by decide), Int.neg_mul]
      rw [Int.mul_neg, Int.neg_neg, Int.mul_comm 2, Int.mul_assoc]
    · rw [if_neg hm, decide_eq_false hm, if_pos (by decide), Int.mul_comm 2, Int.mul_assoc]
  have hE : quE m e (-23) = e - (t : Int) - 1 := by unfold quE; omega
  rw [hE]
  rw [rI_val (quM m 8388608) (e - t - 1) 62 (by omega) (by omega) (by omega), hM, Int.mul_assoc, ← Int.pow_add,
    show t + 1 + (e - (t : Int) - 1 + 150 + ((62 : Nat) : Int)).toNat = (e + 150).toNat + 62 from by omega, Int.pow_add, ← Int.mul_assoc]
  have := RI_scale (UU m e) 0 62
  rw [Nat.zero_add] at this
  rw [show m * 2 ^ (e + 150).toNat = UU m e from rfl, this, ← ix_val h]

theorem div_one {m e : Int} (h : vr m e = true) : oV (quM m 8388608) (quE m e (-23)) = oR (ix m e) := by rw [oV_oR, qu_one h]

theorem RI_one : RI 1 0 = 1 := by
  have h : vr 1 (-150) = true := by decide
  have a := ix_val h
  rw [show UU 1 (-150) = 1 from by decide] at a
  rw [← a]
  decide

/-- a difference is 0 exactly if the operands are equal -/
theorem dif_ne {D : Int} (h : D ≠ 0) : RI D 0 ≠ 0 := by
  rcases Int.lt_or_gt_of_ne h with h | h
  · have := RI_mono (show D ≤ -1 by omega) 0
    rw [RI_neg, RI_one] at this
    omega
  · have := RI_mono (show 1 ≤ D by omega) 0
    rw [RI_one] at this
    omega

theorem ix_ne {m e : Int} (h : vr m e = true) (h0 : ix m e ≠ 0) : m ≠ 0 := by
  intro hm
  subst hm
  apply h0
  have := vr_iff.1 h
  have : e = 0 := by unfold ab at this; simp at this; omega
  subst this
  rfl

theorem dif_m {D : Int} (h : D ≠ 0) : oX (RI D 0) = 3 ∨ (oX (RI D 0) = 0 ∧ oM (RI D 0) ≠ 0) := by
  rcases o_dec (RI D 0) with ⟨h1, h2, h3⟩ | ⟨h1, _⟩
  · right
    refine ⟨h1, ix_ne (o_vr _) ?_⟩
    rw [(o_in h2 h3).2]
    exact dif_ne h
  · exact Or.inl h1

/-- a half is a real -/
theorem half_in {k f : Int} (h : vr k f = true) : -2533359615 ≤ RI (UU k f) 1 ∧ RI (UU k f) 1 ≤ 2533359615 := by
  have b := ix_bd h
  rw [ix_val h] at b
  have up : RI (UU k f) 0 = RI (UU k f * 2) 1 := by
    have := RI_scale (UU k f) 0 1
    simpa using this.symm
  have z := RI_zero 1
  rcases Int.le_total 0 (UU k f) with h0 | h0
  · have a1 := RI_mono h0 1
    have a2 := RI_mono (show UU k f ≤ UU k f * 2 by omega) 1
    omega
  · have a1 := RI_mono h0 1
    have a2 := RI_mono (show UU k f * 2 ≤ UU k f by omega) 1
    omega

/-- where half of y ≤ x ≤ twice y, x - y is a real, and (x - y) + y is x -/
theorem back {m e k f : Int} (h1 : vr m e = true) (h2 : vr k f = true) (hl : RI (UU k f) 1 ≤ RI (UU m e) 0) (hh : RI (UU m e) 0 ≤ RI (UU k f + UU k f) 0) :
    ∃ d g, vr d g = true ∧ oV (smM m e (-k) f) (smE m e (-k) f) = rE d g 0 ∧ oV (smM d g k f) (smE d g k f) = rE m e 0 := by
  obtain ⟨d, g, hv, hd⟩ := sterbenz h1 h2 hl (by rw [Int.two_mul]; exact hh)
  refine ⟨d, g, hv, ?_, ?_⟩
  · rw [sub_i h1 h2, ← hd, ← ix_val hv]
    obtain ⟨a, b, c⟩ := o_ix hv
    show rE _ _ _ = _
    rw [a, b, c]
  · rw [add_i hv h2, hd, Int.sub_add_cancel, ← ix_val h1]
    obtain ⟨a, b, c⟩ := o_ix h1
    show rE _ _ _ = _
    rw [a, b, c]

end Go.Proofs.YtbfknapmhkpgcaaGreatDoor
