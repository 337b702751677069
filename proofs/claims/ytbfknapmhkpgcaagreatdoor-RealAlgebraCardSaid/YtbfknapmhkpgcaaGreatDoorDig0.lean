/-
  PACKAGE real, decimal digits: mathematics of chunks and digits.
-/
import Derived.Test.YtbfknapmhkpgcaaGreatDoorNum4

namespace Go.Proofs.YtbfknapmhkpgcaaGreatDoor
open Go.RowKit
set_option linter.unusedVariables false

/-- the chunks of a fraction F (in units of 2^-192), so many at most -/
def frC : Nat → Nat → List Nat
  | 0, _ => []
  | n + 1, F => if F = 0 then [] else F * 10 ^ 19 / BB ^ 3 :: frC n (F * 10 ^ 19 % BB ^ 3)

/-- is the fraction at its end behind so many chunks? -/
def frOk : Nat → Nat → Bool
  | 0, F => F == 0
  | n + 1, F => F == 0 || frOk n (F * 10 ^ 19 % BB ^ 3)

def whC (W : Nat) : List Nat := [W / 10 ^ 19 / 10 ^ 19 % 10 ^ 19, W / 10 ^ 19 % 10 ^ 19, W % 10 ^ 19]

/-- the chunks of a number in fixed point -/
def chV (V : Nat) : List Nat := whC (V / BB ^ 3) ++ frC 9 (V % BB ^ 3)

/-- a chunk's digits, from the place p - 1 down -/
def chD (c : Nat) : Nat → List UInt8
  | 0 => []
  | p + 1 => UInt8.ofNat (c / 10 ^ p % 10 + 48) :: chD c p

def dgL (V : Nat) : List UInt8 := (chV V).flatMap fun c => chD c 19

theorem chD_len (c p : Nat) : (chD c p).length = p := by
  induction p with
  | zero => rfl
  | succ p ih => simp [chD, ih]

theorem chD_mem (c p : Nat) : ∀ b ∈ chD c p, 48 ≤ b.toNat ∧ b.toNat ≤ 57 := by
  induction p with
  | zero => intro b hb; cases hb
  | succ p ih =>
    intro b hb
    rcases List.mem_cons.1 hb with rfl | hb
    · have : c / 10 ^ p % 10 < 10 := Nat.mod_lt _ (by decide)
      generalize c / 10 ^ p % 10 = x at *
      rw [UInt8.toNat_ofNat']
      omega
    · exact ih b hb

theorem dg_dig (c p : Nat) : ((UInt8.ofNat (c / 10 ^ p % 10 + 48)).toNat : Int) = ((c / 10 ^ p % 10 : Nat) : Int) + 48 := by
  have : c / 10 ^ p % 10 < 10 := Nat.mod_lt _ (by decide)
  generalize c / 10 ^ p % 10 = x at *
  rw [UInt8.toNat_ofNat']
  omega

theorem dgL_mem (V : Nat) : ∀ b ∈ dgL V, 48 ≤ b.toNat ∧ b.toNat ≤ 57 := by
  intro b hb
  obtain ⟨c, _, hc⟩ := List.mem_flatMap.1 hb
  exact chD_mem c 19 b hc

theorem frC_len (n F : Nat) : (frC n F).length ≤ n := by
  induction n generalizing F with
  | zero => simp [frC]
  | succ n ih =>
    unfold frC
    split
    · simp
    · have := ih (F * 10 ^ 19 % BB ^ 3)
      simp only [List.length_cons]
      omega

theorem frC_lt (n F : Nat) (h : F < BB ^ 3) : ∀ c ∈ frC n F, c < 10 ^ 19 := by
  induction n generalizing F with
  | zero => intro c hc; cases hc
  | succ n ih =>
    intro c hc
    unfold frC at hc
    split at hc
    · cases hc
    · rcases List.mem_cons.1 hc with rfl | hc
      · rw [Nat.div_lt_iff_lt_mul (bbpos 3), Nat.mul_comm]
        exact Nat.mul_lt_mul_of_pos_left h (by decide)
      · exact ih _ (Nat.mod_lt _ (bbpos 3)) c hc

theorem chV_lt (V : Nat) : ∀ c ∈ chV V, c < 10 ^ 19 := by
  intro c hc
  rcases List.mem_append.1 hc with hc | hc
  · have h := Nat.pow_pos (a := 10) (n := 19) (by decide)
    simp only [whC, List.mem_cons, List.not_mem_nil, or_false] at hc
    rcases hc with rfl | rfl | rfl <;> exact Nat.mod_lt _ h
  · exact frC_lt 9 _ (Nat.mod_lt _ (bbpos 3)) c hc

theorem chV_len (V : Nat) : (chV V).length ≤ 12 := by
  have := frC_len 9 (V % BB ^ 3)
  simp only [chV, whC, List.length_append, List.length_cons, List.length_nil]
  omega

theorem dgL_len (V : Nat) : (dgL V).length = 19 * (chV V).length := by
  unfold dgL
  generalize chV V = l
  induction l with
  | nil => rfl
  | cons c l ih => simp only [List.flatMap_cons, List.length_append, List.length_cons, chD_len, ih]; omega

theorem dgL_le (V : Nat) : (dgL V).length ≤ 228 := by
  have := dgL_len V
  have := chV_len V
  omega

/-- the fraction of a real is at its end behind nine chunks -/
theorem frOk_of (k n F : Nat) (h : 192 ≤ k + 19 * n) (hd : 2 ^ k ∣ F) (hF : F < BB ^ 3) : frOk n F = true := by
  induction n generalizing k F with
  | zero =>
    have h1 : (2 : Nat) ^ 192 ∣ F := Nat.dvd_trans (Nat.pow_dvd_pow 2 (by omega)) hd
    have e : (2 : Nat) ^ 192 = BB ^ 3 := by decide
    rw [e] at h1
    have := Nat.eq_zero_of_dvd_of_lt h1 hF
    simp [frOk, this]
  | succ n ih =>
    unfold frOk
    rw [Bool.or_eq_true]
    right
    by_cases hk : 192 ≤ k + 19
    · have h1 : (2 : Nat) ^ 192 ∣ F * 10 ^ 19 := by
        have a : (2 : Nat) ^ (k + 19) ∣ F * 10 ^ 19 := by
          rw [Nat.pow_add]
          exact Nat.mul_dvd_mul hd (by rw [show (10 : Nat) = 2 * 5 from rfl, Nat.mul_pow]; exact Nat.dvd_mul_right _ _)
        exact Nat.dvd_trans (Nat.pow_dvd_pow 2 hk) a
      have e : (2 : Nat) ^ 192 = BB ^ 3 := by decide
      rw [e] at h1
      rw [Nat.mod_eq_zero_of_dvd h1]
      cases n <;> rfl
    · refine ih (k + 19) _ (by omega) ?_ (Nat.mod_lt _ (bbpos 3))
      have a : (2 : Nat) ^ (k + 19) ∣ F * 10 ^ 19 := by
        rw [Nat.pow_add]
        exact Nat.mul_dvd_mul hd (by rw [show (10 : Nat) = 2 * 5 from rfl, Nat.mul_pow]; exact Nat.dvd_mul_right _ _)
      have b : (2 : Nat) ^ (k + 19) ∣ BB ^ 3 := by
        rw [show BB ^ 3 = 2 ^ 192 from by decide]
        exact Nat.pow_dvd_pow 2 (by omega)
      exact (Nat.dvd_mod_iff b).2 a

/-- a positive real in fixed point -/
def fxV (m e : Int) : Nat := m.toNat * 2 ^ (e + 192).toNat

theorem fxV_ok (m e : Int) (h : -150 ≤ e) : frOk 9 (fxV m e % BB ^ 3) = true := by
  refine frOk_of 42 9 _ (by decide) ?_ (Nat.mod_lt _ (bbpos 3))
  have a : (2 : Nat) ^ 42 ∣ fxV m e := Nat.dvd_trans (Nat.pow_dvd_pow 2 (by omega)) (Nat.dvd_mul_left _ _)
  have b : (2 : Nat) ^ 42 ∣ BB ^ 3 := by
    rw [show BB ^ 3 = 2 ^ 192 from by decide]
    exact Nat.pow_dvd_pow 2 (by decide)
  exact (Nat.dvd_mod_iff b).2 a

theorem fxV_lt (m e : Int) (h0 : 0 ≤ m) (h1 : m ≤ 16777216) (h2 : e ≤ 150) : fxV m e < BB ^ 7 := by
  unfold fxV
  obtain ⟨q, hq⟩ : ∃ q, (e + 192).toNat / 64 = q := ⟨_, rfl⟩
  obtain ⟨s, hs⟩ : ∃ s, (e + 192).toNat % 64 = s := ⟨_, rfl⟩
  have hn : (e + 192).toNat = s + 64 * q := by omega
  rw [hn, Nat.pow_add, Nat.pow_mul, show (2 : Nat) ^ 64 = BB from rfl, ← Nat.mul_assoc, show (7 : Nat) = 2 + 5 from rfl, Nat.pow_add]
  have hlt : m.toNat * 2 ^ s < BB ^ 2 := Nat.lt_of_le_of_lt (Nat.mul_le_mul (show m.toNat ≤ 2 ^ 24 by omega) (Nat.pow_le_pow_right (n := 2) (by decide) (show s ≤ 63 by omega))) (by decide)
  exact Nat.lt_of_lt_of_le (Nat.mul_lt_mul_of_pos_right hlt (bbpos q)) (Nat.mul_le_mul_left _ (Nat.pow_le_pow_right (by decide) (by omega)))

/-- the two limbs of it -/
theorem fxV_dg (m e : Int) (q s : Nat) (h0 : 0 ≤ m) (h1 : m ≤ 16777216) (hs : s < 64) (he : (e + 192).toNat = 64 * q + s) (i : Nat) :
    dg (fxV m e) i = if i = q then m.toNat * 2 ^ s % BB else if i = q + 1 then m.toNat * 2 ^ s / BB else 0 := by
  have hlt : m.toNat * 2 ^ s < BB * BB := Nat.lt_of_le_of_lt (Nat.mul_le_mul (show m.toNat ≤ 2 ^ 24 by omega) (Nat.pow_le_pow_right (n := 2) (by decide) (show s ≤ 63 by omega))) (by decide)
  have e1 : fxV m e = m.toNat * 2 ^ s * BB ^ q := by
    unfold fxV
    rw [he, Nat.pow_add, Nat.pow_mul, show (2 : Nat) ^ 64 = BB from rfl]
    ac_rfl
  rw [e1]
  generalize m.toNat * 2 ^ s = x at *
  unfold dg
  by_cases h : i < q
  · rw [if_neg (by omega), if_neg (by omega)]
    obtain ⟨d, hd⟩ : ∃ d, q = i + 1 + d := ⟨q - i - 1, by omega⟩
    have : x * BB ^ q / BB ^ i = x * BB ^ d * BB := by
      rw [hd, Nat.pow_add, Nat.pow_succ]
      have e : x * (BB ^ i * BB * BB ^ d) = BB ^ i * (x * BB ^ d * BB) := by ac_rfl
      rw [e, Nat.mul_div_cancel_left _ (bbpos i)]
    rw [this, Nat.mul_mod_left]
  · obtain ⟨j, rfl⟩ : ∃ j, i = q + j := ⟨i - q, by omega⟩
    rw [Nat.pow_add, ← Nat.div_div_eq_div_mul, Nat.mul_div_cancel _ (bbpos q)]
    by_cases hj : j = 0
    · subst hj
      simp
    · by_cases hj1 : j = 1
      · subst hj1
        rw [if_neg (by omega), if_pos rfl, Nat.pow_one]
        exact Nat.mod_eq_of_lt ((Nat.div_lt_iff_lt_mul (by decide)).2 hlt)
      · rw [if_neg (by omega), if_neg (by omega), Nat.div_eq_of_lt, Nat.zero_mod]
        refine Nat.lt_of_lt_of_le hlt ?_
        rw [← Nat.pow_two]
        exact Nat.pow_le_pow_right (by decide) (by omega)

end Go.Proofs.YtbfknapmhkpgcaaGreatDoor
