/-
  PACKAGE real, plain mathematics: what is rounded to is the nearest; reals as multiples of 2 to the -60th.
-/
import Derived.Test.YtoofdihnflnaiaaGreatDoorValA

namespace Go.Proofs.YtoofdihnflnaiaaGreatDoor
open Go.RowKit
set_option linter.unusedVariables false

theorem rhe_bd (N : Nat) : rhe N (kk N 0) ≤ 16777216 ∧ (kk N 0 = 0 ∨ 8388608 ≤ rhe N (kk N 0)) ∧ (kk N 0 = 0 → rhe N (kk N 0) = N) := by
  have h1 := kk_lt N 0
  have h2 := rhe_hi N (kk N 0)
  have h3 := rhe_lo N (kk N 0)
  have h4 : N / 2 ^ kk N 0 < 16777216 := by
    rw [Nat.div_lt_iff_lt_mul (Nat.pow_pos (by decide))]
    have e : (16777216 : Nat) * 2 ^ kk N 0 = 2 ^ (0 + 24 + kk N 0) := by rw [Nat.pow_add]
    omega
  refine ⟨by omega, ?_, fun h => by rw [h]; simp [rhe]⟩
  by_cases h : kk N 0 = 0
  · exact .inl h
  · right
    have h5 := kk_ge N 0 (by omega)
    have h6 : 8388608 ≤ N / 2 ^ kk N 0 := by
      rw [Nat.le_div_iff_mul_le (Nat.pow_pos (by decide))]
      have e : (8388608 : Nat) * 2 ^ kk N 0 = 2 ^ (0 + 23 + kk N 0) := by rw [Nat.pow_add]
      omega
    omega

/-- the rounded number is at least as near as each real -/
theorem near_nat (N B t : Nat) (hB : B < 16777216) : ab (((rhe N (kk N 0) * 2 ^ kk N 0 : Nat) : Int) - N) ≤ ab (((B * 2 ^ t : Nat) : Int) - N) := by
  have hb := rhe_bd N
  by_cases hk : kk N 0 = 0
  · rw [hb.2.2 hk, hk]
    simp only [Nat.pow_zero, Nat.mul_one]
    unfold ab
    split <;> split <;> omega
  · have hge := kk_ge N 0 (by omega)
    obtain ⟨j, hj⟩ : ∃ j, kk N 0 = j + 1 := ⟨kk N 0 - 1, by omega⟩
    rw [hj] at hge ⊢
    have hP : (2 : Nat) ^ (j + 1) = 2 * 2 ^ j := by rw [Nat.pow_succ]; omega
    have hh : 0 < 2 ^ j := Nat.pow_pos (by decide)
    have hd := Nat.div_add_mod N (2 ^ (j + 1))
    have hm := Nat.mod_lt N (show 0 < 2 ^ (j + 1) by omega)
    have e23 : (8388608 : Nat) * 2 ^ (j + 1) = 2 ^ (0 + 23 + (j + 1)) := by rw [show 0 + 23 + (j + 1) = 23 + (j + 1) from by omega, Nat.pow_add 2 23 (j + 1)]
    have ha : 8388608 ≤ N / 2 ^ (j + 1) := by
      rw [Nat.le_div_iff_mul_le (by omega)]
      omega
    have hV : (rhe N (j + 1) * 2 ^ (j + 1) = 2 ^ (j + 1) * (N / 2 ^ (j + 1)) ∧ N % 2 ^ (j + 1) ≤ 2 ^ j) ∨ (rhe N (j + 1) * 2 ^ (j + 1) = 2 ^ (j + 1) * (N / 2 ^ (j + 1)) + 2 ^ (j + 1) ∧ 2 ^ j ≤ N % 2 ^ (j + 1)) := by
      unfold rhe
      rw [if_neg (by omega), show j + 1 - 1 = j from rfl]
      split
      · right
        refine ⟨by rw [Nat.add_mul, Nat.one_mul, Nat.mul_comm], by omega⟩
      · left
        refine ⟨by rw [Nat.add_zero, Nat.mul_comm], by omega⟩
    have hW : B * 2 ^ t ≤ 2 ^ (j + 1) * (N / 2 ^ (j + 1)) ∨ 2 ^ (j + 1) * (N / 2 ^ (j + 1)) + 2 ^ (j + 1) ≤ B * 2 ^ t := by
      by_cases ht : j + 1 ≤ t
      · obtain ⟨i, rfl⟩ : ∃ i, t = j + 1 + i := ⟨t - (j + 1), by omega⟩
        have e : B * 2 ^ (j + 1 + i) = 2 ^ (j + 1) * (B * 2 ^ i) := by rw [Nat.pow_add, Nat.mul_left_comm]
        rw [e]
        by_cases hc : B * 2 ^ i ≤ N / 2 ^ (j + 1)
        · exact .inl (Nat.mul_le_mul_left _ hc)
        · right
          have := Nat.mul_le_mul_left (2 ^ (j + 1)) (show N / 2 ^ (j + 1) + 1 ≤ B * 2 ^ i by omega)
          rw [Nat.mul_add, Nat.mul_one] at this
          exact this
      · left
        have h1 : B * 2 ^ t ≤ 16777216 * 2 ^ j := Nat.mul_le_mul (Nat.le_of_lt hB) (Nat.pow_le_pow_right (by decide) (by omega))
        have h2 := Nat.mul_le_mul_left (2 ^ (j + 1)) ha
        have e : (16777216 : Nat) * 2 ^ j = 2 ^ (j + 1) * 8388608 := by rw [hP]; omega
        omega
    generalize B * 2 ^ t = W at *
    generalize rhe N (j + 1) * 2 ^ (j + 1) = V at *
    generalize 2 ^ (j + 1) * (N / 2 ^ (j + 1)) = A at *
    generalize N % 2 ^ (j + 1) = r at *
    generalize 2 ^ (j + 1) = P at *
    generalize 2 ^ j = Q at *
    clear hge e23 ha
    unfold ab
    split <;> split <;> omega

theorem val_rr {m e : Int} (h : vr m e = true) (h0 : 0 ≤ m) {N : Nat} (hi : ix m e = (RR N 0 : Int)) : UU m e = ((rhe N (kk N 0) * 2 ^ kk N 0 : Nat) : Int) := by
  obtain ⟨A, s, a1, a2, a3, a4, a5, a6⟩ := val_of h
  have hu := a5 h0
  have hx := ix_val h
  rw [hu] at hx
  have e1 : RI ((A * 2 ^ s : Nat) : Int) 0 = (RR (A * 2 ^ s) 0 : Int) := by unfold RI; rw [if_neg (by omega)]; rfl
  rw [e1, RR_rep A s a1 a2, hi] at hx
  have hb := rhe_bd N
  have hR : RR N 0 = rhe N (kk N 0) + kk N 0 * 8388608 := by unfold RR; rw [Nat.zero_add]
  rw [hR] at hx
  rw [hu]
  congr 1
  by_cases hM : rhe N (kk N 0) < 16777216
  · exact Nat.le_antisymm (rep_le a1 a2 hM hb.2.1 (by omega)) (rep_le hM hb.2.1 a1 a2 (by omega))
  · have hM' : rhe N (kk N 0) = 16777216 := by omega
    rw [hM'] at hx ⊢
    have e2 : 16777216 * 2 ^ kk N 0 = 8388608 * 2 ^ (kk N 0 + 1) := by rw [Nat.pow_succ]; omega
    rw [e2]
    exact Nat.le_antisymm (rep_le a1 a2 (by decide) (.inr (Nat.le_refl _)) (by omega)) (rep_le (by decide) (.inr (Nat.le_refl _)) a1 a2 (by omega))

theorem ix_sign {m e : Int} (h : vr m e = true) (h0 : 0 ≤ ix m e) : 0 ≤ m := by
  have hb := vr_bd h
  unfold ix at h0
  split at h0
  · omega
  · split at h0 <;> omega

theorem near_pos (n : Nat) {m e : Int} (h : vr m e = true) (hI : RI (n : Int) 0 ≤ 2533359615) : ab (UU (oM (RI (n : Int) 0)) (oE (RI (n : Int) 0)) - n) ≤ ab (UU m e - n) := by
  have e1 : RI (n : Int) 0 = (RR n 0 : Int) := by unfold RI; rw [if_neg (by omega)]; rfl
  have h1 := o_in (I := RI (n : Int) 0) (by omega) hI
  have hv := o_vr (RI (n : Int) 0)
  have hs := ix_sign hv (by rw [h1.2]; omega)
  rw [val_rr hv hs (h1.2.trans e1)]
  obtain ⟨A, s, a1, a2, a3, a4, a5, a6⟩ := val_of h
  by_cases h0 : 0 ≤ m
  · rw [a5 h0]
    exact near_nat n A s a1
  · rw [a6 (by omega)]
    have := near_nat n 0 0 (by decide)
    simp only [Nat.zero_mul] at this
    generalize ((rhe n (kk n 0) * 2 ^ kk n 0 : Nat) : Int) = V at *
    have hz : (0 : Int) ≤ ((A * 2 ^ s : Nat) : Int) := by omega
    generalize ((A * 2 ^ s : Nat) : Int) = W at *
    unfold ab at *
    split at this <;> split at this <;> split <;> split <;> omega

/-- NEAREST -/
theorem near {N m e : Int} (h : vr m e = true) (h1 : -2533359615 ≤ RI N 0) (h2 : RI N 0 ≤ 2533359615) : ab (UU (oM (RI N 0)) (oE (RI N 0)) - N) ≤ ab (UU m e - N) := by
  by_cases h0 : 0 ≤ N
  · obtain ⟨n, rfl⟩ := Int.eq_ofNat_of_zero_le h0
    exact near_pos n h h2
  · obtain ⟨n, hn⟩ := Int.eq_ofNat_of_zero_le (show 0 ≤ -N by omega)
    have hN : N = -(n : Int) := by omega
    subst hN
    rw [RI_neg] at h1 h2 ⊢
    have hv : vr (-m) e = true := by
      rw [vr_iff] at h ⊢
      unfold ab at *
      split at h <;> split <;> omega
    have := near_pos n hv (by omega)
    rw [oM_neg, oE_neg, UU_neg]
    rw [UU_neg] at this
    generalize UU (oM (RI (n : Int) 0)) (oE (RI (n : Int) 0)) = V at *
    generalize UU m e = W at *
    unfold ab at *
    split at this <;> split at this <;> split <;> split <;> omega

/-- a real as a multiple of 2 to the -60th -/
def scV (m e : Int) : Int := m * 2 ^ (e + 60).toNat

theorem scV_UU {m e : Int} (he : -60 ≤ e) : UU m e = scV m e * 2 ^ 90 := by
  unfold UU scV
  rw [Int.mul_assoc, ← Int.pow_add, show (e + 150).toNat = (e + 60).toNat + 90 from by omega]

theorem near_sc {a b c u N : Int} (K : Int) (hK : 0 < K) (h : ab (u * K - N * K) ≤ ab (c * K - N * K)) : ab (u - N) ≤ ab (c - N) := by
  rw [← Int.sub_mul, ← Int.sub_mul] at h
  have e : ∀ x : Int, ab (x * K) = ab x * K := by
    intro x
    unfold ab
    split
    · rename_i hx
      rw [if_pos (by
        rcases Int.lt_or_le x 0 with g | g
        · exact g
        · have := Int.mul_nonneg g (Int.le_of_lt hK); omega), Int.neg_mul]
    · rename_i hx
      rw [if_neg]
      intro g
      have := Int.mul_neg_of_neg_of_pos g hK
      omega
  rw [e, e] at h
  exact Int.le_of_mul_le_mul_right h hK

end Go.Proofs.YtoofdihnflnaiaaGreatDoor
