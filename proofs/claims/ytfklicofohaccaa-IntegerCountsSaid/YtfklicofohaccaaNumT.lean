/-
  PLAIN NUMBERS: how often a loop with constant bounds goes round.
-/
import Derived.Test.YtfklicofohaccaaNum

namespace Go.Proofs.Ytfklicofohaccaa
open Go.RowKit

/-- the trips of a valid loop whose step is not 0 -/
def trN (first step last : Int) : Int := if (0 < step ∧ first ≤ last) ∨ (step < 0 ∧ last ≤ first) then (last - first).tdiv step + 1 else 0
def trE (first step last : Int) : Int := if bth first last && vld step then (if step = 0 then 5 else 0) else 1
def trV (first step last : Int) : Int := if trE first step last = 0 then trN first step last else 0
def trO (first step last : Int) : Bool := if trE first step last = 0 then !(vld (first + trN first step last * step)) else false
theorem trE_ok {f s l : Int} : trE f s l = 0 ↔ bth f l = true ∧ vld s = true ∧ s ≠ 0 := by
  unfold trE
  cases bth f l <;> cases vld s <;> by_cases h : s = 0 <;> simp [h]
theorem trE_bds {f s l : Int} (h : trE f s l = 0) : (-2147483647 ≤ f ∧ f ≤ 2147483647) ∧ (-2147483647 ≤ s ∧ s ≤ 2147483647) ∧ (-2147483647 ≤ l ∧ l ≤ 2147483647) ∧ s ≠ 0 := by
  have ⟨h1, h2, h3⟩ := trE_ok.1 h
  exact ⟨(bth_iff.1 h1).1, vld_iff.1 h2, (bth_iff.1 h1).2, h3⟩
theorem trN_up {f s l : Int} (hs : 0 < s) (h : f ≤ l) : trN f s l = (l - f) / s + 1 := by
  rw [trN, if_pos (.inl ⟨hs, h⟩), Int.tdiv_eq_ediv_of_nonneg (by omega)]
theorem trN_down {f s l : Int} (hs : s < 0) (h : l ≤ f) : trN f s l = (f - l) / (-s) + 1 := by
  rw [trN, if_pos (.inr ⟨hs, h⟩)]
  have e : (l - f).tdiv s = (f - l).tdiv (-s) := by
    rw [Int.tdiv_neg, ← Int.neg_tdiv]; congr 1; omega
  rw [e, Int.tdiv_eq_ediv_of_nonneg (by omega)]
theorem trN_none {f s l : Int} (h : ¬((0 < s ∧ f ≤ l) ∨ (s < 0 ∧ l ≤ f))) : trN f s l = 0 := if_neg h
theorem div_less {A S : Int} (hS : 0 < S) : (A - S) / S = A / S - 1 := by
  have := Int.add_mul_ediv_right A (-1) (show S ≠ 0 by omega)
  rw [show A + -1 * S = A - S by omega] at this
  omega
theorem div_zero' {A S : Int} (h0 : 0 ≤ A) (h : A < S) : A / S = 0 := Int.ediv_eq_zero_of_lt h0 h
theorem div_prod {A S : Int} (h0 : 0 ≤ A) (hS : 0 < S) : 0 ≤ A / S ∧ A / S ≤ A ∧ 0 ≤ A / S * S ∧ A / S * S ≤ A := by
  have h1 : 0 ≤ A / S := Int.ediv_nonneg h0 (by omega)
  have h2 : A / S * S ≤ A := Int.ediv_mul_le A (by omega)
  have h3 : 0 ≤ A / S * S := Int.mul_nonneg h1 (by omega)
  have h4 : A / S ≤ A := Int.ediv_le_self S h0
  exact ⟨h1, h4, h3, h2⟩
/-- bounds of the trips, and of what is added -/
theorem trN_bds {f s l : Int} (hf : -2147483647 ≤ f ∧ f ≤ 2147483647) (hs : -2147483647 ≤ s ∧ s ≤ 2147483647) (hl : -2147483647 ≤ l ∧ l ≤ 2147483647) :
    0 ≤ trN f s l ∧ trN f s l ≤ 4294967295 ∧ -6442450941 ≤ trN f s l * s ∧ trN f s l * s ≤ 6442450941 := by
  by_cases h : (0 < s ∧ f ≤ l) ∨ (s < 0 ∧ l ≤ f)
  · rcases h with ⟨h1, h2⟩ | ⟨h1, h2⟩
    · have ⟨k1, k2, k3, k4⟩ := div_prod (A := l - f) (by omega) h1
      rw [trN_up h1 h2, Int.add_mul, Int.one_mul]
      omega
    · have ⟨k1, k2, k3, k4⟩ := div_prod (A := f - l) (S := -s) (by omega) (by omega)
      rw [trN_down h1 h2, Int.add_mul, Int.one_mul]
      rw [Int.mul_neg] at k3 k4
      omega
  · rw [trN_none h, Int.zero_mul]; omega
theorem way_bds {f s l : Int} (hf : -2147483647 ≤ f ∧ f ≤ 2147483647) (hl : -2147483647 ≤ l ∧ l ≤ 2147483647) :
    -4294967294 ≤ (l - f).tdiv s ∧ (l - f).tdiv s ≤ 4294967294 := by
  have := Int.natAbs_tdiv_le_natAbs (l - f) s
  omega
/-- one step later: one trip less, and the same end -/
theorem trN_next {f s l : Int} (h : trN f s l ≠ 0) : trN (f + s) s l = trN f s l - 1 ∧ f + s + trN (f + s) s l * s = f + trN f s l * s := by
  have e : trN (f + s) s l = trN f s l - 1 := by
    by_cases hc : (0 < s ∧ f ≤ l) ∨ (s < 0 ∧ l ≤ f)
    · rcases hc with ⟨h1, h2⟩ | ⟨h1, h2⟩
      · rw [trN_up h1 h2]
        by_cases h3 : f + s ≤ l
        · rw [trN_up h1 h3, show l - (f + s) = (l - f) - s by omega, div_less h1]; omega
        · rw [trN_none (by omega), div_zero' (by omega) (by omega)]; omega
      · rw [trN_down h1 h2]
        by_cases h3 : l ≤ f + s
        · rw [trN_down h1 h3, show f + s - l = (f - l) - (-s) by omega, div_less (by omega)]; omega
        · rw [trN_none (by omega), div_zero' (by omega) (by omega)]; omega
    · exact absurd (trN_none hc) h
  refine ⟨e, ?_⟩
  rw [e, Int.sub_mul, Int.one_mul]; omega
theorem trN_zero {f s l : Int} (hs : s ≠ 0) : trN f s l = 0 ↔ (0 < s ∧ l < f) ∨ (s < 0 ∧ f < l) := by
  by_cases hc : (0 < s ∧ f ≤ l) ∨ (s < 0 ∧ l ≤ f)
  · rcases hc with ⟨h1, h2⟩ | ⟨h1, h2⟩
    · have := (div_prod (A := l - f) (by omega) h1).1
      rw [trN_up h1 h2]; omega
    · have := (div_prod (A := f - l) (S := -s) (by omega) (by omega)).1
      rw [trN_down h1 h2]; omega
  · rw [trN_none hc]; omega
/-- a loop whose second term is out of range has one trip -/
theorem trN_out {f s l : Int} (hs : s ≠ 0) (hf' : -2147483647 ≤ f ∧ f ≤ 2147483647) (h : trN f s l ≠ 0) (hl : -2147483647 ≤ l ∧ l ≤ 2147483647) (hv : vld (f + s) = false) : trN f s l = 1 ∧ f + trN f s l * s = f + s := by
  have hv := vld_false hv
  have ⟨e1, e2⟩ := trN_next h
  have hz : trN f s l = 0 ↔ _ := trN_zero hs
  have hf : f ≤ l ∧ 0 < s ∨ l ≤ f ∧ s < 0 := by omega
  have e3 : trN f s l = 1 := by
    rcases hf with ⟨h1, h2⟩ | ⟨h1, h2⟩
    · by_cases h3 : f + s ≤ l
      · omega
      · rw [trN_none (f := f + s) (by omega)] at e1; omega
    · by_cases h3 : l ≤ f + s
      · omega
      · rw [trN_none (f := f + s) (by omega)] at e1; omega
  rw [e3]; omega

end Go.Proofs.Ytfklicofohaccaa
