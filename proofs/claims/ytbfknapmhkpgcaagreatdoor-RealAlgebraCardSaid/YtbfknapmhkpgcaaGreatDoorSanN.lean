/-
  PACKAGE real: the values of the chapter's examples.
-/
import Derived.Test.YtbfknapmhkpgcaaGreatDoorDig9
import Derived.Test.YtbfknapmhkpgcaaGreatDoorParseR
import Derived.Test.YtbfknapmhkpgcaaGreatDoorReal16

namespace Go.Proofs.YtbfknapmhkpgcaaGreatDoor
open Go.RowKit
set_option linter.unusedVariables false

/-- the search's number and length -/
def shN (d : List UInt8) (k m e : Int) : Nat → Nat → Option (Nat × Nat)
  | 0, _ => none
  | f + 1, n => if n < d.length then
      if drM (nb1 d n) (k - n) = m ∧ drE (nb1 d n) (k - n) = e then some (nb1 d n, n)
      else if drM (nb2 d n) (k - n) = m ∧ drE (nb2 d n) (k - n) = e then some (nb2 d n, n)
      else shN d k m e f (n + 1)
    else none

theorem shG_of (d : List UInt8) (k m e : Int) : ∀ (f n : Nat) (x l : Nat), shN d k m e f n = some (x, l) → shG d k m e f n = some (Lib.trimRightB (Lib.itoa x) 48, k + (Lib.itoa x).length - l)
  | 0, n, x, l, h => by cases h
  | f + 1, n, x, l, h => by
    rw [shN] at h
    rw [shG]
    split at h
    · rename_i h1
      rw [if_pos h1]
      split at h
      · rename_i h2
        rw [if_pos h2]
        cases h
        rfl
      · rename_i h2
        rw [if_neg h2]
        split at h
        · rename_i h3
          rw [if_pos h3]
          cases h
          rfl
        · rename_i h3
          rw [if_neg h3]
          exact shG_of d k m e f (n + 1) x l h
    · cases h

set_option maxRecDepth 100000
theorem v3_d : dcD (fxV 11184811 (-25)) = [51, 51, 51, 51, 51, 51, 51, 52, 51, 50, 54, 55, 52, 52, 48, 55, 57, 53, 56, 57, 56, 52, 51, 55, 53] := by kernel_rfl
theorem v3_k : dcK (fxV 11184811 (-25)) = 0 := by kernel_rfl
theorem v3_z : decide (lzN (fxV 11184811 (-25)) < (dgL (fxV 11184811 (-25))).length) = true := by kernel_rfl
theorem v3_n : shN [51, 51, 51, 51, 51, 51, 51, 52, 51, 50, 54, 55, 52, 52, 48, 55, 57, 53, 56, 57, 56, 52, 51, 55, 53] 0 11184811 (-25) 18 1 = some (33333334, 8) := by kernel_rfl
theorem vs_k : dcK (fxV 1 (-150)) = -45 := by kernel_rfl
theorem vs_z : decide (lzN (fxV 1 (-150)) < (dgL (fxV 1 (-150))).length) = true := by kernel_rfl
theorem vs_n : shN (dcD (fxV 1 (-150))) (-45) 1 (-150) 1 1 = some (7, 1) := by kernel_rfl

theorem it_3 : Lib.trimRightB (Lib.itoa 33333334) 48 = [51, 51, 51, 51, 51, 51, 51, 52] ∧ (Lib.itoa 33333334).length = 8 := by
  have h : Lib.itoa 33333334 = [51, 51, 51, 51, 51, 51, 51, 52] := by simp [Lib.itoa, Lib.decDigits]
  rw [h]
  exact ⟨by kernel_rfl, rfl⟩
theorem it_7 : Lib.trimRightB (Lib.itoa 7) 48 = [55] ∧ (Lib.itoa 7).length = 1 := by
  have h : Lib.itoa 7 = [55] := by simp [Lib.itoa, Lib.decDigits]
  rw [h]
  exact ⟨by kernel_rfl, rfl⟩
theorem it_3' : Lib.trimRightB (Lib.itoa ((33333334 : Nat) : Int)) 48 = [51, 51, 51, 51, 51, 51, 51, 52] ∧ (Lib.itoa ((33333334 : Nat) : Int)).length = 8 := it_3
theorem it_7' : Lib.trimRightB (Lib.itoa ((7 : Nat) : Int)) 48 = [55] ∧ (Lib.itoa ((7 : Nat) : Int)).length = 1 := it_7
theorem it_46 : Lib.itoa (-46) = [45, 52, 54] := by simp [Lib.itoa, Lib.decDigits]
theorem pr_3 : prL [51, 51, 51, 51, 51, 51, 51, 52] 0 = [48, 46, 51, 51, 51, 51, 51, 51, 51, 52] := by kernel_rfl
theorem pr_7 : prL [55] (-45) = [55, 46, 48, 101, 45, 52, 54] := by
  unfold prL
  rw [if_pos (by decide), show (-45 : Int) - 1 = -46 from rfl, it_46]
  kernel_rfl
theorem s_add : oV (smM 8388608 (-23) 8388608 (-47)) (smE 8388608 (-23) 8388608 (-47)) = rE 8388608 (-23) 0 := by kernel_rfl
theorem s_div : oV (quM 8388608 12582912) (quE 8388608 (-23) (-22)) = rE 11184811 (-25) 0 := by kernel_rfl
theorem s_tenth : prV [48, 46, 49] = rE 13421773 (-27) 0 := by kernel_rfl
theorem s_1e60 : prV [49, 101, 54, 48] = rE 0 0 3 := by kernel_rfl
theorem s_int : aM (rI 16777217 0) = 8388608 ∧ aE (rI 16777217 0) = 1 := by constructor <;> kernel_rfl

end Go.Proofs.YtbfknapmhkpgcaaGreatDoor
