/-
  PACKAGE lex: Line; the document's own answer to it.
-/
import Derived.Test.YtnmifeiokhpcfaaDoorLexN
import Derived.Test.YtnmifeiokhpcfaaDoorShelf
import Derived.WalkKit
import Derived.Lib.LastIndexByte

namespace Go.Proofs.YtnmifeiokhpcfaaDoor
open Go.RowKit
set_option linter.unusedVariables false

/-- line and column of an offset -/
def lc (s : ByteArray) : Nat → Int × Int
  | 0 => (1, 1)
  | k + 1 => if byt s k = 10 then ((lc s k).1 + 1, 1) else ((lc s k).1, (lc s k).2 + 1)
theorem lc_bd (s : ByteArray) (k : Nat) : 1 ≤ (lc s k).1 ∧ (lc s k).1 ≤ k + 1 ∧ 1 ≤ (lc s k).2 ∧ (lc s k).2 ≤ k + 1 := by
  induction k with
  | zero => simp [lc]
  | succ k ih => unfold lc; split <;> simp only <;> omega
theorem last_lc (s t : ByteArray) (n : Nat) (ht : ∀ j, j < n → (t.data[j]!).toNat = byt s j) (k : Nat) (hk : k ≤ n) : Lib.lastIdx t 10 k = k - (lc s k).2 := by
  induction k with
  | zero => rfl
  | succ k ih =>
    have h := ht k (by omega)
    unfold Lib.lastIdx lc
    rw [ih (by omega), h]
    by_cases e : byt s k = 10
    · rw [if_pos (by omega), if_pos e]; push_cast; omega
    · rw [if_neg (by omega), if_neg e]; push_cast; omega
theorem bang (s : ByteArray) (a j : Nat) (ha : a ≤ s.size) (hj : j < a) : ((s.extract 0 a).data[j]!).toNat = byt s j := by
  have h1 : j < s.size := by omega
  have h2 : j < (s.extract 0 a).data.size := by rw [ByteArray.data_extract]; simp; omega
  rw [getElem!_pos (s.extract 0 a).data j h2, byt_in h1]
  simp only [ByteArray.data_extract, Array.getElem_extract, Nat.zero_add]
  rfl
theorem count_lc (s : ByteArray) (k : Nat) (hk : k ≤ s.size) : (1 : Int) + Lib.countByte (s.data.toList.take k) 10 = (lc s k).1 := by
  induction k with
  | zero => rfl
  | succ k ih =>
    have h := ih (by omega)
    have hk' : k < s.data.toList.length := by simp; omega
    rw [List.take_succ_eq_append_getElem hk']
    unfold Lib.countByte at h ⊢
    rw [List.count_append]
    have hb : byt s k = (s.data.toList[k]).toNat := by rw [byt_in (by omega)]; rfl
    unfold lc
    by_cases e : byt s k = 10
    · have e1 : s.data.toList[k] = 10 := UInt8.toNat_inj.1 (by rw [← hb, e]; rfl)
      rw [if_pos e, e1]
      simp only [List.count_singleton_self]
      push_cast
      omega
    · have e1 : ¬ s.data.toList[k] = 10 := fun h => e (by rw [hb, h]; rfl)
      rw [if_neg e, List.count_eq_zero_of_not_mem (l := [s.data.toList[k]]) (by simpa using fun h => e1 h.symm)]
      push_cast
      omega

end Go.Proofs.YtnmifeiokhpcfaaDoor
