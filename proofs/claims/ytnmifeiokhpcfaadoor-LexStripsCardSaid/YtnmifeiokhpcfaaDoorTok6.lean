/-
  What Diff counts: plain mathematics.
-/
import Derived.Test.YtnmifeiokhpcfaaDoorTok5

namespace Go.Proofs.YtnmifeiokhpcfaaDoor
open Go.RowKit
set_option linter.unusedVariables false

theorem cnt_all (f : Nat → Bool) (n k : Nat) : ∀ i, k ≤ i → i < cnt f n k → f i = true := by
  induction n generalizing k with
  | zero => intro i h1 h2; simp [cnt] at h2; omega
  | succ n ih =>
    intro i h1 h2
    unfold cnt at h2
    split at h2
    · rename_i hk
      rcases Nat.eq_or_lt_of_le h1 with rfl | h
      · exact hk
      · exact ih (k + 1) i h h2
    · omega
theorem cnt_stops (f : Nat → Bool) (n k : Nat) (h : cnt f n k < k + n) : f (cnt f n k) = false := by
  induction n generalizing k with
  | zero => simp [cnt] at h
  | succ n ih =>
    unfold cnt at h ⊢
    split
    · rename_i hk
      rw [if_pos hk] at h
      exact ih (k + 1) (by omega)
    · rename_i hk
      simpa using hk
theorem alikeT_refl (t : To) : alikeT t t = true := by simp [alikeT]
theorem sameT_of (a b : List To) (h : a.length = b.length) (hi : ∀ (i : Nat) (x y : To), a[i]? = some x → b[i]? = some y → alikeT x y = true) : sameT a b = true := by
  induction a generalizing b with
  | nil => cases b with
    | nil => rfl
    | cons y b => simp at h
  | cons x a ih => cases b with
    | nil => simp at h
    | cons y b =>
      simp only [sameT, Bool.and_eq_true]
      exact ⟨hi 0 x y rfl rfl, ih b (by simpa using h) (fun i x' y' h1 h2 => hi (i + 1) x' y' (by simpa using h1) (by simpa using h2))⟩
theorem diffT_le (l l2 : List To) : diffT l l2 ≤ min l.length l2.length - diffH l l2 := by
  have := (cnt_le (ft l l2) (min l.length l2.length - diffH l l2) 0).2
  unfold diffT
  omega
theorem head_alike (l l2 : List To) (i : Nat) (h : i < diffH l l2) : fh l l2 i = true := cnt_all _ _ 0 i (Nat.zero_le _) h
theorem tail_alike (l l2 : List To) (i : Nat) (h : i < diffT l l2) : ft l l2 i = true := cnt_all _ _ 0 i (Nat.zero_le _) h
theorem head_stops (l l2 : List To) (h : diffH l l2 < min l.length l2.length) : fh l l2 (diffH l l2) = false := cnt_stops _ _ 0 (by unfold diffH at h; omega)
theorem tail_stops (l l2 : List To) (h : diffH l l2 + diffT l l2 ≠ min l.length l2.length) : ft l l2 (diffT l l2) = false := by
  have h1 := diffT_le l l2
  have h2 := diffH_le l l2
  exact cnt_stops _ _ 0 (by unfold diffT at h h1; omega)
/-- the head of one list, what lies between in the other, the tail of the one: the other list -/
def madeT (l l2 : List To) : List To := l.take (diffH l l2) ++ (l2.drop (diffH l l2)).take (l2.length - diffT l l2 - diffH l l2) ++ l.drop (l.length - diffT l l2)
theorem made_same (l l2 : List To) : (madeT l l2).length = l2.length ∧ sameT (madeT l l2) l2 = true := by
  have h1 := diffT_le l l2
  have h2 := diffH_le l l2
  have hl : (madeT l l2).length = l2.length := by
    simp only [madeT, List.length_append, List.length_take, List.length_drop]
    omega
  refine ⟨hl, sameT_of _ _ hl fun i x y hx hy => ?_⟩
  have hi : i < l2.length := (List.getElem?_eq_some_iff.1 hy).1
  unfold madeT at hx
  by_cases c1 : i < diffH l l2
  · rw [List.getElem?_append_left (by simp only [List.length_append, List.length_take, List.length_drop]; omega), List.getElem?_append_left (by simp only [List.length_take]; omega), List.getElem?_take, if_pos c1] at hx
    have := head_alike l l2 i c1
    simpa only [fh, hx, hy] using this
  · by_cases c2 : i < l2.length - diffT l l2
    · rw [List.getElem?_append_left (by simp only [List.length_append, List.length_take, List.length_drop]; omega), List.getElem?_append_right (by simp only [List.length_take]; omega), List.getElem?_take, if_pos (by simp only [List.length_take]; omega), List.getElem?_drop] at hx
      rw [show diffH l l2 + (i - (l.take (diffH l l2)).length) = i from by simp only [List.length_take]; omega, hy] at hx
      cases hx
      exact alikeT_refl _
    · rw [List.getElem?_append_right (by simp only [List.length_append, List.length_take, List.length_drop]; omega), List.getElem?_drop] at hx
      have e : l.length - diffT l l2 + (i - (l.take (diffH l l2) ++ (l2.drop (diffH l l2)).take (l2.length - diffT l l2 - diffH l l2)).length) = l.length - 1 - (l2.length - 1 - i) := by
        simp only [List.length_append, List.length_take, List.length_drop]
        omega
      rw [e] at hx
      have := tail_alike l l2 (l2.length - 1 - i) (by omega)
      simp only [ft, hx, show l2.length - 1 - (l2.length - 1 - i) = i from by omega, hy] at this
      exact this
end Go.Proofs.YtnmifeiokhpcfaaDoor
