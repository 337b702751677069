/-
  PACKAGE lex: lists of tokens that came in: Same.
-/
import Derived.Test.YtnmifeiokhpcfaaDoorTok2
import Derived.StillTailTactics

namespace Go.Proofs.YtnmifeiokhpcfaaDoor
open Go.RowKit
set_option linter.unusedVariables false

/-- two lists of tokens are the same but for offsets -/
def sameT : List To → List To → Bool
  | [], [] => true
  | x :: a, y :: b => alikeT x y && sameT a b
  | _, _ => false
theorem sameT_ne (a b : List To) (h : a.length ≠ b.length) : sameT a b = false := by
  induction a generalizing b with
  | nil => cases b with
    | nil => exact absurd rfl h
    | cons y b => rfl
  | cons x a ih => cases b with
    | nil => rfl
    | cons y b => simp only [sameT, ih b (by simpa using h), Bool.and_false]
theorem sameT_step (a b : List To) (k : Nat) (h : k < a.length) (h2 : k < b.length) : sameT (a.drop k) (b.drop k) = (alikeT a[k] b[k] && sameT (a.drop (k + 1)) (b.drop (k + 1))) := by
  rw [List.drop_eq_getElem_cons h, List.drop_eq_getElem_cons h2]
  rfl
theorem sameT_end (a b : List To) (k : Nat) (h : a.length ≤ k) (h2 : b.length ≤ k) : sameT (a.drop k) (b.drop k) = true := by
  rw [List.drop_eq_nil_of_le h, List.drop_eq_nil_of_le h2]
  rfl