/-
  PACKAGE lex: Diff; the document's own.
-/
import Derived.Test.YtnmifeiokhpcfaaDoorTok4

namespace Go.Proofs.YtnmifeiokhpcfaaDoor
open Go.RowKit
set_option linter.unusedVariables false

/-- how far f holds, from k on, n more at most -/
def cnt (f : Nat → Bool) : Nat → Nat → Nat
  | 0, k => k
  | n + 1, k => if f k = true then cnt f n (k + 1) else k
theorem cnt_le (f : Nat → Bool) (n k : Nat) : k ≤ cnt f n k ∧ cnt f n k ≤ k + n := by
  induction n generalizing k with
  | zero => simp [cnt]
  | succ n ih =>
    unfold cnt
    split
    · have := ih (k + 1); omega
    · omega
def fh (l l2 : List To) (k : Nat) : Bool := match l[k]?, l2[k]? with
  | some x, some y => alikeT x y
  | _, _ => false
def ft (l l2 : List To) (k : Nat) : Bool := match l[l.length - 1 - k]?, l2[l2.length - 1 - k]? with
  | some x, some y => alikeT x y
  | _, _ => false
def diffH (l l2 : List To) : Nat := cnt (fh l l2) (min l.length l2.length) 0
def diffT (l l2 : List To) : Nat := cnt (ft l l2) (min l.length l2.length - diffH l l2) 0
theorem diffH_le (l l2 : List To) : diffH l l2 ≤ min l.length l2.length := by have := (cnt_le (fh l l2) (min l.length l2.length) 0).2; unfold diffH; omega
theorem cnt_hit {f : Nat → Bool} {m k : Nat} (h : k < m) (hf : f k = true) : cnt f (m - k) k = cnt f (m - (k + 1)) (k + 1) := by
  obtain ⟨n, hn⟩ : ∃ n, m - k = n + 1 := ⟨m - k - 1, by omega⟩
  rw [hn, show m - (k + 1) = n from by omega]
  simp only [cnt, hf, if_true]
theorem cnt_miss {f : Nat → Bool} {m k : Nat} (h : k < m) (hf : f k = false) : cnt f (m - k) k = k := by
  obtain ⟨n, hn⟩ : ∃ n, m - k = n + 1 := ⟨m - k - 1, by omega⟩
  rw [hn]
  simp [cnt, hf]
theorem cnt_end {f : Nat → Bool} {m k : Nat} (h : m ≤ k) : cnt f (m - k) k = k := by
  rw [show m - k = 0 from by omega]
  rfl
theorem fh_is {l l2 : List To} {k : Nat} (h : k < l.length) (h2 : k < l2.length) : fh l l2 k = alikeT l[k] l2[k] := by
  simp only [fh, List.getElem?_eq_getElem h, List.getElem?_eq_getElem h2]
theorem ft_is {l l2 : List To} {k : Nat} (h : k < l.length) (h2 : k < l2.length) : ft l l2 k = alikeT (l[l.length - 1 - k]'(by omega)) (l2[l2.length - 1 - k]'(by omega)) := by
  simp only [ft, List.getElem?_eq_getElem (show l.length - 1 - k < l.length from by omega), List.getElem?_eq_getElem (show l2.length - 1 - k < l2.length from by omega)]

theorem below_drewN {b : Nat} {w w' : World} (h : Below b w w') (n : Nat) : Below b w (w'.drewN n) := ⟨h.os, h.tape, h.output, h.size, h.block⟩
theorem wrap64 (x : Int) (h1 : -9223372036854775808 ≤ x) (h2 : x ≤ 9223372036854775807) : IntKind.i64.wrap x = x := by
  rw [IntKind.wrap_i64]
  omega