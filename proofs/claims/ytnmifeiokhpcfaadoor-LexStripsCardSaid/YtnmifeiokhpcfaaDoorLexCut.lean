/-
  PACKAGE lex: a text and its head: what is read within the head is read alike.
-/
import Derived.Test.YtnmifeiokhpcfaaDoorLex12

namespace Go.Proofs.YtnmifeiokhpcfaaDoor
open Go.RowKit
set_option linter.unusedVariables false

/-- t is the head of s, m bytes long -/
structure Cut (s t : ByteArray) (m : Nat) : Prop where
  eq : t = s.extract 0 m
  le : m ≤ s.size

theorem Cut.size {s t : ByteArray} {m : Nat} (h : Cut s t m) : t.size = m := by
  have := h.le
  rw [h.eq, ByteArray.size_extract]
  omega

theorem Cut.byt {s t : ByteArray} {m : Nat} (h : Cut s t m) {k : Nat} (hk : k < m) : byt t k = byt s k := by
  have h1 := h.size
  have h2 := h.le
  rw [byt_in (by omega : k < t.size), byt_in (by omega : k < s.size)]
  obtain ⟨rfl, _⟩ := h
  rw [ByteArray.getElem_extract]
  simp

theorem Cut.out {s t : ByteArray} {m : Nat} (h : Cut s t m) {k : Nat} (hk : m ≤ k) : Go.Proofs.YtnmifeiokhpcfaaDoor.byt t k = 256 := byt_out (by rw [h.size]; exact hk)

theorem Cut.upTo {s t : ByteArray} {m : Nat} (h : Cut s t m) {f : Nat → Bool} (h256 : f 256 = false) : ∀ d a, a + d = m → upTo f s a ≤ m → upTo f t a = upTo f s a := by
  intro d
  induction d with
  | zero =>
    intro a ha hu
    have := upTo_ge f s a
    rw [upTo_stop (s := t) (by rw [h.out (by omega)]; exact h256)]
    omega
  | succ d ih =>
    intro a ha hu
    have hle := h.le
    have hsz := h.size
    have hb := h.byt (show a < m by omega)
    cases hf : f (Go.Proofs.YtnmifeiokhpcfaaDoor.byt s a)
    · rw [upTo_stop hf, upTo_stop (by rw [hb]; exact hf)]
    · rw [upTo_step (by omega) hf] at hu ⊢
      rw [upTo_step (s := t) (by omega) (by rw [hb]; exact hf)]
      exact ih (a + 1) (by omega) hu

theorem Cut.upTo' {s t : ByteArray} {m : Nat} (h : Cut s t m) {f : Nat → Bool} (h256 : f 256 = false) {a : Nat} (ha : a ≤ m) (hu : Go.Proofs.YtnmifeiokhpcfaaDoor.upTo f s a ≤ m) : Go.Proofs.YtnmifeiokhpcfaaDoor.upTo f t a = Go.Proofs.YtnmifeiokhpcfaaDoor.upTo f s a :=
  h.upTo h256 (m - a) a (by omega) hu

theorem Cut.far {s t : ByteArray} {m : Nat} (h : Cut s t m) {f : Nat → Bool} (h256 : f 256 = false) : ∀ d a, a + d = m → m ≤ Go.Proofs.YtnmifeiokhpcfaaDoor.upTo f s a → Go.Proofs.YtnmifeiokhpcfaaDoor.upTo f t a = m := by
  intro d
  induction d with
  | zero =>
    intro a ha hu
    rw [upTo_stop (s := t) (by rw [h.out (by omega)]; exact h256)]
    omega
  | succ d ih =>
    intro a ha hu
    have hle := h.le
    have hsz := h.size
    have hb := h.byt (show a < m by omega)
    cases hf : f (Go.Proofs.YtnmifeiokhpcfaaDoor.byt s a)
    · rw [upTo_stop hf] at hu
      omega
    · rw [upTo_step (by omega) hf] at hu
      rw [upTo_step (s := t) (by omega) (by rw [hb]; exact hf)]
      exact ih (a + 1) (by omega) hu

theorem Cut.ext {s t : ByteArray} {m : Nat} (h : Cut s t m) (a : Nat) {b : Nat} (hb : b ≤ m) : t.extract a b = s.extract a b := by
  have hle := h.le
  obtain ⟨rfl, _⟩ := h
  rw [ByteArray.extract_extract]
  congr 1 <;> omega

theorem Cut.frac {s t : ByteArray} {m : Nat} (h : Cut s t m) {a : Nat} (ha : a ≤ m) (hu : fracEnd s a ≤ m) : fracEnd t a = fracEnd s a := by
  have hsz := h.size
  have hle := h.le
  by_cases hc : Go.Proofs.YtnmifeiokhpcfaaDoor.byt s a = 46 ∧ isDig (Go.Proofs.YtnmifeiokhpcfaaDoor.byt s (a + 1)) = true
  · have e : fracEnd s a = Go.Proofs.YtnmifeiokhpcfaaDoor.upTo isDig s (a + 1) := by unfold fracEnd; rw [if_pos hc]
    have hlt : a + 1 < s.size := by
      by_cases h1 : a + 1 < s.size
      · exact h1
      · have := hc.2
        rw [byt_out (by omega)] at this
        cases this
    have h2 : a + 2 ≤ Go.Proofs.YtnmifeiokhpcfaaDoor.upTo isDig s (a + 1) := by rw [upTo_step hlt hc.2]; exact upTo_ge _ _ _
    rw [e] at hu ⊢
    unfold fracEnd
    rw [h.byt (show a < m by omega), h.byt (show a + 1 < m by omega), if_pos hc]
    exact h.upTo' (by decide) (by omega) hu
  · have e : fracEnd s a = a := by unfold fracEnd; rw [if_neg hc]
    rw [e]
    unfold fracEnd
    rw [if_neg]
    rintro ⟨h1, h2⟩
    by_cases g1 : a < m
    · by_cases g2 : a + 1 < m
      · rw [h.byt g1] at h1
        rw [h.byt g2] at h2
        exact hc ⟨h1, h2⟩
      · rw [h.out (by omega)] at h2
        cases h2
    · rw [h.out (by omega)] at h1
      cases h1

theorem expFrom_ge (s : ByteArray) (a : Nat) : a + 1 ≤ expFrom s a ∧ expFrom s a ≤ a + 2 := by unfold expFrom; split <;> omega

theorem Cut.from {s t : ByteArray} {m : Nat} (h : Cut s t m) {a : Nat} (ha : a + 1 < m) : expFrom t a = expFrom s a := by
  unfold expFrom
  rw [h.byt ha]

theorem Cut.exp {s t : ByteArray} {m : Nat} (h : Cut s t m) {a : Nat} (ha : a ≤ m) (hu : expEnd s a ≤ m) : expEnd t a = expEnd s a := by
  have hsz := h.size
  have hle := h.le
  have hf := expFrom_ge s a
  have hg := expFrom_ge t a
  by_cases hc : Go.Proofs.YtnmifeiokhpcfaaDoor.byt s a = 101 ∧ isDig (Go.Proofs.YtnmifeiokhpcfaaDoor.byt s (expFrom s a)) = true
  · have e : expEnd s a = Go.Proofs.YtnmifeiokhpcfaaDoor.upTo isDig s (expFrom s a) := by unfold expEnd; rw [if_pos hc]
    have hlt : expFrom s a < s.size := by
      by_cases h1 : expFrom s a < s.size
      · exact h1
      · have := hc.2
        rw [byt_out (by omega)] at this
        cases this
    have h2 : expFrom s a + 1 ≤ Go.Proofs.YtnmifeiokhpcfaaDoor.upTo isDig s (expFrom s a) := by rw [upTo_step hlt hc.2]; exact upTo_ge _ _ _
    rw [e] at hu ⊢
    have e2 := h.from (show a + 1 < m by omega)
    unfold expEnd
    rw [e2, h.byt (show a < m by omega), h.byt (show expFrom s a < m by omega), if_pos hc]
    exact h.upTo' (by decide) (by omega) hu
  · have e : expEnd s a = a := by unfold expEnd; rw [if_neg hc]
    rw [e]
    unfold expEnd
    rw [if_neg]
    rintro ⟨h1, h2⟩
    by_cases g2 : expFrom t a < m
    · rw [h.from (by omega)] at g2 h2
      rw [h.byt (by omega)] at h1
      rw [h.byt g2] at h2
      exact hc ⟨h1, h2⟩
    · rw [h.out (by omega)] at h2
      cases h2

theorem Cut.num {s t : ByteArray} {m : Nat} (h : Cut s t m) {a : Nat} (ha : a ≤ m) (hu : numEnd s a ≤ m) : numEnd t a = numEnd s a := by
  unfold numEnd at hu ⊢
  have g1 : Go.Proofs.YtnmifeiokhpcfaaDoor.upTo isDig s a ≤ fracEnd s (Go.Proofs.YtnmifeiokhpcfaaDoor.upTo isDig s a) := by
    unfold fracEnd
    split
    · have := upTo_ge isDig s (Go.Proofs.YtnmifeiokhpcfaaDoor.upTo isDig s a + 1); omega
    · exact Nat.le_refl _
  have g2 : fracEnd s (Go.Proofs.YtnmifeiokhpcfaaDoor.upTo isDig s a) ≤ expEnd s (fracEnd s (Go.Proofs.YtnmifeiokhpcfaaDoor.upTo isDig s a)) := by
    unfold expEnd
    split
    · have := upTo_ge isDig s (expFrom s (fracEnd s (Go.Proofs.YtnmifeiokhpcfaaDoor.upTo isDig s a)))
      have := expFrom_ge s (fracEnd s (Go.Proofs.YtnmifeiokhpcfaaDoor.upTo isDig s a))
      omega
    · exact Nat.le_refl _
  rw [h.upTo' (by decide) ha (by omega), h.frac (by omega) (by omega), h.exp (by omega) hu]

end Go.Proofs.YtnmifeiokhpcfaaDoor
