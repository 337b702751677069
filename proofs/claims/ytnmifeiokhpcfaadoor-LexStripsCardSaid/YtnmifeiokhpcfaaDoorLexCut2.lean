/-
  PACKAGE lex: the scan of a text's head, up to where the text's first error is.
-/
import Derived.Test.YtnmifeiokhpcfaaDoorLexCut

namespace Go.Proofs.YtnmifeiokhpcfaaDoor
open Go.RowKit
set_option linter.unusedVariables false

theorem upTo_all {f : Nat → Bool} {s : ByteArray} : ∀ d a k, a + d = k → k < upTo f s a → f (byt s k) = true := by
  intro d
  induction d with
  | zero =>
    intro a k hk hu
    obtain rfl : a = k := by omega
    cases hf : f (byt s a)
    · rw [upTo_stop hf] at hu; omega
    · rfl
  | succ d ih =>
    intro a k hk hu
    cases hf : f (byt s a)
    · rw [upTo_stop hf] at hu; omega
    · by_cases ha : a < s.size
      · rw [upTo_step ha hf] at hu
        exact ih (a + 1) k (by omega) hu
      · rw [upTo_end (by omega)] at hu; omega

/-- no run of letters and digits crosses m -/
def Bd (s : ByteArray) (m : Nat) : Prop := isRun (byt s m) = true → m = 0 ∨ isRun (byt s (m - 1)) = false

theorem Bd.run {s : ByteArray} {m a : Nat} (h : Bd s m) (ha : a < m) : upTo isRun s a ≤ m := by
  by_cases hu : upTo isRun s a ≤ m
  · exact hu
  · have h1 := upTo_all (f := isRun) (s := s) (m - a) a m (by omega) (by omega)
    have h2 := upTo_all (f := isRun) (s := s) (m - 1 - a) a (m - 1) (by omega) (by omega)
    rcases h h1 with h3 | h3
    · omega
    · rw [h2] at h3; cases h3

theorem Bd.blank {s : ByteArray} {a : Nat} (h : Bd s a) : Bd s (upTo isBlank s a) := by
  have hg := upTo_ge isBlank s a
  by_cases he : upTo isBlank s a = a
  · rw [he]; exact h
  · intro _
    have h2 := upTo_all (f := isBlank) (s := s) (upTo isBlank s a - 1 - a) a (upTo isBlank s a - 1) (by omega) (by omega)
    right
    generalize byt s (upTo isBlank s a - 1) = b at *
    unfold isBlank at h2
    simp at h2
    rcases h2 with ((rfl | rfl) | rfl) | rfl <;> decide

theorem Bd.stop {s : ByteArray} {a : Nat} (h : isRun (byt s a) = false) : Bd s a := fun h1 => by rw [h] at h1; cases h1

theorem Bd.prev {s : ByteArray} {a : Nat} (h : isRun (byt s a) = false) : Bd s (a + 1) := fun _ => .inr (by simpa using h)

theorem cloN_bd (s : ByteArray) : ∀ n a, Bd s a → Bd s (cloN s n a) := by
  intro n
  induction n with
  | zero => intro a h; exact h
  | succ n ih =>
    intro a h
    unfold cloN
    split
    · split
      · exact h
      · apply ih
        split
        · exact Bd.stop (upTo_false (by decide) s a)
        · rename_i h1
          exact Bd.prev (by simpa using h1)
    · exact h

theorem cut_clo {s t : ByteArray} {m : Nat} (h : Cut s t m) (hm : Bd s m) : ∀ n n' a, m - a < n → m - a < n' → a ≤ m → cloN s n a ≤ m → cloN t n' a = cloN s n a := by
  intro n
  have hle := h.le
  have hsz := h.size
  induction n with
  | zero => intro n' a h1; omega
  | succ n ih =>
    intro n' a h1 h2 ha hc
    obtain ⟨n', rfl⟩ : ∃ j, n' = j + 1 := ⟨n' - 1, by omega⟩
    by_cases hlt : a < m
    · have hb := h.byt hlt
      have hr := hm.run hlt
      have hu := h.upTo' (f := isRun) (by decide) ha hr
      have hx := h.ext a hr
      unfold cloN at hc ⊢
      rw [hb, hu, hx, hsz]
      by_cases g : byt s a ≠ 59
      · have c1 : a < s.size ∧ byt s a ≠ 59 := ⟨by omega, g⟩
        have c2 : a < m ∧ byt s a ≠ 59 := ⟨hlt, g⟩
        rw [if_pos c1] at hc
        rw [if_pos c1, if_pos c2]
        split
        · rfl
        · rename_i hst
          rw [if_neg hst] at hc
          have hn : a < (if isRun (byt s a) = true then upTo isRun s a else a + 1) ∧ (if isRun (byt s a) = true then upTo isRun s a else a + 1) ≤ m := by
            split
            · rename_i h9
              exact ⟨run_gt h9, hr⟩
            · omega
          exact ih n' _ (by omega) (by omega) hn.2 hc
      · rw [if_neg (fun q => g q.2), if_neg (fun q => g q.2)]
    · obtain rfl : a = m := by omega
      have g1 := (cloN_le (s := s) (n + 1) a (by omega)).1
      have g2 : cloN t (n' + 1) a = a := by unfold cloN; rw [if_neg (by omega)]
      omega

theorem lgs_ge (r : List UInt8) : ∀ (l : List ByteArray) (b : ByteArray), b.size ≤ (lgs r l b).size := by
  intro l
  induction l with
  | nil => intro b; exact Nat.le_refl _
  | cons x l ih =>
    intro b
    unfold lgs
    split
    · rename_i h
      have := ih x
      omega
    · exact ih b

theorem pre_cut {r' y x : List UInt8} (h : x.length ≤ r'.length) : Lib.hasPrefix (r' ++ y) x = Lib.hasPrefix r' x := by
  unfold Lib.hasPrefix
  rw [Bool.eq_iff_iff]
  simp only [List.isPrefixOf_iff_prefix]
  constructor
  · intro q
    exact List.prefix_of_prefix_length_le q (List.prefix_append _ _) h
  · intro q
    exact q.trans (List.prefix_append _ _)

theorem pre_more {r' y x : List UInt8} (h : Lib.hasPrefix r' x = true) : Lib.hasPrefix (r' ++ y) x = true ∧ x.length ≤ r'.length := by
  unfold Lib.hasPrefix at h ⊢
  simp only [List.isPrefixOf_iff_prefix] at h ⊢
  exact ⟨h.trans (List.prefix_append _ _), h.length_le⟩

theorem lgs_cut (r' y : List UInt8) : ∀ (l : List ByteArray) (b : ByteArray), (lgs (r' ++ y) l b).size ≤ r'.length → lgs r' l b = lgs (r' ++ y) l b := by
  intro l
  induction l with
  | nil => intro b _; rfl
  | cons x l ih =>
    intro b hs
    unfold lgs at hs ⊢
    by_cases hc : (b.size : Int) < x.size ∧ Lib.hasPrefix (r' ++ y) x.data.toList = true
    · rw [if_pos hc] at hs ⊢
      have h1 := lgs_ge (r' ++ y) l x
      have h2 : x.data.toList.length ≤ r'.length := by rw [← Lib.size_eq]; omega
      rw [if_pos ⟨hc.1, by rw [← pre_cut (y := y) h2]; exact hc.2⟩]
      exact ih x hs
    · rw [if_neg hc] at hs ⊢
      rw [if_neg (fun q => hc ⟨q.1, (pre_more q.2).1⟩)]
      exact ih b hs

theorem cut_sign {s t : ByteArray} {m : Nat} (h : Cut s t m) {a : Nat} (ha : a ≤ m) (hu : a + (signAt s a).size ≤ m) : signAt t a = signAt s a := by
  have hle := h.le
  obtain ⟨rfl, _⟩ := h
  unfold signAt at hu ⊢
  have e : s.data.toList.drop a = ((s.extract 0 m).data.toList.drop a) ++ s.data.toList.drop m := by
    rw [Lib.extract_data]
    simp only [List.drop_zero, Nat.sub_zero, List.drop_take]
    conv => lhs; rw [← List.take_append_drop (m - a) (s.data.toList.drop a)]
    rw [List.drop_drop]
    congr 2
    omega
  have hl : ((s.extract 0 m).data.toList.drop a).length = m - a := by
    rw [Lib.extract_data]
    simp
    omega
  rw [e] at hu ⊢
  exact lgs_cut _ _ _ _ (by omega)

end Go.Proofs.YtnmifeiokhpcfaaDoor
