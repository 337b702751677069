/-
  PACKAGE lex: numbers that are no numbers; readToken.
-/
import Derived.Test.YtnmifeiokhpcfaaDoorLex9

namespace Go.Proofs.YtnmifeiokhpcfaaDoor
open Go.RowKit
set_option linter.unusedVariables false

theorem fracEnd_le {s : ByteArray} {a : Nat} (h : a ≤ s.size) : fracEnd s a ≤ s.size := by
  unfold fracEnd
  split
  · rename_i h1
    have : a + 1 ≤ s.size := by
      by_cases h2 : a < s.size
      · omega
      · have := h1.1; rw [byt_out (by omega)] at this; omega
    exact upTo_le this
  · exact h
theorem expEnd_le {s : ByteArray} {a : Nat} (h : a ≤ s.size) : expEnd s a ≤ s.size := by
  unfold expEnd
  split
  · rename_i h1
    have : expFrom s a < s.size := by
      by_cases h2 : expFrom s a < s.size
      · exact h2
      · have := h1.2; rw [byt_out (by omega)] at this; cases this
    exact upTo_le (by omega)
  · exact h
def numEnd (s : ByteArray) (a : Nat) : Nat := expEnd s (fracEnd s (upTo isDig s a))
theorem numEnd_le {s : ByteArray} {a : Nat} (h : a ≤ s.size) : numEnd s a ≤ s.size := expEnd_le (fracEnd_le (upTo_le h))

set_option maxHeartbeats 800000 in
theorem readNumber_bad {w : World} {B : Nat} {s : ByteArray} {a st : Nat} {l : List Tk} (h : Sc w B s a st l) (ha : a ≤ s.size) (hs : s.size < 4611686018427387904) (hx : isRun (byt s (numEnd s a)) = true ∨ byt s (numEnd s a) = 46) :
    Calls Tryd.prog 40 #[.pointer (some ⟨B, 0, none⟩)] w fun r w' => r = .panicked (failP 7 st) ∧ Below B w w' := by
  obtain ⟨v, hp, ho⟩ := h
  have hB := hp.lt
  have HP := Lib.hid hp
  have HO := Lib.hid ho
  have HX := Lib.hid hx
  clear hp ho hx
  go_enter Tryd.func40, Tryd.ntmps40
  go_wp2_with fail
  refine (take_any 2 (by unfold okCls; simp) HP.out ha hs).mono ?_
  rintro r w1 ⟨rfl, hg1, hp1⟩
  rw [show inCls 2 = isDig from rfl] at hp1 ⊢
  have G1 := Lib.hid hg1
  have P1 := Lib.hid hp1
  clear hg1 hp1
  go_wp2_with fail
  refine (passFraction_any P1.out (upTo_le ha) hs).mono ?_
  rintro r w2 ⟨rfl, hg2, hp2⟩
  have G2 := Lib.hid (grown_and G1.out hg2 (fun j e => .inr e))
  have P2 := Lib.hid hp2
  clear hg2 hp2
  go_wp2_with fail
  refine (passExponent_any P2.out (fracEnd_le (upTo_le ha)) hs).mono ?_
  rintro r w3 ⟨rfl, hg3, hp3⟩
  have G3 := Lib.hid (grown_and G2.out hg3 (fun j e => .inr e))
  have P3 := Lib.hid (show Pos w3 B 49 s (numEnd s a) [.int .i64 st, v] from hp3)
  clear hg3 hp3
  have hle := numEnd_le ha
  go_wp2_with fail
  refine (sees_any 4 (by unfold okCls; simp) P3.out hle).mono ?_
  rintro r w4 ⟨rfl, m, rfl⟩
  cases hc : seesV 4 s (numEnd s a)
  · have h46 : (byt s (numEnd s a) == 46) = true := by
      rcases HX.out with h | h
      · rw [seesV] at hc; exact absurd h (by rw [show isRun = inCls 4 from rfl, hc]; decide)
      · simp [h]
    have H46 := Lib.hid h46
    clear hc h46
    go_wp2_with fail
    refine (has_any 46 (by decide) (P3.out.drewN m) hle).mono ?_
    rintro r w5 ⟨rfl, m', rfl⟩
    rw [H46.out]
    have H1 := Lib.hid (Sc.moved (grown_drewN (grown_drewN G3.out m) m') HO.out ((P3.out.drewN m).drewN m'))
    have HB := Lib.hid (below_grown (Nat.le_of_lt hB) (grown_drewN (grown_drewN G3.out m) m'))
    generalize (w3.drewN m).drewN m' = W5 at *
    go_wp2_with fail
    refine (fail_any 7 H1.out).mono ?_
    rintro r w' ⟨rfl, rfl⟩
    go_wp2_with fail
    first | exact ⟨rfl, HB.out⟩ | exact ⟨rfl, rfl, HB.out⟩ | (simp [bodyPost]; exact HB.out) | trace_state
  · clear hc
    have H1 := Lib.hid (Sc.moved (grown_drewN G3.out m) HO.out (P3.out.drewN m))
    have HB := Lib.hid (below_grown (Nat.le_of_lt hB) (grown_drewN G3.out m))
    generalize w3.drewN m = W5 at *
    go_wp2_with fail
    refine (fail_any 7 H1.out).mono ?_
    rintro r w' ⟨rfl, rfl⟩
    go_wp2_with fail
    first | exact ⟨rfl, HB.out⟩ | exact ⟨rfl, rfl, HB.out⟩ | (simp [bodyPost]; exact HB.out) | trace_state

/-- how the reading of a token ends: an error, or where the scanner is then, and its tokens -/
abbrev Out := Except Int (Nat × List Tk)
def OutP (w : World) (B : Nat) (s : ByteArray) (st : Nat) (o : Out) (r : Ending) (w' : World) : Prop :=
  match o with
  | .error e => r = .panicked (failP e st) ∧ Below B w w'
  | .ok (b, l) => r = .returned (.tuple #[]) ∧ Below B w w' ∧ Sc w' B s b st l
theorem OutP.from {w0 w : World} {B : Nat} {s : ByteArray} {st : Nat} {o : Out} {r : Ending} {w' : World} (hb : Below B w0 w) (h : OutP w B s st o r w') : OutP w0 B s st o r w' := by
  cases o with
  | error e => exact ⟨h.1, hb.trans h.2⟩
  | ok p => exact ⟨h.1, hb.trans h.2.1, h.2.2⟩

theorem readToken_num {w : World} {B : Nat} {s : ByteArray} {a st : Nat} {l : List Tk} (h : Sc w B s a st l) (ha : a ≤ s.size) (f0 : seesV 2 s a = true) (o : Out)
    (HR : ∀ m, Calls Tryd.prog 40 #[.pointer (some ⟨B, 0, none⟩)] (w.drewN m) (OutP (w.drewN m) B s st o)) :
    Calls Tryd.prog 27 #[.pointer (some ⟨B, 0, none⟩)] w (OutP w B s st o) := by
  obtain ⟨v, hp, ho⟩ := h
  have HP0 := Lib.hid hp
  have HC := Lib.hid HR
  have F0 := Lib.hid f0
  clear hp ho HR f0
  go_enter Tryd.func27, Tryd.ntmps27
  go_wp2_with fail
  refine (sees_any 2 (by unfold okCls; simp) HP0.out ha).mono ?_
  rintro r w' ⟨rfl, m0, rfl⟩
  rw [F0.out]
  have HP1 := Lib.hid (HP0.out.drewN (m0))
  go_wp2_with fail
  first | refine (HC.out (m0)).mono ?_ | (rw [show (w.drewN m0) = w.drewN (m0) from by simp [Nat.add_assoc]]; refine (HC.out (m0)).mono ?_) | trace_state
  intro r w' hO
  have HO2 := Lib.hid (OutP.from (below_drewN (Below.refl B w) (m0)) hO)
  clear hO
  cases o with
  | error e =>
    obtain ⟨rfl, hb⟩ := HO2.out
    go_wp2_with fail
    first | exact HO2.out | exact ⟨rfl, HO2.out⟩ | (simp [bodyPost]; exact HO2.out) | trace_state
  | ok p =>
    obtain ⟨rfl, hb, hc⟩ := HO2.out
    clear hb hc
    go_wp2_with fail
    go_end0
    exact HO2.out

theorem readToken_word {w : World} {B : Nat} {s : ByteArray} {a st : Nat} {l : List Tk} (h : Sc w B s a st l) (ha : a ≤ s.size) (f0 : seesV 2 s a = false) (f1 : seesV 4 s a = true) (o : Out)
    (HR : ∀ m, Calls Tryd.prog 41 #[.pointer (some ⟨B, 0, none⟩)] (w.drewN m) (OutP (w.drewN m) B s st o)) :
    Calls Tryd.prog 27 #[.pointer (some ⟨B, 0, none⟩)] w (OutP w B s st o) := by
  obtain ⟨v, hp, ho⟩ := h
  have HP0 := Lib.hid hp
  have HC := Lib.hid HR
  have F0 := Lib.hid f0
  have F1 := Lib.hid f1
  clear hp ho HR f0 f1
  go_enter Tryd.func27, Tryd.ntmps27
  go_wp2_with fail
  refine (sees_any 2 (by unfold okCls; simp) HP0.out ha).mono ?_
  rintro r w' ⟨rfl, m0, rfl⟩
  rw [F0.out]
  have HP1 := Lib.hid (HP0.out.drewN (m0))
  go_wp2_with fail
  refine (sees_any 4 (by unfold okCls; simp) HP1.out ha).mono ?_
  rintro r w' ⟨rfl, m1, rfl⟩
  rw [F1.out]
  have HP2 := Lib.hid (HP0.out.drewN (m0 + m1))
  go_wp2_with fail
  first | refine (HC.out (m0 + m1)).mono ?_ | (rw [show ((w.drewN m0).drewN m1) = w.drewN (m0 + m1) from by simp [Nat.add_assoc]]; refine (HC.out (m0 + m1)).mono ?_) | trace_state
  intro r w' hO
  have HO2 := Lib.hid (OutP.from (below_drewN (Below.refl B w) (m0 + m1)) hO)
  clear hO
  cases o with
  | error e =>
    obtain ⟨rfl, hb⟩ := HO2.out
    go_wp2_with fail
    first | exact HO2.out | exact ⟨rfl, HO2.out⟩ | (simp [bodyPost]; exact HO2.out) | trace_state
  | ok p =>
    obtain ⟨rfl, hb, hc⟩ := HO2.out
    clear hb hc
    go_wp2_with fail
    go_end0
    exact HO2.out

theorem readToken_string {w : World} {B : Nat} {s : ByteArray} {a st : Nat} {l : List Tk} (h : Sc w B s a st l) (ha : a ≤ s.size) (f0 : seesV 2 s a = false) (f1 : seesV 4 s a = false) (f2 : (byt s a == 34) = true) (o : Out)
    (HR : ∀ m, Calls Tryd.prog 43 #[.pointer (some ⟨B, 0, none⟩)] (w.drewN m) (OutP (w.drewN m) B s st o)) :
    Calls Tryd.prog 27 #[.pointer (some ⟨B, 0, none⟩)] w (OutP w B s st o) := by
  obtain ⟨v, hp, ho⟩ := h
  have HP0 := Lib.hid hp
  have HC := Lib.hid HR
  have F0 := Lib.hid f0
  have F1 := Lib.hid f1
  have F2 := Lib.hid f2
  clear hp ho HR f0 f1 f2
  go_enter Tryd.func27, Tryd.ntmps27
  go_wp2_with fail
  refine (sees_any 2 (by unfold okCls; simp) HP0.out ha).mono ?_
  rintro r w' ⟨rfl, m0, rfl⟩
  rw [F0.out]
  have HP1 := Lib.hid (HP0.out.drewN (m0))
  go_wp2_with fail
  refine (sees_any 4 (by unfold okCls; simp) HP1.out ha).mono ?_
  rintro r w' ⟨rfl, m1, rfl⟩
  rw [F1.out]
  have HP2 := Lib.hid (HP0.out.drewN (m0 + m1))
  go_wp2_with fail
  refine (has_any 34 (by decide) HP2.out ha).mono ?_
  rintro r w' ⟨rfl, m2, rfl⟩
  rw [F2.out]
  have HP3 := Lib.hid (HP0.out.drewN (m0 + m1 + m2))
  go_wp2_with fail
  first | refine (HC.out (m0 + m1 + m2)).mono ?_ | (rw [show (((w.drewN m0).drewN m1).drewN m2) = w.drewN (m0 + m1 + m2) from by simp [Nat.add_assoc]]; refine (HC.out (m0 + m1 + m2)).mono ?_) | trace_state
  intro r w' hO
  have HO2 := Lib.hid (OutP.from (below_drewN (Below.refl B w) (m0 + m1 + m2)) hO)
  clear hO
  cases o with
  | error e =>
    obtain ⟨rfl, hb⟩ := HO2.out
    go_wp2_with fail
    first | exact HO2.out | exact ⟨rfl, HO2.out⟩ | (simp [bodyPost]; exact HO2.out) | trace_state
  | ok p =>
    obtain ⟨rfl, hb, hc⟩ := HO2.out
    clear hb hc
    go_wp2_with fail
    go_end0
    exact HO2.out

theorem readToken_sign {w : World} {B : Nat} {s : ByteArray} {a st : Nat} {l : List Tk} (h : Sc w B s a st l) (ha : a ≤ s.size) (f0 : seesV 2 s a = false) (f1 : seesV 4 s a = false) (f2 : (byt s a == 34) = false) (o : Out)
    (HR : ∀ m, Calls Tryd.prog 44 #[.pointer (some ⟨B, 0, none⟩)] (w.drewN m) (OutP (w.drewN m) B s st o)) :
    Calls Tryd.prog 27 #[.pointer (some ⟨B, 0, none⟩)] w (OutP w B s st o) := by
  obtain ⟨v, hp, ho⟩ := h
  have HP0 := Lib.hid hp
  have HC := Lib.hid HR
  have F0 := Lib.hid f0
  have F1 := Lib.hid f1
  have F2 := Lib.hid f2
  clear hp ho HR f0 f1 f2
  go_enter Tryd.func27, Tryd.ntmps27
  go_wp2_with fail
  refine (sees_any 2 (by unfold okCls; simp) HP0.out ha).mono ?_
  rintro r w' ⟨rfl, m0, rfl⟩
  rw [F0.out]
  have HP1 := Lib.hid (HP0.out.drewN (m0))
  go_wp2_with fail
  refine (sees_any 4 (by unfold okCls; simp) HP1.out ha).mono ?_
  rintro r w' ⟨rfl, m1, rfl⟩
  rw [F1.out]
  have HP2 := Lib.hid (HP0.out.drewN (m0 + m1))
  go_wp2_with fail
  refine (has_any 34 (by decide) HP2.out ha).mono ?_
  rintro r w' ⟨rfl, m2, rfl⟩
  rw [F2.out]
  have HP3 := Lib.hid (HP0.out.drewN (m0 + m1 + m2))
  go_wp2_with fail
  first | refine (HC.out (m0 + m1 + m2)).mono ?_ | (rw [show (((w.drewN m0).drewN m1).drewN m2) = w.drewN (m0 + m1 + m2) from by simp [Nat.add_assoc]]; refine (HC.out (m0 + m1 + m2)).mono ?_) | trace_state
  intro r w' hO
  have HO2 := Lib.hid (OutP.from (below_drewN (Below.refl B w) (m0 + m1 + m2)) hO)
  clear hO
  cases o with
  | error e =>
    obtain ⟨rfl, hb⟩ := HO2.out
    go_wp2_with fail
    first | exact HO2.out | exact ⟨rfl, HO2.out⟩ | (simp [bodyPost]; exact HO2.out) | trace_state
  | ok p =>
    obtain ⟨rfl, hb, hc⟩ := HO2.out
    clear hb hc
    go_wp2_with fail
    go_end0
    exact HO2.out

end Go.Proofs.YtnmifeiokhpcfaaDoor
