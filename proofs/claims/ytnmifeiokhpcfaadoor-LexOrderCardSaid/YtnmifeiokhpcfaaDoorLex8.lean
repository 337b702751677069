/-
  PACKAGE lex: readWord, readString.
-/
import Derived.Test.YtnmifeiokhpcfaaDoorLex7

namespace Go.Proofs.YtnmifeiokhpcfaaDoor
open Go.RowKit
set_option linter.unusedVariables false

theorem readWord_bad {w : World} {B : Nat} {s : ByteArray} {a st : Nat} {l : List Tk} (h : Sc w B s a st l) (ha : a ≤ s.size) (hs : s.size < 4611686018427387904) (hl : l.length < 131072) (ht : TabAt w B 0 wordL) (hx : Lib.containsS wordL (s.extract a (upTo isRun s a)) = false) (hz : 16 < upTo isRun s a - a) :
    Calls Tryd.prog 41 #[.pointer (some ⟨B, 0, none⟩)] w fun r w' => r = .panicked (failP 2 st) ∧ Below B w w' := by
  obtain ⟨v, hp, ho⟩ := h
  have hB := hp.lt
  have HP := Lib.hid hp
  have HO := Lib.hid ho
  have HT := Lib.hid ht
  have hu2 := upTo_le (f := isRun) ha
  have hun := upTo_le (f := inCls 4) ha
  have hsz : (s.extract a (upTo isRun s a)).size = upTo isRun s a - a := by rw [ByteArray.size_extract]; omega
  have HZ := Lib.hid hsz
  clear hp ho ht hsz hun
  have HX := Lib.hid hx
  clear hx
  go_enter Tryd.func41, Tryd.ntmps41
  go_wp2_with fail
  refine (take_any 4 (by unfold okCls; simp) HP.out ha hs).mono ?_
  rintro r w1 ⟨rfl, hg, hp1⟩
  rw [show inCls 4 = isRun from rfl] at hp1 ⊢
  have H1 := Lib.hid (Sc.moved hg HO.out hp1)
  have HB1 := Lib.hid (below_grown (Nat.le_of_lt hB) hg)
  have HT1 := Lib.hid (HT.out.kept HB1.out (Nat.le_refl _))
  clear hg hp1
  generalize hxx : s.extract a (upTo isRun s a) = x at *
  generalize huu : upTo isRun s a = u at *
  have HXX := Lib.hid hxx
  have HUU := Lib.hid huu
  clear hxx huu
  go_wp2_with fail
  refine (isWord_any x HT1.out).mono ?_
  rintro r w' ⟨rfl, rfl⟩
  rw [HX.out]
  have hz' : (16 : Int) < x.size := by rw [HZ.out]; omega
  go_wp2_with fail
  refine (fail_any 2 H1.out).mono ?_
  rintro r w' ⟨rfl, rfl⟩
  have HB := HB1
  go_wp2_with fail
  first | exact ⟨rfl, HB.out⟩ | exact ⟨rfl, rfl, HB.out⟩ | (simp [bodyPost]; exact HB.out) | trace_state

theorem readWord_name {w : World} {B : Nat} {s : ByteArray} {a st : Nat} {l : List Tk} (h : Sc w B s a st l) (ha : a ≤ s.size) (hs : s.size < 4611686018427387904) (hl : l.length < 131072) (ht : TabAt w B 0 wordL) (hx : Lib.containsS wordL (s.extract a (upTo isRun s a)) = false) (hz : ¬ 16 < upTo isRun s a - a) :
    Calls Tryd.prog 41 #[.pointer (some ⟨B, 0, none⟩)] w fun r w' => r = .returned (.tuple #[]) ∧ Below B w w' ∧ Sc w' B s (upTo isRun s a) st (l ++ [(⟨2, s.extract a (upTo isRun s a), 0, 0, 0, st, upTo isRun s a⟩ : Tk)]) := by
  obtain ⟨v, hp, ho⟩ := h
  have hB := hp.lt
  have HP := Lib.hid hp
  have HO := Lib.hid ho
  have HT := Lib.hid ht
  have hu2 := upTo_le (f := isRun) ha
  have hun := upTo_le (f := inCls 4) ha
  have hsz : (s.extract a (upTo isRun s a)).size = upTo isRun s a - a := by rw [ByteArray.size_extract]; omega
  have HZ := Lib.hid hsz
  clear hp ho ht hsz hun
  have HX := Lib.hid hx
  clear hx
  go_enter Tryd.func41, Tryd.ntmps41
  go_wp2_with fail
  refine (take_any 4 (by unfold okCls; simp) HP.out ha hs).mono ?_
  rintro r w1 ⟨rfl, hg, hp1⟩
  rw [show inCls 4 = isRun from rfl] at hp1 ⊢
  have H1 := Lib.hid (Sc.moved hg HO.out hp1)
  have HB1 := Lib.hid (below_grown (Nat.le_of_lt hB) hg)
  have HT1 := Lib.hid (HT.out.kept HB1.out (Nat.le_refl _))
  clear hg hp1
  generalize hxx : s.extract a (upTo isRun s a) = x at *
  generalize huu : upTo isRun s a = u at *
  have HXX := Lib.hid hxx
  have HUU := Lib.hid huu
  clear hxx huu
  go_wp2_with fail
  refine (isWord_any x HT1.out).mono ?_
  rintro r w' ⟨rfl, rfl⟩
  rw [HX.out]
  have hz' : ¬ (16 : Int) < x.size := by rw [HZ.out]; omega
  go_wp2_with fail
  refine (isWord_any x HT1.out).mono ?_
  rintro r w' ⟨rfl, rfl⟩
  rw [HX.out]
  go_wp2_with fail
  refine (add_any ⟨2, x, 0, 0, 0, 0, 0⟩ H1.out hl).mono ?_
  rintro r w2 ⟨rfl, hb2, h2⟩
  have HB2 := Lib.hid (HB1.out.trans hb2)
  have H2 := Lib.hid h2
  clear hb2 h2
  go_wp2_with fail
  go_end0
  refine ⟨rfl, HB2.out, ?_⟩
  have h2 := H2.out
  try rw [← HXX.out] at h2
  try rw [← HUU.out] at h2
  exact h2

theorem readWord_word {w : World} {B : Nat} {s : ByteArray} {a st : Nat} {l : List Tk} (h : Sc w B s a st l) (ha : a ≤ s.size) (hs : s.size < 4611686018427387904) (hl : l.length < 131072) (ht : TabAt w B 0 wordL) (hx : Lib.containsS wordL (s.extract a (upTo isRun s a)) = true) (he : ((s.extract a (upTo isRun s a)).toList == [101, 110, 100]) = false) :
    Calls Tryd.prog 41 #[.pointer (some ⟨B, 0, none⟩)] w fun r w' => r = .returned (.tuple #[]) ∧ Below B w w' ∧ Sc w' B s (upTo isRun s a) st (l ++ [(⟨1, s.extract a (upTo isRun s a), 0, 0, 0, st, upTo isRun s a⟩ : Tk)]) := by
  obtain ⟨v, hp, ho⟩ := h
  have hB := hp.lt
  have HP := Lib.hid hp
  have HO := Lib.hid ho
  have HT := Lib.hid ht
  have hu2 := upTo_le (f := isRun) ha
  have hun := upTo_le (f := inCls 4) ha
  have hsz : (s.extract a (upTo isRun s a)).size = upTo isRun s a - a := by rw [ByteArray.size_extract]; omega
  have HZ := Lib.hid hsz
  clear hp ho ht hsz hun
  have HX := Lib.hid hx
  clear hx
  go_enter Tryd.func41, Tryd.ntmps41
  go_wp2_with fail
  refine (take_any 4 (by unfold okCls; simp) HP.out ha hs).mono ?_
  rintro r w1 ⟨rfl, hg, hp1⟩
  rw [show inCls 4 = isRun from rfl] at hp1 ⊢
  have H1 := Lib.hid (Sc.moved hg HO.out hp1)
  have HB1 := Lib.hid (below_grown (Nat.le_of_lt hB) hg)
  have HT1 := Lib.hid (HT.out.kept HB1.out (Nat.le_refl _))
  clear hg hp1
  generalize hxx : s.extract a (upTo isRun s a) = x at *
  generalize huu : upTo isRun s a = u at *
  have HXX := Lib.hid hxx
  have HUU := Lib.hid huu
  clear hxx huu
  go_wp2_with fail
  refine (isWord_any x HT1.out).mono ?_
  rintro r w' ⟨rfl, rfl⟩
  rw [HX.out]
  go_wp2_with fail
  refine (isWord_any x HT1.out).mono ?_
  rintro r w' ⟨rfl, rfl⟩
  rw [HX.out]
  go_wp2_with fail
  refine (add_any ⟨1, x, 0, 0, 0, 0, 0⟩ H1.out hl).mono ?_
  rintro r w2 ⟨rfl, hb2, h2⟩
  have HB2 := Lib.hid (HB1.out.trans hb2)
  have H2 := Lib.hid h2
  clear hb2 h2
  go_wp2_with fail
  go_end0
  refine ⟨rfl, HB2.out, ?_⟩
  have h2 := H2.out
  try rw [← HXX.out] at h2
  try rw [← HUU.out] at h2
  exact h2

theorem readWord_end {w : World} {B : Nat} {s : ByteArray} {a st : Nat} {l : List Tk} (h : Sc w B s a st l) (ha : a ≤ s.size) (hs : s.size < 4611686018427387904) (hl : l.length < 131072) (ht : TabAt w B 0 wordL) (hx : Lib.containsS wordL (s.extract a (upTo isRun s a)) = true) (he : ((s.extract a (upTo isRun s a)).toList == [101, 110, 100]) = true) :
    Calls Tryd.prog 41 #[.pointer (some ⟨B, 0, none⟩)] w fun r w' => r = .returned (.tuple #[]) ∧ Below B w w' ∧ Sc w' B s (closer s (upTo isRun s a)) st (l ++ [(⟨1, s.extract a (upTo isRun s a), 0, 0, 0, st, upTo isRun s a⟩ : Tk)]) := by
  obtain ⟨v, hp, ho⟩ := h
  have hB := hp.lt
  have HP := Lib.hid hp
  have HO := Lib.hid ho
  have HT := Lib.hid ht
  have hu2 := upTo_le (f := isRun) ha
  have hun := upTo_le (f := inCls 4) ha
  have hsz : (s.extract a (upTo isRun s a)).size = upTo isRun s a - a := by rw [ByteArray.size_extract]; omega
  have HZ := Lib.hid hsz
  clear hp ho ht hsz hun
  have HX := Lib.hid hx
  clear hx
  go_enter Tryd.func41, Tryd.ntmps41
  go_wp2_with fail
  refine (take_any 4 (by unfold okCls; simp) HP.out ha hs).mono ?_
  rintro r w1 ⟨rfl, hg, hp1⟩
  rw [show inCls 4 = isRun from rfl] at hp1 ⊢
  have H1 := Lib.hid (Sc.moved hg HO.out hp1)
  have HB1 := Lib.hid (below_grown (Nat.le_of_lt hB) hg)
  have HT1 := Lib.hid (HT.out.kept HB1.out (Nat.le_refl _))
  clear hg hp1
  generalize hxx : s.extract a (upTo isRun s a) = x at *
  generalize huu : upTo isRun s a = u at *
  have HXX := Lib.hid hxx
  have HUU := Lib.hid huu
  clear hxx huu
  go_wp2_with fail
  refine (isWord_any x HT1.out).mono ?_
  rintro r w' ⟨rfl, rfl⟩
  rw [HX.out]
  go_wp2_with fail
  refine (isWord_any x HT1.out).mono ?_
  rintro r w' ⟨rfl, rfl⟩
  rw [HX.out]
  go_wp2_with fail
  refine (add_any ⟨1, x, 0, 0, 0, 0, 0⟩ H1.out hl).mono ?_
  rintro r w2 ⟨rfl, hb2, h2⟩
  have HB2 := Lib.hid (HB1.out.trans hb2)
  have H2 := Lib.hid h2
  clear hb2 h2
  go_wp2_with fail
  refine (passBehindEnd_any H2.out hu2 hs).mono ?_
  rintro r w3 ⟨rfl, hb3, h3⟩
  have HB3 := Lib.hid (HB2.out.trans hb3)
  have H3 := Lib.hid h3
  clear hb3 h3
  go_wp2_with fail
  go_end0
  refine ⟨rfl, HB3.out, ?_⟩
  have h2 := H3.out
  try rw [← HXX.out] at h2
  try rw [← HUU.out] at h2
  exact h2

/-- behind the bytes of a string -/
def strEnd (s : ByteArray) (a : Nat) : Nat := upTo isStr s (a + 1)
theorem readString_open {w : World} {B : Nat} {s : ByteArray} {a st : Nat} {l : List Tk} (h : Sc w B s a st l) (ha : a < s.size) (hs : s.size < 4611686018427387904) (hl : l.length < 131072) (hq : byt s a = 34) (hx : ¬ byt s (strEnd s a) = 34) :
    Calls Tryd.prog 43 #[.pointer (some ⟨B, 0, none⟩)] w fun r w' => r = .panicked (failP 7 st) ∧ Below B w w' := by
  obtain ⟨v, hp, ho⟩ := h
  have hB := hp.lt
  have HP := Lib.hid hp
  have HO := Lib.hid ho
  have HQ := Lib.hid (show passAt 34 s a = a + 1 from if_pos hq)
  have hu2 : strEnd s a ≤ s.size := upTo_le (f := isStr) ha
  have hsz : (s.extract (a + 1) (strEnd s a)).size = strEnd s a - (a + 1) := by rw [ByteArray.size_extract]; omega
  have HZ := Lib.hid hsz
  clear hp ho hsz hq
  have HE := Lib.hid (show passAt 34 s (strEnd s a) = strEnd s a from if_neg hx)
  have HF := Lib.hid (show (byt s (strEnd s a) == 34) = false from by simpa using hx)
  clear hx
  go_enter Tryd.func43, Tryd.ntmps43
  go_wp2_with fail
  refine (pass_any 34 (by decide) HP.out (Nat.le_of_lt ha) hs).mono ?_
  rintro r w1 ⟨rfl, hg, hp1⟩
  rw [HQ.out] at hp1
  have G1 := Lib.hid hg
  have P1 := Lib.hid hp1
  clear hg hp1
  go_wp2_with fail
  refine (take_any 8 (by unfold okCls; simp) P1.out ha hs).mono ?_
  rintro r w2 ⟨rfl, hg, hp2⟩
  rw [show upTo (inCls 8) s (a + 1) = strEnd s a from rfl] at hp2 ⊢
  have G2 := Lib.hid (grown_and G1.out hg (fun j e => .inr e))
  have P2 := Lib.hid hp2
  clear hg hp2
  generalize hxx : s.extract (a + 1) (strEnd s a) = x at *
  have HXX := Lib.hid hxx
  clear hxx
  go_wp2_with fail
  refine (pass_any 34 (by decide) P2.out hu2 hs).mono ?_
  rintro r w3 ⟨rfl, hg, hp3⟩
  rw [HE.out] at hp3
  rw [HF.out]
  have H1 := Lib.hid (Sc.moved (grown_and G2.out hg (fun j e => .inr e)) HO.out hp3)
  have HB1 := Lib.hid (below_grown (Nat.le_of_lt hB) (grown_and G2.out hg (fun j e => .inr e)))
  clear hg hp3
  go_wp2_with fail
  refine (fail_any 7 H1.out).mono ?_
  rintro r w' ⟨rfl, rfl⟩
  have HB := HB1
  go_wp2_with fail
  first | exact ⟨rfl, HB.out⟩ | exact ⟨rfl, rfl, HB.out⟩ | (simp [bodyPost]; exact HB.out) | trace_state

theorem readString_long {w : World} {B : Nat} {s : ByteArray} {a st : Nat} {l : List Tk} (h : Sc w B s a st l) (ha : a < s.size) (hs : s.size < 4611686018427387904) (hl : l.length < 131072) (hq : byt s a = 34) (hx : byt s (strEnd s a) = 34) (hz : 80 < strEnd s a - (a + 1)) :
    Calls Tryd.prog 43 #[.pointer (some ⟨B, 0, none⟩)] w fun r w' => r = .panicked (failP 2 st) ∧ Below B w w' := by
  obtain ⟨v, hp, ho⟩ := h
  have hB := hp.lt
  have HP := Lib.hid hp
  have HO := Lib.hid ho
  have HQ := Lib.hid (show passAt 34 s a = a + 1 from if_pos hq)
  have hu2 : strEnd s a ≤ s.size := upTo_le (f := isStr) ha
  have hsz : (s.extract (a + 1) (strEnd s a)).size = strEnd s a - (a + 1) := by rw [ByteArray.size_extract]; omega
  have HZ := Lib.hid hsz
  clear hp ho hsz hq
  have HE := Lib.hid (show passAt 34 s (strEnd s a) = strEnd s a + 1 from if_pos hx)
  have HF := Lib.hid (show (byt s (strEnd s a) == 34) = true from by simpa using hx)
  clear hx
  go_enter Tryd.func43, Tryd.ntmps43
  go_wp2_with fail
  refine (pass_any 34 (by decide) HP.out (Nat.le_of_lt ha) hs).mono ?_
  rintro r w1 ⟨rfl, hg, hp1⟩
  rw [HQ.out] at hp1
  have G1 := Lib.hid hg
  have P1 := Lib.hid hp1
  clear hg hp1
  go_wp2_with fail
  refine (take_any 8 (by unfold okCls; simp) P1.out ha hs).mono ?_
  rintro r w2 ⟨rfl, hg, hp2⟩
  rw [show upTo (inCls 8) s (a + 1) = strEnd s a from rfl] at hp2 ⊢
  have G2 := Lib.hid (grown_and G1.out hg (fun j e => .inr e))
  have P2 := Lib.hid hp2
  clear hg hp2
  generalize hxx : s.extract (a + 1) (strEnd s a) = x at *
  have HXX := Lib.hid hxx
  clear hxx
  go_wp2_with fail
  refine (pass_any 34 (by decide) P2.out hu2 hs).mono ?_
  rintro r w3 ⟨rfl, hg, hp3⟩
  rw [HE.out] at hp3
  rw [HF.out]
  have H1 := Lib.hid (Sc.moved (grown_and G2.out hg (fun j e => .inr e)) HO.out hp3)
  have HB1 := Lib.hid (below_grown (Nat.le_of_lt hB) (grown_and G2.out hg (fun j e => .inr e)))
  clear hg hp3
  have hz' : (80 : Int) < x.size := by rw [HZ.out]; omega
  go_wp2_with fail
  refine (fail_any 2 H1.out).mono ?_
  rintro r w' ⟨rfl, rfl⟩
  have HB := HB1
  go_wp2_with fail
  first | exact ⟨rfl, HB.out⟩ | exact ⟨rfl, rfl, HB.out⟩ | (simp [bodyPost]; exact HB.out) | trace_state

theorem readString_ok {w : World} {B : Nat} {s : ByteArray} {a st : Nat} {l : List Tk} (h : Sc w B s a st l) (ha : a < s.size) (hs : s.size < 4611686018427387904) (hl : l.length < 131072) (hq : byt s a = 34) (hx : byt s (strEnd s a) = 34) (hz : ¬ 80 < strEnd s a - (a + 1)) :
    Calls Tryd.prog 43 #[.pointer (some ⟨B, 0, none⟩)] w fun r w' => r = .returned (.tuple #[]) ∧ Below B w w' ∧ Sc w' B s (strEnd s a + 1) st (l ++ [(⟨5, s.extract (a + 1) (strEnd s a), 0, 0, 0, st, strEnd s a + 1⟩ : Tk)]) := by
  obtain ⟨v, hp, ho⟩ := h
  have hB := hp.lt
  have HP := Lib.hid hp
  have HO := Lib.hid ho
  have HQ := Lib.hid (show passAt 34 s a = a + 1 from if_pos hq)
  have hu2 : strEnd s a ≤ s.size := upTo_le (f := isStr) ha
  have hsz : (s.extract (a + 1) (strEnd s a)).size = strEnd s a - (a + 1) := by rw [ByteArray.size_extract]; omega
  have HZ := Lib.hid hsz
  clear hp ho hsz hq
  have HE := Lib.hid (show passAt 34 s (strEnd s a) = strEnd s a + 1 from if_pos hx)
  have HF := Lib.hid (show (byt s (strEnd s a) == 34) = true from by simpa using hx)
  clear hx
  go_enter Tryd.func43, Tryd.ntmps43
  go_wp2_with fail
  refine (pass_any 34 (by decide) HP.out (Nat.le_of_lt ha) hs).mono ?_
  rintro r w1 ⟨rfl, hg, hp1⟩
  rw [HQ.out] at hp1
  have G1 := Lib.hid hg
  have P1 := Lib.hid hp1
  clear hg hp1
  go_wp2_with fail
  refine (take_any 8 (by unfold okCls; simp) P1.out ha hs).mono ?_
  rintro r w2 ⟨rfl, hg, hp2⟩
  rw [show upTo (inCls 8) s (a + 1) = strEnd s a from rfl] at hp2 ⊢
  have G2 := Lib.hid (grown_and G1.out hg (fun j e => .inr e))
  have P2 := Lib.hid hp2
  clear hg hp2
  generalize hxx : s.extract (a + 1) (strEnd s a) = x at *
  have HXX := Lib.hid hxx
  clear hxx
  go_wp2_with fail
  refine (pass_any 34 (by decide) P2.out hu2 hs).mono ?_
  rintro r w3 ⟨rfl, hg, hp3⟩
  rw [HE.out] at hp3
  rw [HF.out]
  have H1 := Lib.hid (Sc.moved (grown_and G2.out hg (fun j e => .inr e)) HO.out hp3)
  have HB1 := Lib.hid (below_grown (Nat.le_of_lt hB) (grown_and G2.out hg (fun j e => .inr e)))
  clear hg hp3
  have hz' : ¬ (80 : Int) < x.size := by rw [HZ.out]; omega
  go_wp2_with fail
  refine (add_any ⟨5, x, 0, 0, 0, 0, 0⟩ H1.out hl).mono ?_
  rintro r w2 ⟨rfl, hb2, h2⟩
  have HB2 := Lib.hid (HB1.out.trans hb2)
  have H2 := Lib.hid h2
  clear hb2 h2
  go_wp2_with fail
  go_end0
  refine ⟨rfl, HB2.out, ?_⟩
  have h2 := H2.out
  try rw [← HXX.out] at h2
  try rw [← HUU.out] at h2
  exact h2

end Go.Proofs.YtnmifeiokhpcfaaDoor
