/-
  PACKAGE lex: the scan of a text; readAll.
-/
import Derived.Test.YtnmifeiokhpcfaaDoorLex10

namespace Go.Proofs.YtnmifeiokhpcfaaDoor
open Go.RowKit
set_option linter.unusedVariables false

/-- what a number at an offset gives: an error, or its end and its token -/
abbrev Num := Nat → Except Int (Nat × Tk)
def numOut (nf : Num) (a : Nat) (l : List Tk) : Out := match nf a with
  | .error e => .error e
  | .ok (e, t) => .ok (e, l ++ [t])
def wordOut (s : ByteArray) (a : Nat) (l : List Tk) : Out :=
  if Lib.containsS wordL (s.extract a (upTo isRun s a)) = true then
    (if ((s.extract a (upTo isRun s a)).toList == [101, 110, 100]) = true then .ok (closer s (upTo isRun s a), l ++ [(⟨1, s.extract a (upTo isRun s a), 0, 0, 0, a, upTo isRun s a⟩ : Tk)])
     else .ok (upTo isRun s a, l ++ [(⟨1, s.extract a (upTo isRun s a), 0, 0, 0, a, upTo isRun s a⟩ : Tk)]))
  else if 16 < upTo isRun s a - a then .error 2 else .ok (upTo isRun s a, l ++ [(⟨2, s.extract a (upTo isRun s a), 0, 0, 0, a, upTo isRun s a⟩ : Tk)])
def strOut (s : ByteArray) (a : Nat) (l : List Tk) : Out :=
  if byt s (strEnd s a) = 34 then (if 80 < strEnd s a - (a + 1) then .error 2 else .ok (strEnd s a + 1, l ++ [(⟨5, s.extract (a + 1) (strEnd s a), 0, 0, 0, a, strEnd s a + 1⟩ : Tk)])) else .error 7
def signOut (s : ByteArray) (a : Nat) (l : List Tk) : Out :=
  if (signAt s a).toList.isEmpty = true then .error 7 else .ok (a + (signAt s a).size, l ++ [(⟨6, signAt s a, 0, 0, 0, a, a + (signAt s a).size⟩ : Tk)])
def tokOut (nf : Num) (s : ByteArray) (a : Nat) (l : List Tk) : Out :=
  if isDig (byt s a) = true then numOut nf a l else if isRun (byt s a) = true then wordOut s a l else if byt s a = 34 then strOut s a l else signOut s a l

theorem readToken_any {w : World} {B : Nat} {s : ByteArray} {a : Nat} {l : List Tk} (nf : Num) (h : Sc w B s a a l) (ha : a < s.size) (hs : s.size < 4611686018427387904) (hl : l.length < 131072) (ht1 : TabAt w B 0 wordL) (ht2 : TabAt w B 1 signL)
    (HN : isDig (byt s a) = true → ∀ w', Below B w w' → Sc w' B s a a l → TabAt w' B 0 wordL → Calls Tryd.prog 40 #[.pointer (some ⟨B, 0, none⟩)] w' (OutP w' B s a (numOut nf a l))) :
    Calls Tryd.prog 27 #[.pointer (some ⟨B, 0, none⟩)] w (OutP w B s a (tokOut nf s a l)) := by
  have hd : ∀ m, Sc (w.drewN m) B s a a l := fun m => by
    obtain ⟨v, hp, ho⟩ := h
    exact ⟨v, hp.drewN m, ho⟩
  have hw1 : ∀ m, TabAt (w.drewN m) B 0 wordL := fun m => ht1.kept (below_drewN (Below.refl B w) m) (Nat.le_refl _)
  have hw2 : ∀ m, TabAt (w.drewN m) B 1 signL := fun m => ht2.kept (below_drewN (Below.refl B w) m) (Nat.le_refl _)
  have ha' := Nat.le_of_lt ha
  unfold tokOut
  cases h1 : isDig (byt s a)
  · rw [if_neg (by simp)]
    cases h2 : isRun (byt s a)
    · rw [if_neg (by simp)]
      by_cases h3 : byt s a = 34
      · rw [if_pos h3]
        refine readToken_string h ha' h1 h2 (by simp [h3]) _ fun m => ?_
        unfold strOut
        by_cases h4 : byt s (strEnd s a) = 34
        · rw [if_pos h4]
          by_cases h5 : 80 < strEnd s a - (a + 1)
          · rw [if_pos h5]
            exact readString_long (hd m) ha hs hl h3 h4 h5
          · rw [if_neg h5]
            exact readString_ok (hd m) ha hs hl h3 h4 h5
        · rw [if_neg h4]
          exact readString_open (hd m) ha hs hl h3 h4
      · rw [if_neg h3]
        refine readToken_sign h ha' h1 h2 (by simp [h3]) _ fun m => ?_
        unfold signOut
        cases h4 : (signAt s a).toList.isEmpty
        · rw [if_neg (by simp)]
          exact readSign_ok (hd m) ha' hs hl (hw2 m) h4
        · rw [if_pos rfl]
          exact readSign_bad (hd m) ha' hs hl (hw2 m) h4
    · rw [if_pos rfl]
      refine readToken_word h ha' h1 h2 _ fun m => ?_
      unfold wordOut
      cases h3 : Lib.containsS wordL (s.extract a (upTo isRun s a))
      · rw [if_neg (by simp)]
        by_cases h4 : 16 < upTo isRun s a - a
        · rw [if_pos h4]
          exact readWord_bad (hd m) ha' hs hl (hw1 m) h3 h4
        · rw [if_neg h4]
          exact readWord_name (hd m) ha' hs hl (hw1 m) h3 h4
      · rw [if_pos rfl]
        cases h4 : ((s.extract a (upTo isRun s a)).toList == [101, 110, 100])
        · rw [if_neg (by simp)]
          exact readWord_word (hd m) ha' hs hl (hw1 m) h3 h4
        · rw [if_pos rfl]
          exact readWord_end (hd m) ha' hs hl (hw1 m) h3 h4
  · rw [if_pos rfl]
    exact readToken_num h ha' h1 _ fun m => HN h1 _ (below_drewN (Below.refl B w) m) (hd m) (hw1 m)

/-- the bytes of the word comment -/
def comL : List UInt8 := [99, 111, 109, 109, 101, 110, 116]
/-- what is read at an offset whose byte is no blank -/
def stepOut (nf : Num) (s : ByteArray) (a : Nat) (l : List Tk) : Out :=
  if ((s.extract a (upTo isRun s a)).toList == comL) = true then (if mayCom l = true ∧ toSemi s a < s.size then .ok (toSemi s a + 1, l) else .error 7)
  else if l.length = 131072 then .error 2 else tokOut nf s a l
/-- the tokens of a text, or the first error and its offset -/
def scan (nf : Num) (s : ByteArray) : Nat → Nat → List Tk → Except (Int × Nat) (List Tk)
  | 0, _, l => .ok l
  | n + 1, a, l => if upTo isBlank s a = s.size then .ok l else match stepOut nf s (upTo isBlank s a) l with
    | .error e => .error (e, upTo isBlank s a)
    | .ok (b, l') => scan nf s n b l'

end Go.Proofs.YtnmifeiokhpcfaaDoor
