/-
  PACKAGE lex: readNumber: what every number gives; so Lex at any text.
-/
import Derived.Test.YtnmifeiokhpcfaaDoorLexNumB
import Derived.Test.YtnmifeiokhpcfaaDoorItAll
import Derived.Test.YtnmifeiokhpcfaaDoorReC
import Derived.Test.YtnmifeiokhpcfaaDoorReB

namespace Go.Proofs.YtnmifeiokhpcfaaDoor
open Go.RowKit
set_option linter.unusedVariables false

/-- what real.Parse gives of a text: mantissa, exponent, error -/
def prT (l : List UInt8) : Int × Int × Int := match re.numF l with
  | none => (0, 0, 7)
  | some (t, d, e) => if d ≠ [] ∧ 53 < (d.length : Int) + e then (0, 0, 3) else (re.roM (re.psM t d e) (re.psE d e), re.roE (re.psM t d e) (re.psE d e), re.roX (re.psM t d e) (re.psE d e))

theorem prV_eq (l : List UInt8) : re.prV l = re.rE (prT l).1 (prT l).2.1 (prT l).2.2 := by
  unfold re.prV prT
  cases re.numF l with
  | none => rfl
  | some x =>
    obtain ⟨t, d, e⟩ := x
    dsimp only
    split <;> rfl

theorem bs_self (s : ByteArray) : re.bs s.data.toList = s := by
  rcases s with ⟨⟨l⟩⟩
  rfl

theorem div10 : Hid (∀ s, s ≤ 19 → re.DivOk (10 ^ s)) :=
  Lib.hid (fun s hs => re.divOk _ (Nat.pow_pos (by decide)) (Nat.lt_of_le_of_lt (Nat.pow_le_pow_right (by decide) hs) (by decide)))

/-- a number at an offset: an error, or its end and its token -/
def numN (s : ByteArray) : Num := fun a =>
  if a < numEnd s a ∧ numEnd s a ≤ s.size then
    (if isRun (byt s (numEnd s a)) = true ∨ byt s (numEnd s a) = 46 then .error 7
     else if ((s.extract a (upTo isDig s a)).toList == (s.extract a (numEnd s a)).toList) = true then
       (if it.docE (s.extract a (numEnd s a)) = 0 then .ok (numEnd s a, (⟨3, ⟨#[]⟩, it.docV (s.extract a (numEnd s a)), 0, 0, a, numEnd s a⟩ : Tk)) else .error (it.docE (s.extract a (numEnd s a))))
     else if (prT (s.extract a (numEnd s a)).data.toList).2.2 = 0 then .ok (numEnd s a, (⟨4, ⟨#[]⟩, 0, (prT (s.extract a (numEnd s a)).data.toList).1, (prT (s.extract a (numEnd s a)).data.toList).2.1, a, numEnd s a⟩ : Tk))
     else .error (prT (s.extract a (numEnd s a)).data.toList).2.2)
  else .error 7

theorem numN_ok (s : ByteArray) (a e : Nat) (t : Tk) (h : numN s a = .ok (e, t)) : a < e ∧ e ≤ s.size ∧ t.ofs = a ∧ t.en = e := by
  unfold numN at h
  split at h
  · rename_i hc
    split at h
    · cases h
    · split at h
      · split at h
        · cases h; exact ⟨hc.1, hc.2, rfl, rfl⟩
        · cases h
      · split at h
        · cases h; exact ⟨hc.1, hc.2, rfl, rfl⟩
        · cases h
  · cases h

theorem fracEnd_ge (s : ByteArray) (a : Nat) : a ≤ fracEnd s a := by
  unfold fracEnd
  split
  · have := upTo_ge isDig s (a + 1); omega
  · exact Nat.le_refl _

theorem expEnd_ge (s : ByteArray) (a : Nat) : a ≤ expEnd s a := by
  unfold expEnd
  split
  · have := upTo_ge isDig s (expFrom s a)
    have h2 : a + 1 ≤ expFrom s a := by unfold expFrom; split <;> omega
    omega
  · exact Nat.le_refl _

theorem numEnd_gt {s : ByteArray} {a : Nat} (h : a < s.size) (hd : isDig (byt s a) = true) : a < numEnd s a := by
  have h1 := expEnd_ge s (fracEnd s (upTo isDig s a))
  have h2 := fracEnd_ge s (upTo isDig s a)
  have h3 : a + 1 ≤ upTo isDig s a := by rw [upTo_step h hd]; exact upTo_ge _ _ _
  unfold numEnd
  omega

set_option maxHeartbeats 800000 in
theorem hn_any {w : World} {s : ByteArray} (hs : s.size ≤ 1048576) (hP : re.P10 w) : ∀ B a l, w.heap.size ≤ B → a < s.size → l.length < 131072 → isDig (byt s a) = true → ∀ w', Below w.heap.size w w' → Sc w' B s a a l → TabAt w' B 0 wordL →
    Calls Tryd.prog 40 #[.pointer (some ⟨B, 0, none⟩)] w' (OutP w' B s a (numOut (numN s) a l)) := by
  intro B a l hB ha hl hd w' hb hsc _
  have hgt := numEnd_gt ha hd
  have hle := numEnd_le (Nat.le_of_lt ha)
  have hsz : s.size < 4611686018427387904 := by omega
  have hP' : ∀ w'', Below B w' w'' → re.P10 w'' := fun w'' h => hP.kept (hb.trans (h.mono hB)) (Nat.le_refl _)
  have hsx : (s.extract a (numEnd s a)).size ≤ 9223372036854775807 := by rw [ByteArray.size_extract]; omega
  by_cases hx : isRun (byt s (numEnd s a)) = true ∨ byt s (numEnd s a) = 46
  · have e : numOut (numN s) a l = .error 7 := by unfold numOut numN; rw [if_pos ⟨hgt, hle⟩, if_pos hx]
    rw [e]
    exact readNumber_bad hsc (Nat.le_of_lt ha) hsz hx
  · have hx1 : seesV 4 s (numEnd s a) = false := by
      cases h : seesV 4 s (numEnd s a)
      · rfl
      · exact absurd (.inl h) hx
    have hx2 : (byt s (numEnd s a) == 46) = false := by
      cases h : (byt s (numEnd s a) == 46)
      · rfl
      · exact absurd (.inr (eq_of_beq h)) hx
    cases hq : ((s.extract a (upTo isDig s a)).toList == (s.extract a (numEnd s a)).toList)
    · have HNb : ∀ w1, Below B w' w1 → Calls Tryd.prog 51 #[.string (s.extract a (upTo isDig s a)), .string (s.extract a (numEnd s a))] w1 fun r w2 => r = .returned (.tuple #[.agg #[.int .i64 4, .string ⟨#[]⟩, .int .i64 0, .int .i64 (prT (s.extract a (numEnd s a)).data.toList).1, .int .i64 (prT (s.extract a (numEnd s a)).data.toList).2.1, .int .i64 0, .int .i64 0], .int .i64 (prT (s.extract a (numEnd s a)).data.toList).2.2]) ∧ Below w1.heap.size w1 w2 := fun w1 h1 =>
        nb_real _ _ 0 _ _ _ w1 hq (Lib.hid (fun w2 h2 => by
          have h := re.parse_any (s.extract a (numEnd s a)).data.toList w2 (by rw [← Lib.size_eq]; exact hsx) (hP' _ (h1.trans (h2.mono (Nat.le_trans (Nat.le_of_lt hsc.lt) h1.size)))) div10
          rw [bs_self, prV_eq] at h
          exact h))
      have hq' : ¬ ((s.extract a (upTo isDig s a)).toList == (s.extract a (numEnd s a)).toList) = true := by rw [hq]; simp
      by_cases he : (prT (s.extract a (numEnd s a)).data.toList).2.2 = 0
      · have e : numOut (numN s) a l = .ok (numEnd s a, l ++ [(⟨4, ⟨#[]⟩, 0, (prT (s.extract a (numEnd s a)).data.toList).1, (prT (s.extract a (numEnd s a)).data.toList).2.1, a, numEnd s a⟩ : Tk)]) := by
          unfold numOut numN; rw [if_pos ⟨hgt, hle⟩, if_neg hx, if_neg hq', if_pos he]
        rw [e]
        exact num_ok 4 0 _ _ _ hsc (Nat.le_of_lt ha) (Nat.le_of_lt hgt) hsz hx1 hx2 (Lib.hid HNb) he hl
      · have e : numOut (numN s) a l = .error (prT (s.extract a (numEnd s a)).data.toList).2.2 := by
          unfold numOut numN; rw [if_pos ⟨hgt, hle⟩, if_neg hx, if_neg hq', if_neg he]
        rw [e]
        exact num_err 4 0 _ _ _ hsc (Nat.le_of_lt ha) (Nat.le_of_lt hgt) hsz hx1 hx2 (Lib.hid HNb) (by simpa using he)
    · have HNb : ∀ w1, Below B w' w1 → Calls Tryd.prog 51 #[.string (s.extract a (upTo isDig s a)), .string (s.extract a (numEnd s a))] w1 fun r w2 => r = .returned (.tuple #[.agg #[.int .i64 3, .string ⟨#[]⟩, .int .i64 (it.docV (s.extract a (numEnd s a))), .int .i64 0, .int .i64 0, .int .i64 0, .int .i64 0], .int .i64 (it.docE (s.extract a (numEnd s a)))]) ∧ Below w1.heap.size w1 w2 := fun w1 h1 =>
        nb_int _ _ _ 0 0 _ w1 hq (Lib.hid (fun w2 => it.parse_any _ w2 hsx))
      by_cases he : it.docE (s.extract a (numEnd s a)) = 0
      · have e : numOut (numN s) a l = .ok (numEnd s a, l ++ [(⟨3, ⟨#[]⟩, it.docV (s.extract a (numEnd s a)), 0, 0, a, numEnd s a⟩ : Tk)]) := by
          unfold numOut numN; rw [if_pos ⟨hgt, hle⟩, if_neg hx, if_pos hq, if_pos he]
        rw [e]
        exact num_ok 3 _ 0 0 _ hsc (Nat.le_of_lt ha) (Nat.le_of_lt hgt) hsz hx1 hx2 (Lib.hid HNb) he hl
      · have e : numOut (numN s) a l = .error (it.docE (s.extract a (numEnd s a))) := by
          unfold numOut numN; rw [if_pos ⟨hgt, hle⟩, if_neg hx, if_pos hq, if_neg he]
        rw [e]
        exact num_err 3 _ 0 0 _ hsc (Nat.le_of_lt ha) (Nat.le_of_lt hgt) hsz hx1 hx2 (Lib.hid HNb) (by simpa using he)

/-- LEX AT ANY TEXT that is not too long -/
theorem lex_all {w : World} {s : ByteArray} (hs : s.size ≤ 1048576) (ht1 : TabAt w w.heap.size 0 wordL) (ht2 : TabAt w w.heap.size 1 signL) (hP : re.P10 w) :
    Calls Tryd.prog 6 #[.string s] w (LexP w (scan (numN s) s (s.size + 1) 0 [])) :=
  lex_any (numN s) hs ht1 ht2 (fun a e t h => ⟨(numN_ok s a e t h).1, (numN_ok s a e t h).2.1⟩) (hn_any hs hP)

end Go.Proofs.YtnmifeiokhpcfaaDoor
