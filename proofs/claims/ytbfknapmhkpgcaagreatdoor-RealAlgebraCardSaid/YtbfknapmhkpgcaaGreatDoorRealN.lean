/-
  PACKAGE real, THE PLAIN NUMBERS: which pairs are reals; indices and reals.
-/
import Derived.Below
import Derived.Lib.Hide

namespace Go.Proofs.YtbfknapmhkpgcaaGreatDoor

def ab (x : Int) : Int := if x < 0 then -x else x

/-- a pair that is a real -/
def vr (m e : Int) : Bool := (decide (m = 0) && decide (e = 0)) || (decide (8388608 ≤ ab m) && decide (ab m < 16777216) && decide (-150 ≤ e) && decide (e ≤ 150)) || (decide (1 ≤ ab m) && decide (ab m < 8388608) && decide (e = -150))

/-- the index of a pair -/
def ix (m e : Int) : Int := if m = 0 ∧ e = 0 then 0 else if m < 0 then m - (e + 150) * 8388608 else m + (e + 150) * 8388608

/-- the steps of an index -/
def sx (i : Int) : Int := if ab i / 8388608 - 1 < 0 then 0 else ab i / 8388608 - 1

def aM (i : Int) : Int := if i = 0 then 0 else if i < 0 then -(ab i - sx i * 8388608) else ab i - sx i * 8388608

def aE (i : Int) : Int := if i = 0 then 0 else sx i - 150

theorem vr_iff {m e : Int} : vr m e = true ↔ (m = 0 ∧ e = 0) ∨ (8388608 ≤ ab m ∧ ab m < 16777216 ∧ -150 ≤ e ∧ e ≤ 150) ∨ (1 ≤ ab m ∧ ab m < 8388608 ∧ e = -150) := by
  simp only [vr, Bool.or_eq_true, Bool.and_eq_true, decide_eq_true_eq, or_assoc, and_assoc]

theorem vr_bd {m e : Int} (h : vr m e = true) : -16777215 ≤ m ∧ m ≤ 16777215 ∧ -150 ≤ e ∧ e ≤ 150 := by
  have k := vr_iff.1 h
  unfold ab at k
  split at k <;> omega

theorem ix_bd {m e : Int} (h : vr m e = true) : -2533359615 ≤ ix m e ∧ ix m e ≤ 2533359615 := by
  have k := vr_iff.1 h
  unfold ab at k
  unfold ix
  (repeat' split at k) <;> (repeat' split) <;> omega

theorem at_vr {i : Int} (h1 : -2533359615 ≤ i) (h2 : i ≤ 2533359615) : vr (aM i) (aE i) = true := by
  rw [vr_iff]
  unfold aM aE sx ab
  (repeat' split) <;> omega

theorem ix_at {i : Int} (h1 : -2533359615 ≤ i) (h2 : i ≤ 2533359615) : ix (aM i) (aE i) = i := by
  unfold ix aM aE sx ab
  (repeat' split) <;> omega

theorem at_ix {m e : Int} (h : vr m e = true) : aM (ix m e) = m ∧ aE (ix m e) = e := by
  have k := vr_iff.1 h
  unfold ab at k
  unfold aM aE sx ab ix
  constructor <;> (repeat' split at k) <;> (repeat' split) <;> omega

theorem vr_neg {m e : Int} : vr (-m) e = vr m e := by
  rw [Bool.eq_iff_iff, vr_iff, vr_iff]
  unfold ab
  (repeat' split) <;> omega

theorem ix_neg {m e : Int} (h : vr m e = true) : ix (-m) e = - ix m e := by
  have k := vr_iff.1 h
  unfold ab at k
  unfold ix
  (repeat' split at k) <;> (repeat' split) <;> omega

end Go.Proofs.YtbfknapmhkpgcaaGreatDoor
