/-
  WHAT EACH FUNCTION OF PACKAGE integer RETURNS, and each of the document's own answers beside it: one contract a function.
-/
import Derived.Test.YtfklicofohaccabProg
import Derived.Test.YtfklicofohaccabNum
import Derived.WalkKit
import Derived.ProofKit
import Derived.WalkSpells
import Derived.WalkLawsBesides
import Derived.Lib.Hide
namespace Go.Proofs.Ytfklicofohaccab
open Go.RowKit

/-- the outcome of a call that hands back one value and leaves the world -/
def Gives (w : World) (v : Value) (e : Ending) (w' : World) : Prop := e = .returned v ∧ w = w'
abbrev pairI (v e : Int) : Value := .tuple #[.int .i64 v, .int .i64 e]

set_option maxHeartbeats 400000 in
theorem valid_any (n : Int) (w : World) :
    Calls Try.prog 32 #[.int .i64 n] w fun e w' => e = .returned (.bool (vld n)) ∧ w = w' := by
  cases hv : vld n
  · have h := vld_false hv
    rcases h with h | h
    · go_enter Try.func32, Try.ntmps32
      go_wp2
      go_ret
      exact ⟨rfl, rfl⟩
    · have h2 : -2147483647 ≤ n := by omega
      go_enter Try.func32, Try.ntmps32
      go_wp2
      go_ret
      exact ⟨by simp; omega, rfl⟩
  · have ⟨h1, h2⟩ := vld_iff.1 hv
    go_enter Try.func32, Try.ntmps32
    go_wp2
    go_ret
    exact ⟨rfl, rfl⟩

set_option maxHeartbeats 400000 in
theorem both_any (a b : Int) (w : World) :
    Calls Try.prog 34 #[.int .i64 a, .int .i64 b] w fun e w' => e = .returned (.bool (bth a b)) ∧ w = w' := by
  cases ha : vld a
  · go_enter Try.func34, Try.ntmps34
    go_wp2_with (go_at_call 32; refine (valid_any _ _).mono ?_; rintro e w' ⟨rfl, rfl⟩)
    go_ret
    exact ⟨by simp [bth, ha], rfl⟩
  · go_enter Try.func34, Try.ntmps34
    go_wp2_with (go_at_call 32; refine (valid_any _ _).mono ?_; rintro e w' ⟨rfl, rfl⟩)
    go_ret
    exact ⟨by simp [bth, ha], rfl⟩

set_option maxHeartbeats 400000 in
theorem inRange_any (n : Int) (w : World) :
    Calls Try.prog 35 #[.int .i64 n] w fun e w' => e = .returned (pairI (exV n) (exE n)) ∧ w = w' := by
  cases hv : vld n <;>
  · go_enter Try.func35, Try.ntmps35
    go_wp2_with (go_at_call 32; refine (valid_any _ _).mono ?_; rintro e w' ⟨rfl, rfl⟩)
    go_ret2
    exact ⟨by simp [exV, exE, hv], rfl⟩

-- PART 2
set_option maxHeartbeats 400000 in
theorem add_any (a b : Int) (w : World) :
    Calls Try.prog 13 #[.int .i64 a, .int .i64 b] w fun e w' => e = .returned (pairI (addV a b) (addE a b)) ∧ w = w' := by
  cases h : bth a b
  · go_enter Try.func13, Try.ntmps13
    go_wp2_with (go_at_call 34; refine (both_any _ _ _).mono ?_; rintro e w' ⟨rfl, rfl⟩)
    go_ret2
    exact ⟨by simp [addV, addE, h], rfl⟩
  · have ⟨⟨h1, h2⟩, h3, h4⟩ := bth_iff.1 h
    skip
    go_enter Try.func13, Try.ntmps13
    go_wp2_with (first | (go_at_call 34; refine (both_any _ _ _).mono ?_; rintro e w' ⟨rfl, rfl⟩) | (go_at_call 35; refine (inRange_any _ _).mono ?_; rintro e w' ⟨rfl, rfl⟩))
    go_ret2
    exact ⟨by simp [addV, addE, h], rfl⟩

set_option maxHeartbeats 400000 in
theorem sub_any (a b : Int) (w : World) :
    Calls Try.prog 16 #[.int .i64 a, .int .i64 b] w fun e w' => e = .returned (pairI (subV a b) (subE a b)) ∧ w = w' := by
  cases h : bth a b
  · go_enter Try.func16, Try.ntmps16
    go_wp2_with (go_at_call 34; refine (both_any _ _ _).mono ?_; rintro e w' ⟨rfl, rfl⟩)
    go_ret2
    exact ⟨by simp [subV, subE, h], rfl⟩
  · have ⟨⟨h1, h2⟩, h3, h4⟩ := bth_iff.1 h
    skip
    go_enter Try.func16, Try.ntmps16
    go_wp2_with (first | (go_at_call 34; refine (both_any _ _ _).mono ?_; rintro e w' ⟨rfl, rfl⟩) | (go_at_call 35; refine (inRange_any _ _).mono ?_; rintro e w' ⟨rfl, rfl⟩))
    go_ret2
    exact ⟨by simp [subV, subE, h], rfl⟩

set_option maxHeartbeats 400000 in
theorem mul_any (a b : Int) (w : World) :
    Calls Try.prog 18 #[.int .i64 a, .int .i64 b] w fun e w' => e = .returned (pairI (mulV a b) (mulE a b)) ∧ w = w' := by
  cases h : bth a b
  · go_enter Try.func18, Try.ntmps18
    go_wp2_with (go_at_call 34; refine (both_any _ _ _).mono ?_; rintro e w' ⟨rfl, rfl⟩)
    go_ret2
    exact ⟨by simp [mulV, mulE, h], rfl⟩
  · have ⟨⟨h1, h2⟩, h3, h4⟩ := bth_iff.1 h
    have ⟨h5, h6⟩ := prod_le (a := a) (b := b) ⟨h1, h2⟩ ⟨h3, h4⟩
    go_enter Try.func18, Try.ntmps18
    go_wp2_with (first | (go_at_call 34; refine (both_any _ _ _).mono ?_; rintro e w' ⟨rfl, rfl⟩) | (go_at_call 35; refine (inRange_any _ _).mono ?_; rintro e w' ⟨rfl, rfl⟩))
    go_ret2
    exact ⟨by simp [mulV, mulE, h], rfl⟩

set_option maxHeartbeats 400000 in
theorem compare_any (a b : Int) (w : World) :
    Calls Try.prog 45 #[.int .i64 a, .int .i64 b] w fun e w' => e = .returned (.int .i64 (cmp3 a b)) ∧ w = w' := by
  by_cases h : a < b
  · go_enter Try.func45, Try.ntmps45
    go_wp2
    go_ret
    exact ⟨by simp [cmp3, h], rfl⟩
  · by_cases h2 : b < a
    · go_enter Try.func45, Try.ntmps45
      go_wp2
      go_ret
      exact ⟨by rw [cmp3_gt (by omega)]; rfl, rfl⟩
    · go_enter Try.func45, Try.ntmps45
      go_wp2
      go_ret
      exact ⟨by rw [cmp3_eq (by omega) (by omega)]; rfl, rfl⟩

set_option maxHeartbeats 400000 in
theorem cmp_any (a b : Int) (w : World) :
    Calls Try.prog 22 #[.int .i64 a, .int .i64 b] w fun e w' => e = .returned (pairI (cmpV a b) (cmpE a b)) ∧ w = w' := by
  cases h : bth a b <;>
  · go_enter Try.func22, Try.ntmps22
    go_wp2_with (first | (go_at_call 34; refine (both_any _ _ _).mono ?_; rintro e w' ⟨rfl, rfl⟩) | (go_at_call 45; refine (compare_any _ _ _).mono ?_; rintro e w' ⟨rfl, rfl⟩))
    go_ret2
    exact ⟨by simp [cmpV, cmpE, h], rfl⟩

set_option maxHeartbeats 400000 in
theorem neg_any (a : Int) (w : World) :
    Calls Try.prog 11 #[.int .i64 a] w fun e w' => e = .returned (pairI (oneV a (-a)) (oneE a)) ∧ w = w' := by
  cases ha : vld a
  · go_enter Try.func11, Try.ntmps11
    go_wp2_with (go_at_call 32; refine (valid_any _ _).mono ?_; rintro e w' ⟨rfl, rfl⟩)
    go_ret2
    exact ⟨by simp [oneV, oneE, ha], rfl⟩
  · have ⟨h1, h2⟩ := vld_iff.1 ha
    skip
    go_enter Try.func11, Try.ntmps11
    go_wp2_with (go_at_call 32; refine (valid_any _ _).mono ?_; rintro e w' ⟨rfl, rfl⟩)
    go_ret2
    exact ⟨by simp [oneV, oneE, ha], rfl⟩

set_option maxHeartbeats 400000 in
theorem sign_any (a : Int) (w : World) :
    Calls Try.prog 33 #[.int .i64 a] w fun e w' => e = .returned (pairI (cmpV a 0) (cmpE a 0)) ∧ w = w' := by
  have h0 : vld 0 = true := rfl
  cases ha : vld a <;>
  · go_enter Try.func33, Try.ntmps33
    go_wp2_with (first | (go_at_call 32; refine (valid_any _ _).mono ?_; rintro e w' ⟨rfl, rfl⟩) | (go_at_call 45; refine (compare_any _ _ _).mono ?_; rintro e w' ⟨rfl, rfl⟩))
    go_ret2
    exact ⟨by simp [cmpV, cmpE, bth, h0, ha], rfl⟩

end Go.Proofs.Ytfklicofohaccab
