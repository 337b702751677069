/-
  WHAT EACH FUNCTION OF PACKAGE integer RETURNS, and each of the document's own answers beside it: one contract a function.
-/
import Derived.Test.YtnhieokegidibaaProg
import Derived.Test.YtnhieokegidibaaNum
import Derived.WalkKit
import Derived.ProofKit
import Derived.WalkSpells
import Derived.WalkLawsBesides
import Derived.Lib.Hide
namespace Go.Proofs.Ytnhieokegidibaa
open Go.RowKit

/-- the outcome of a call that hands back one value and leaves the world -/
def Gives (w : World) (v : Value) (e : Ending) (w' : World) : Prop := e = .returned v ∧ w = w'
abbrev pairI (v e : Int) : Value := .tuple #[.int .i64 v, .int .i64 e]

set_option maxHeartbeats 400000 in
theorem valid_any (n : Int) (w : World) :
    Calls Try.prog 46 #[.int .i64 n] w fun e w' => e = .returned (.bool (vld n)) ∧ w = w' := by
  cases hv : vld n
  · have h := vld_false hv
    rcases h with h | h
    · go_enter Try.func46, Try.ntmps46
      go_wp2
      go_ret
      exact ⟨rfl, rfl⟩
    · have h2 : -2147483647 ≤ n := by omega
      go_enter Try.func46, Try.ntmps46
      go_wp2
      go_ret
      exact ⟨by simp; omega, rfl⟩
  · have ⟨h1, h2⟩ := vld_iff.1 hv
    go_enter Try.func46, Try.ntmps46
    go_wp2
    go_ret
    exact ⟨rfl, rfl⟩

set_option maxHeartbeats 400000 in
theorem rvalid_any (n : Int) (w : World) :
    Calls Try.prog 31 #[.int .i64 n] w fun e w' => e = .returned (.bool (vld n)) ∧ w = w' := by
  cases hv : vld n
  · have h := vld_false hv
    rcases h with h | h
    · go_enter Try.func31, Try.ntmps31
      go_wp2
      go_ret
      exact ⟨rfl, rfl⟩
    · have h2 : -2147483647 ≤ n := by omega
      go_enter Try.func31, Try.ntmps31
      go_wp2
      go_ret
      exact ⟨by simp; omega, rfl⟩
  · have ⟨h1, h2⟩ := vld_iff.1 hv
    go_enter Try.func31, Try.ntmps31
    go_wp2
    go_ret
    exact ⟨rfl, rfl⟩

set_option maxHeartbeats 400000 in
theorem both_any (a b : Int) (w : World) :
    Calls Try.prog 30 #[.int .i64 a, .int .i64 b] w fun e w' => e = .returned (.bool (bth a b)) ∧ w = w' := by
  cases ha : vld a
  · go_enter Try.func30, Try.ntmps30
    go_wp2_with (go_at_call 46; refine (valid_any _ _).mono ?_; rintro e w' ⟨rfl, rfl⟩)
    go_ret
    exact ⟨by simp [bth, ha], rfl⟩
  · go_enter Try.func30, Try.ntmps30
    go_wp2_with (go_at_call 46; refine (valid_any _ _).mono ?_; rintro e w' ⟨rfl, rfl⟩)
    go_ret
    exact ⟨by simp [bth, ha], rfl⟩

set_option maxHeartbeats 400000 in
theorem inRange_any (n : Int) (w : World) :
    Calls Try.prog 48 #[.int .i64 n] w fun e w' => e = .returned (pairI (exV n) (exE n)) ∧ w = w' := by
  cases hv : vld n <;>
  · go_enter Try.func48, Try.ntmps48
    go_wp2_with (go_at_call 46; refine (valid_any _ _).mono ?_; rintro e w' ⟨rfl, rfl⟩)
    go_ret2
    exact ⟨by simp [exV, exE, hv], rfl⟩

-- PART 2
set_option maxHeartbeats 400000 in
theorem add_any (a b : Int) (w : World) :
    Calls Try.prog 41 #[.int .i64 a, .int .i64 b] w fun e w' => e = .returned (pairI (addV a b) (addE a b)) ∧ w = w' := by
  cases h : bth a b
  · go_enter Try.func41, Try.ntmps41
    go_wp2_with (go_at_call 30; refine (both_any _ _ _).mono ?_; rintro e w' ⟨rfl, rfl⟩)
    go_ret2
    exact ⟨by simp [addV, addE, h], rfl⟩
  · have ⟨⟨h1, h2⟩, h3, h4⟩ := bth_iff.1 h
    skip
    go_enter Try.func41, Try.ntmps41
    go_wp2_with (first | (go_at_call 30; refine (both_any _ _ _).mono ?_; rintro e w' ⟨rfl, rfl⟩) | (go_at_call 48; refine (inRange_any _ _).mono ?_; rintro e w' ⟨rfl, rfl⟩))
    go_ret2
    exact ⟨by simp [addV, addE, h], rfl⟩

set_option maxHeartbeats 400000 in
theorem sub_any (a b : Int) (w : World) :
    Calls Try.prog 42 #[.int .i64 a, .int .i64 b] w fun e w' => e = .returned (pairI (subV a b) (subE a b)) ∧ w = w' := by
  cases h : bth a b
  · go_enter Try.func42, Try.ntmps42
    go_wp2_with (go_at_call 30; refine (both_any _ _ _).mono ?_; rintro e w' ⟨rfl, rfl⟩)
    go_ret2
    exact ⟨by simp [subV, subE, h], rfl⟩
  · have ⟨⟨h1, h2⟩, h3, h4⟩ := bth_iff.1 h
    skip
    go_enter Try.func42, Try.ntmps42
    go_wp2_with (first | (go_at_call 30; refine (both_any _ _ _).mono ?_; rintro e w' ⟨rfl, rfl⟩) | (go_at_call 48; refine (inRange_any _ _).mono ?_; rintro e w' ⟨rfl, rfl⟩))
    go_ret2
    exact ⟨by simp [subV, subE, h], rfl⟩

set_option maxHeartbeats 400000 in
theorem mul_any (a b : Int) (w : World) :
    Calls Try.prog 43 #[.int .i64 a, .int .i64 b] w fun e w' => e = .returned (pairI (mulV a b) (mulE a b)) ∧ w = w' := by
  cases h : bth a b
  · go_enter Try.func43, Try.ntmps43
    go_wp2_with (go_at_call 30; refine (both_any _ _ _).mono ?_; rintro e w' ⟨rfl, rfl⟩)
    go_ret2
    exact ⟨by simp [mulV, mulE, h], rfl⟩
  · have ⟨⟨h1, h2⟩, h3, h4⟩ := bth_iff.1 h
    have ⟨h5, h6⟩ := prod_le (a := a) (b := b) ⟨h1, h2⟩ ⟨h3, h4⟩
    go_enter Try.func43, Try.ntmps43
    go_wp2_with (first | (go_at_call 30; refine (both_any _ _ _).mono ?_; rintro e w' ⟨rfl, rfl⟩) | (go_at_call 48; refine (inRange_any _ _).mono ?_; rintro e w' ⟨rfl, rfl⟩))
    go_ret2
    exact ⟨by simp [mulV, mulE, h], rfl⟩

set_option maxHeartbeats 400000 in
theorem compare_any (a b : Int) (w : World) :
    Calls Try.prog 45 #[.int .i64 a, .int .i64 b] w fun e w' => e = .returned (.int .i64 (cmp3 a b)) ∧ w = w' := by
  by_cases h : a < b
  · go_enter Try.func45, Try.ntmps45
    go_wp2
    go_ret
    exact ⟨by simp [cmp3, h], rfl⟩
  · by_cases h2 : b < a
    · go_enter Try.func45, Try.ntmps45
      go_wp2
      go_ret
      exact ⟨by rw [cmp3_gt (by omega)]; rfl, rfl⟩
    · go_enter Try.func45, Try.ntmps45
      go_wp2
      go_ret
      exact ⟨by rw [cmp3_eq (by omega) (by omega)]; rfl, rfl⟩

set_option maxHeartbeats 400000 in
theorem cmp_any (a b : Int) (w : World) :
    Calls Try.prog 26 #[.int .i64 a, .int .i64 b] w fun e w' => e = .returned (pairI (cmpV a b) (cmpE a b)) ∧ w = w' := by
  cases h : bth a b <;>
  · go_enter Try.func26, Try.ntmps26
    go_wp2_with (first | (go_at_call 30; refine (both_any _ _ _).mono ?_; rintro e w' ⟨rfl, rfl⟩) | (go_at_call 45; refine (compare_any _ _ _).mono ?_; rintro e w' ⟨rfl, rfl⟩))
    go_ret2
    exact ⟨by simp [cmpV, cmpE, h], rfl⟩

end Go.Proofs.Ytnhieokegidibaa
