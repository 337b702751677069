/-
  WHAT EACH FUNCTION OF PACKAGE integer RETURNS, and each of the document's own answers beside it: one contract a function.
-/
import Derived.Test.YtnhieokegidibaaDoorProg
import Derived.Test.YtnhieokegidibaaDoorNum
import Derived.WalkKit
import Derived.ProofKit
import Derived.WalkSpells
import Derived.WalkLawsBesides
import Derived.Lib.Hide
namespace Go.Proofs.YtnhieokegidibaaDoor
open Go.RowKit

/-- the outcome of a call that hands back one value and leaves the world -/
def Gives (w : World) (v : Value) (e : Ending) (w' : World) : Prop := e = .returned v ∧ w = w'
abbrev pairI (v e : Int) : Value := .tuple #[.int .i64 v, .int .i64 e]

set_option maxHeartbeats 400000 in
theorem valid_any (n : Int) (w : World) :
    Calls Tryd.prog 10 #[.int .i64 n] w fun e w' => e = .returned (.bool (vld n)) ∧ w = w' := by
  cases hv : vld n
  · have h := vld_false hv
    rcases h with h | h
    · go_enter Tryd.func10, Tryd.ntmps10
      go_wp2
      go_ret
      exact ⟨rfl, rfl⟩
    · have h2 : -2147483647 ≤ n := by omega
      go_enter Tryd.func10, Tryd.ntmps10
      go_wp2
      go_ret
      exact ⟨by simp; omega, rfl⟩
  · have ⟨h1, h2⟩ := vld_iff.1 hv
    go_enter Tryd.func10, Tryd.ntmps10
    go_wp2
    go_ret
    exact ⟨rfl, rfl⟩

set_option maxHeartbeats 400000 in
theorem rvalid_any (n : Int) (w : World) :
    Calls Tryd.prog 16 #[.int .i64 n] w fun e w' => e = .returned (.bool (vld n)) ∧ w = w' := by
  cases hv : vld n
  · have h := vld_false hv
    rcases h with h | h
    · go_enter Tryd.func16, Tryd.ntmps16
      go_wp2
      go_ret
      exact ⟨rfl, rfl⟩
    · have h2 : -2147483647 ≤ n := by omega
      go_enter Tryd.func16, Tryd.ntmps16
      go_wp2
      go_ret
      exact ⟨by simp; omega, rfl⟩
  · have ⟨h1, h2⟩ := vld_iff.1 hv
    go_enter Tryd.func16, Tryd.ntmps16
    go_wp2
    go_ret
    exact ⟨rfl, rfl⟩

set_option maxHeartbeats 400000 in
theorem both_any (a b : Int) (w : World) :
    Calls Tryd.prog 20 #[.int .i64 a, .int .i64 b] w fun e w' => e = .returned (.bool (bth a b)) ∧ w = w' := by
  cases ha : vld a
  · go_enter Tryd.func20, Tryd.ntmps20
    go_wp2_with (go_at_call 10; refine (valid_any _ _).mono ?_; rintro e w' ⟨rfl, rfl⟩)
    go_ret
    exact ⟨by simp [bth, ha], rfl⟩
  · go_enter Tryd.func20, Tryd.ntmps20
    go_wp2_with (go_at_call 10; refine (valid_any _ _).mono ?_; rintro e w' ⟨rfl, rfl⟩)
    go_ret
    exact ⟨by simp [bth, ha], rfl⟩

set_option maxHeartbeats 400000 in
theorem inRange_any (n : Int) (w : World) :
    Calls Tryd.prog 21 #[.int .i64 n] w fun e w' => e = .returned (pairI (exV n) (exE n)) ∧ w = w' := by
  cases hv : vld n <;>
  · go_enter Tryd.func21, Tryd.ntmps21
    go_wp2_with (go_at_call 10; refine (valid_any _ _).mono ?_; rintro e w' ⟨rfl, rfl⟩)
    go_ret2
    exact ⟨by simp [exV, exE, hv], rfl⟩

-- PART 2
set_option maxHeartbeats 400000 in
theorem add_any (a b : Int) (w : World) :
    Calls Tryd.prog 17 #[.int .i64 a, .int .i64 b] w fun e w' => e = .returned (pairI (addV a b) (addE a b)) ∧ w = w' := by
  cases h : bth a b
  · go_enter Tryd.func17, Tryd.ntmps17
    go_wp2_with (go_at_call 20; refine (both_any _ _ _).mono ?_; rintro e w' ⟨rfl, rfl⟩)
    go_ret2
    exact ⟨by simp [addV, addE, h], rfl⟩
  · have ⟨⟨h1, h2⟩, h3, h4⟩ := bth_iff.1 h
    skip
    go_enter Tryd.func17, Tryd.ntmps17
    go_wp2_with (first | (go_at_call 20; refine (both_any _ _ _).mono ?_; rintro e w' ⟨rfl, rfl⟩) | (go_at_call 21; refine (inRange_any _ _).mono ?_; rintro e w' ⟨rfl, rfl⟩))
    go_ret2
    exact ⟨by simp [addV, addE, h], rfl⟩

set_option maxHeartbeats 400000 in
theorem mul_any (a b : Int) (w : World) :
    Calls Tryd.prog 11 #[.int .i64 a, .int .i64 b] w fun e w' => e = .returned (pairI (mulV a b) (mulE a b)) ∧ w = w' := by
  cases h : bth a b
  · go_enter Tryd.func11, Tryd.ntmps11
    go_wp2_with (go_at_call 20; refine (both_any _ _ _).mono ?_; rintro e w' ⟨rfl, rfl⟩)
    go_ret2
    exact ⟨by simp [mulV, mulE, h], rfl⟩
  · have ⟨⟨h1, h2⟩, h3, h4⟩ := bth_iff.1 h
    have ⟨h5, h6⟩ := prod_le (a := a) (b := b) ⟨h1, h2⟩ ⟨h3, h4⟩
    go_enter Tryd.func11, Tryd.ntmps11
    go_wp2_with (first | (go_at_call 20; refine (both_any _ _ _).mono ?_; rintro e w' ⟨rfl, rfl⟩) | (go_at_call 21; refine (inRange_any _ _).mono ?_; rintro e w' ⟨rfl, rfl⟩))
    go_ret2
    exact ⟨by simp [mulV, mulE, h], rfl⟩

end Go.Proofs.YtnhieokegidibaaDoor
