/-
  WHAT THE DIVISIONS RETURN: one contract a function.
-/
import Derived.Test.YtnhieokegidibaaInt
import Derived.Lib.Hide
namespace Go.Proofs.Ytnhieokegidibaa
open Go.RowKit

set_option maxHeartbeats 400000 in
theorem check_any (a b : Int) (w : World) :
    Calls Try.prog 44 #[.int .i64 a, .int .i64 b] w fun e w' => e = .returned (.int .i64 (divE a b)) ∧ w = w' := by
  cases h : bth a b
  · go_enter Try.func44, Try.ntmps44
    go_wp2_with (go_at_call 30; refine (both_any _ _ _).mono ?_; rintro e w' ⟨rfl, rfl⟩)
    go_ret
    exact ⟨by simp [divE, h], rfl⟩
  · by_cases hb : b = 0
    · subst hb
      go_enter Try.func44, Try.ntmps44
      go_wp2_with (go_at_call 30; refine (both_any _ _ _).mono ?_; rintro e w' ⟨rfl, rfl⟩)
      go_ret
      exact ⟨by simp [divE, h], rfl⟩
    · have hb' : (b == 0) = false := by simpa using hb
      go_enter Try.func44, Try.ntmps44
      go_wp2_with (go_at_call 30; refine (both_any _ _ _).mono ?_; rintro e w' ⟨rfl, rfl⟩)
      go_ret
      exact ⟨by simp [divE, h, hb], rfl⟩

set_option maxHeartbeats 400000 in
theorem quo_any (a b : Int) (w : World) :
    Calls Try.prog 24 #[.int .i64 a, .int .i64 b] w fun e w' => e = .returned (pairI (quoV a b) (divE a b)) ∧ w = w' := by
  by_cases h : divE a b = 0
  · have ⟨⟨h1, h2⟩, ⟨h3, h4⟩, hb⟩ := divE_bds h
    have hb' : (b == 0) = false := by simpa using hb
    have hv : quoV a b = a.tdiv b := if_pos h
    have ⟨q1, q2⟩ := tdiv_bds (b := b) ⟨h1, h2⟩
    have H := Lib.hid hv; clear hv
    go_enter Try.func24, Try.ntmps24
    go_wp2_with (go_at_call 44; refine (check_any _ _ _).mono ?_; rintro e w' ⟨rfl, rfl⟩)
    go_ret2
    exact ⟨by simp [H.out, h], rfl⟩
  · have h' : (divE a b != 0) = true := by simpa using h
    have hv : quoV a b = 0 := if_neg h
    have H := Lib.hid hv; clear hv
    go_enter Try.func24, Try.ntmps24
    go_wp2_with (go_at_call 44; refine (check_any _ _ _).mono ?_; rintro e w' ⟨rfl, rfl⟩)
    go_ret2
    exact ⟨by simp [H.out], rfl⟩

end Go.Proofs.Ytnhieokegidibaa
