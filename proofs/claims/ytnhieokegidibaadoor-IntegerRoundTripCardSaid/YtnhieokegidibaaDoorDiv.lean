/-
  WHAT THE DIVISIONS RETURN: one contract a function.
-/
import Derived.Test.YtnhieokegidibaaDoorInt
import Derived.Lib.Hide
namespace Go.Proofs.YtnhieokegidibaaDoor
open Go.RowKit

set_option maxHeartbeats 400000 in
theorem check_any (a b : Int) (w : World) :
    Calls Tryd.prog 23 #[.int .i64 a, .int .i64 b] w fun e w' => e = .returned (.int .i64 (divE a b)) ∧ w = w' := by
  cases h : bth a b
  · go_enter Tryd.func23, Tryd.ntmps23
    go_wp2_with (go_at_call 20; refine (both_any _ _ _).mono ?_; rintro e w' ⟨rfl, rfl⟩)
    go_ret
    exact ⟨by simp [divE, h], rfl⟩
  · by_cases hb : b = 0
    · subst hb
      go_enter Tryd.func23, Tryd.ntmps23
      go_wp2_with (go_at_call 20; refine (both_any _ _ _).mono ?_; rintro e w' ⟨rfl, rfl⟩)
      go_ret
      exact ⟨by simp [divE, h], rfl⟩
    · have hb' : (b == 0) = false := by simpa using hb
      go_enter Tryd.func23, Tryd.ntmps23
      go_wp2_with (go_at_call 20; refine (both_any _ _ _).mono ?_; rintro e w' ⟨rfl, rfl⟩)
      go_ret
      exact ⟨by simp [divE, h, hb], rfl⟩

set_option maxHeartbeats 400000 in
theorem floor_any (a b : Int) (w : World) (h1 : -2147483647 ≤ a) (h2 : a ≤ 2147483647) (hb : b ≠ 0) :
    Calls Tryd.prog 24 #[.int .i64 a, .int .i64 b] w fun e w' => e = .returned (.int .i64 (flq a b)) ∧ w = w' := by
  have ⟨q1, q2⟩ := tdiv_bds (b := b) ⟨h1, h2⟩
  have ⟨r1, r2⟩ := tmod_bds (b := b) ⟨h1, h2⟩
  have hb' : (b == 0) = false := by simpa using hb
  by_cases hr : a.tmod b = 0
  · have H1 : flq a b = a.tdiv b := by rw [flq, if_pos hr]
    have H := Lib.hid H1; clear H1
    have hr' : (a.tmod b != 0) = false := by simpa using hr
    clear hr
    go_enter Tryd.func24, Tryd.ntmps24
    go_wp2
    go_ret
    exact ⟨by rw [H.out]; rfl, rfl⟩
  · have hr' : (a.tmod b != 0) = true := by simpa using hr
    cases ha : decide (a < 0) <;> cases hc : decide (b < 0)
    all_goals
      have H1 : flq a b = if decide (a < 0) = decide (b < 0) then a.tdiv b else a.tdiv b - 1 := by rw [flq, if_neg hr]
      rw [ha, hc] at H1
      have H := Lib.hid H1; clear H1
      clear hr
      go_enter Tryd.func24, Tryd.ntmps24
      go_wp2
      go_ret
      exact ⟨by rw [H.out]; simp, rfl⟩

set_option maxHeartbeats 400000 in
theorem quo_any (a b : Int) (w : World) :
    Calls Tryd.prog 18 #[.int .i64 a, .int .i64 b] w fun e w' => e = .returned (pairI (quoV a b) (divE a b)) ∧ w = w' := by
  by_cases h : divE a b = 0
  · have ⟨⟨h1, h2⟩, ⟨h3, h4⟩, hb⟩ := divE_bds h
    have hb' : (b == 0) = false := by simpa using hb
    have hv : quoV a b = a.tdiv b := if_pos h
    have ⟨q1, q2⟩ := tdiv_bds (b := b) ⟨h1, h2⟩
    have H := Lib.hid hv; clear hv
    go_enter Tryd.func18, Tryd.ntmps18
    go_wp2_with (go_at_call 23; refine (check_any _ _ _).mono ?_; rintro e w' ⟨rfl, rfl⟩)
    go_ret2
    exact ⟨by simp [H.out, h], rfl⟩
  · have h' : (divE a b != 0) = true := by simpa using h
    have hv : quoV a b = 0 := if_neg h
    have H := Lib.hid hv; clear hv
    go_enter Tryd.func18, Tryd.ntmps18
    go_wp2_with (go_at_call 23; refine (check_any _ _ _).mono ?_; rintro e w' ⟨rfl, rfl⟩)
    go_ret2
    exact ⟨by simp [H.out], rfl⟩

set_option maxHeartbeats 400000 in
theorem flo_any (a b : Int) (w : World) :
    Calls Tryd.prog 19 #[.int .i64 a, .int .i64 b] w fun e w' => e = .returned (pairI (floorV a b) (divE a b)) ∧ w = w' := by
  by_cases h : divE a b = 0
  · have ⟨⟨h1, h2⟩, ⟨h3, h4⟩, hb⟩ := divE_bds h
    have hb' : (b == 0) = false := by simpa using hb
    have hv : floorV a b = flq a b := if_pos h
    skip
    have H := Lib.hid hv; clear hv
    go_enter Tryd.func19, Tryd.ntmps19
    go_wp2_with (first | (go_at_call 23; refine (check_any _ _ _).mono ?_; rintro e w' ⟨rfl, rfl⟩) | (go_at_call 24; refine (floor_any _ _ _ (by omega) (by omega) (by omega)).mono ?_; rintro e w' ⟨rfl, rfl⟩))
    go_ret2
    exact ⟨by simp [H.out, h], rfl⟩
  · have h' : (divE a b != 0) = true := by simpa using h
    have hv : floorV a b = 0 := if_neg h
    have H := Lib.hid hv; clear hv
    go_enter Tryd.func19, Tryd.ntmps19
    go_wp2_with (first | (go_at_call 23; refine (check_any _ _ _).mono ?_; rintro e w' ⟨rfl, rfl⟩) | (go_at_call 24; refine (floor_any _ _ _ (by omega) (by omega) (by omega)).mono ?_; rintro e w' ⟨rfl, rfl⟩))
    go_ret2
    exact ⟨by simp [H.out], rfl⟩

set_option maxHeartbeats 400000 in
/-- the examples that stand in every statement -/
theorem awake_any (w : World) :
    Calls Tryd.prog 9 #[] w fun e w' => e = .returned (.bool true) ∧ w = w' := by
  go_enter Tryd.func9, Tryd.ntmps9
  go_wp2_with fail
  refine (add_any _ _ _).mono ?_; rintro e w' ⟨rfl, rfl⟩
  rw [show addV 2147483646 1 = 2147483647 from rfl, show addE 2147483646 1 = 0 from rfl]
  go_wp2_with fail
  refine (mul_any _ _ _).mono ?_; rintro e w' ⟨rfl, rfl⟩
  rw [show mulV 46341 46341 = 0 from rfl, show mulE 46341 46341 = 3 from rfl]
  go_wp2_with fail
  refine (quo_any _ _ _).mono ?_; rintro e w' ⟨rfl, rfl⟩
  rw [show quoV (-7) 2 = -3 from rfl, show divE (-7) 2 = 0 from rfl]
  go_wp2_with fail
  refine (flo_any _ _ _).mono ?_; rintro e w' ⟨rfl, rfl⟩
  rw [show floorV (-7) 2 = -4 from rfl, show divE (-7) 2 = 0 from rfl]
  go_wp2_with fail
  go_ret
  exact ⟨rfl, rfl⟩

end Go.Proofs.YtnhieokegidibaaDoor
