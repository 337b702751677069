/-
  WHAT THE DIVISIONS RETURN: one contract a function.
-/
import Derived.Test.YtfklicofohaccaaInt
import Derived.Lib.Hide
namespace Go.Proofs.Ytfklicofohaccaa
open Go.RowKit

set_option maxHeartbeats 400000 in
theorem check_any (a b : Int) (w : World) :
    Calls Try.prog 68 #[.int .i64 a, .int .i64 b] w fun e w' => e = .returned (.int .i64 (divE a b)) ∧ w = w' := by
  cases h : bth a b
  · go_enter Try.func68, Try.ntmps68
    go_wp2_with (go_at_call 65; refine (both_any _ _ _).mono ?_; rintro e w' ⟨rfl, rfl⟩)
    go_ret
    exact ⟨by simp [divE, h], rfl⟩
  · by_cases hb : b = 0
    · subst hb
      go_enter Try.func68, Try.ntmps68
      go_wp2_with (go_at_call 65; refine (both_any _ _ _).mono ?_; rintro e w' ⟨rfl, rfl⟩)
      go_ret
      exact ⟨by simp [divE, h], rfl⟩
    · have hb' : (b == 0) = false := by simpa using hb
      go_enter Try.func68, Try.ntmps68
      go_wp2_with (go_at_call 65; refine (both_any _ _ _).mono ?_; rintro e w' ⟨rfl, rfl⟩)
      go_ret
      exact ⟨by simp [divE, h, hb], rfl⟩

set_option maxHeartbeats 400000 in
theorem floor_any (a b : Int) (w : World) (h1 : -2147483647 ≤ a) (h2 : a ≤ 2147483647) (hb : b ≠ 0) :
    Calls Try.prog 69 #[.int .i64 a, .int .i64 b] w fun e w' => e = .returned (.int .i64 (flq a b)) ∧ w = w' := by
  have ⟨q1, q2⟩ := tdiv_bds (b := b) ⟨h1, h2⟩
  have ⟨r1, r2⟩ := tmod_bds (b := b) ⟨h1, h2⟩
  have hb' : (b == 0) = false := by simpa using hb
  by_cases hr : a.tmod b = 0
  · have H1 : flq a b = a.tdiv b := by rw [flq, if_pos hr]
    have H := Lib.hid H1; clear H1
    have hr' : (a.tmod b != 0) = false := by simpa using hr
    clear hr
    go_enter Try.func69, Try.ntmps69
    go_wp2
    go_ret
    exact ⟨by rw [H.out]; rfl, rfl⟩
  · have hr' : (a.tmod b != 0) = true := by simpa using hr
    cases ha : decide (a < 0) <;> cases hc : decide (b < 0)
    all_goals
      have H1 : flq a b = if decide (a < 0) = decide (b < 0) then a.tdiv b else a.tdiv b - 1 := by rw [flq, if_neg hr]
      rw [ha, hc] at H1
      have H := Lib.hid H1; clear H1
      clear hr
      go_enter Try.func69, Try.ntmps69
      go_wp2
      go_ret
      exact ⟨by rw [H.out]; simp, rfl⟩

set_option maxHeartbeats 400000 in
theorem quo_any (a b : Int) (w : World) :
    Calls Try.prog 30 #[.int .i64 a, .int .i64 b] w fun e w' => e = .returned (pairI (quoV a b) (divE a b)) ∧ w = w' := by
  by_cases h : divE a b = 0
  · have ⟨⟨h1, h2⟩, ⟨h3, h4⟩, hb⟩ := divE_bds h
    have hb' : (b == 0) = false := by simpa using hb
    have hv : quoV a b = a.tdiv b := if_pos h
    have ⟨q1, q2⟩ := tdiv_bds (b := b) ⟨h1, h2⟩
    have H := Lib.hid hv; clear hv
    go_enter Try.func30, Try.ntmps30
    go_wp2_with (go_at_call 68; refine (check_any _ _ _).mono ?_; rintro e w' ⟨rfl, rfl⟩)
    go_ret2
    exact ⟨by simp [H.out, h], rfl⟩
  · have h' : (divE a b != 0) = true := by simpa using h
    have hv : quoV a b = 0 := if_neg h
    have H := Lib.hid hv; clear hv
    go_enter Try.func30, Try.ntmps30
    go_wp2_with (go_at_call 68; refine (check_any _ _ _).mono ?_; rintro e w' ⟨rfl, rfl⟩)
    go_ret2
    exact ⟨by simp [H.out], rfl⟩

set_option maxHeartbeats 400000 in
theorem rem_any (a b : Int) (w : World) :
    Calls Try.prog 32 #[.int .i64 a, .int .i64 b] w fun e w' => e = .returned (pairI (remV a b) (divE a b)) ∧ w = w' := by
  by_cases h : divE a b = 0
  · have ⟨⟨h1, h2⟩, ⟨h3, h4⟩, hb⟩ := divE_bds h
    have hb' : (b == 0) = false := by simpa using hb
    have hv : remV a b = a.tmod b := if_pos h
    have ⟨q1, q2⟩ := tmod_bds (b := b) ⟨h1, h2⟩
    have H := Lib.hid hv; clear hv
    go_enter Try.func32, Try.ntmps32
    go_wp2_with (go_at_call 68; refine (check_any _ _ _).mono ?_; rintro e w' ⟨rfl, rfl⟩)
    go_ret2
    exact ⟨by simp [H.out, h], rfl⟩
  · have h' : (divE a b != 0) = true := by simpa using h
    have hv : remV a b = 0 := if_neg h
    have H := Lib.hid hv; clear hv
    go_enter Try.func32, Try.ntmps32
    go_wp2_with (go_at_call 68; refine (check_any _ _ _).mono ?_; rintro e w' ⟨rfl, rfl⟩)
    go_ret2
    exact ⟨by simp [H.out], rfl⟩

set_option maxHeartbeats 400000 in
theorem flo_any (a b : Int) (w : World) :
    Calls Try.prog 34 #[.int .i64 a, .int .i64 b] w fun e w' => e = .returned (pairI (floorV a b) (divE a b)) ∧ w = w' := by
  by_cases h : divE a b = 0
  · have ⟨⟨h1, h2⟩, ⟨h3, h4⟩, hb⟩ := divE_bds h
    have hb' : (b == 0) = false := by simpa using hb
    have hv : floorV a b = flq a b := if_pos h
    skip
    have H := Lib.hid hv; clear hv
    go_enter Try.func34, Try.ntmps34
    go_wp2_with (first | (go_at_call 68; refine (check_any _ _ _).mono ?_; rintro e w' ⟨rfl, rfl⟩) | (go_at_call 69; refine (floor_any _ _ _ (by omega) (by omega) (by omega)).mono ?_; rintro e w' ⟨rfl, rfl⟩))
    go_ret2
    exact ⟨by simp [H.out, h], rfl⟩
  · have h' : (divE a b != 0) = true := by simpa using h
    have hv : floorV a b = 0 := if_neg h
    have H := Lib.hid hv; clear hv
    go_enter Try.func34, Try.ntmps34
    go_wp2_with (first | (go_at_call 68; refine (check_any _ _ _).mono ?_; rintro e w' ⟨rfl, rfl⟩) | (go_at_call 69; refine (floor_any _ _ _ (by omega) (by omega) (by omega)).mono ?_; rintro e w' ⟨rfl, rfl⟩))
    go_ret2
    exact ⟨by simp [H.out], rfl⟩

set_option maxHeartbeats 400000 in
theorem mod_any (a b : Int) (w : World) :
    Calls Try.prog 36 #[.int .i64 a, .int .i64 b] w fun e w' => e = .returned (pairI (modV a b) (divE a b)) ∧ w = w' := by
  by_cases h : divE a b = 0
  · have ⟨⟨h1, h2⟩, ⟨h3, h4⟩, hb⟩ := divE_bds h
    have hb' : (b == 0) = false := by simpa using hb
    have hv : modV a b = a - flq a b * b := if_pos h
    have ⟨q1, q2⟩ := flq_prod (b := b) ⟨h1, h2⟩ ⟨h3, h4⟩
    have H := Lib.hid hv; clear hv
    go_enter Try.func36, Try.ntmps36
    go_wp2_with (first | (go_at_call 68; refine (check_any _ _ _).mono ?_; rintro e w' ⟨rfl, rfl⟩) | (go_at_call 69; refine (floor_any _ _ _ (by omega) (by omega) (by omega)).mono ?_; rintro e w' ⟨rfl, rfl⟩))
    go_ret2
    exact ⟨by simp [H.out, h], rfl⟩
  · have h' : (divE a b != 0) = true := by simpa using h
    have hv : modV a b = 0 := if_neg h
    have H := Lib.hid hv; clear hv
    go_enter Try.func36, Try.ntmps36
    go_wp2_with (first | (go_at_call 68; refine (check_any _ _ _).mono ?_; rintro e w' ⟨rfl, rfl⟩) | (go_at_call 69; refine (floor_any _ _ _ (by omega) (by omega) (by omega)).mono ?_; rintro e w' ⟨rfl, rfl⟩))
    go_ret2
    exact ⟨by simp [H.out], rfl⟩

set_option maxHeartbeats 400000 in
theorem rquo_any (a b : Int) (w : World) :
    Calls Try.prog 31 #[.int .i64 a, .int .i64 b] w fun e w' => e = .returned (pairI (quoV a b) (divE a b)) ∧ w = w' := by
  cases ha : vld a
  · go_enter Try.func31, Try.ntmps31
    go_wp2_with (go_at_call 16; refine (rvalid_any _ _).mono ?_; rintro e w' ⟨rfl, rfl⟩)
    go_ret2
    exact ⟨by simp [quoV, divE, bth, ha], rfl⟩
  · cases hc : vld b
    · go_enter Try.func31, Try.ntmps31
      go_wp2_with (go_at_call 16; refine (rvalid_any _ _).mono ?_; rintro e w' ⟨rfl, rfl⟩)
      go_ret2
      exact ⟨by simp [quoV, divE, bth, ha, hc], rfl⟩
    · have ⟨h1, h2⟩ := vld_iff.1 ha
      by_cases hb : b = 0
      · subst hb
        go_enter Try.func31, Try.ntmps31
        go_wp2_with (go_at_call 16; refine (rvalid_any _ _).mono ?_; rintro e w' ⟨rfl, rfl⟩)
        go_ret2
        exact ⟨by simp [quoV, divE, bth, ha, hc], rfl⟩
      · have hb' : (b == 0) = false := by simpa using hb
        have ⟨q1, q2⟩ := tdiv_bds (b := b) ⟨h1, h2⟩
        go_enter Try.func31, Try.ntmps31
        go_wp2_with (go_at_call 16; refine (rvalid_any _ _).mono ?_; rintro e w' ⟨rfl, rfl⟩)
        go_ret2
        exact ⟨by simp [quoV, divE, bth, ha, hc, hb], rfl⟩

set_option maxHeartbeats 400000 in
theorem rrem_any (a b : Int) (w : World) :
    Calls Try.prog 33 #[.int .i64 a, .int .i64 b] w fun e w' => e = .returned (pairI (remV a b) (divE a b)) ∧ w = w' := by
  by_cases h : divE a b = 0
  · have ⟨⟨h1, h2⟩, ⟨h3, h4⟩, hb⟩ := divE_bds h
    have hb' : (b == 0) = false := by simpa using hb
    have hv : remV a b = a.tmod b := if_pos h
    have hq : quoV a b = a.tdiv b := if_pos h
    have ⟨q1, q2⟩ := prod_le (b := b) (tdiv_bds (b := b) ⟨h1, h2⟩) ⟨h3, h4⟩
    have H := Lib.hid hv; clear hv
    go_enter Try.func33, Try.ntmps33
    go_wp2_with (go_at_call 31; refine (rquo_any _ _ _).mono ?_; rintro e w' ⟨rfl, rfl⟩)
    go_ret2
    exact ⟨by simp [H.out, h, sub_tdiv], rfl⟩
  · have h' : (divE a b != 0) = true := by simpa using h
    have hv : remV a b = 0 := if_neg h
    have H := Lib.hid hv; clear hv
    go_enter Try.func33, Try.ntmps33
    go_wp2_with (go_at_call 31; refine (rquo_any _ _ _).mono ?_; rintro e w' ⟨rfl, rfl⟩)
    go_ret2
    exact ⟨by simp [H.out], rfl⟩

set_option maxHeartbeats 400000 in
theorem rflo_any (a b : Int) (w : World) :
    Calls Try.prog 35 #[.int .i64 a, .int .i64 b] w fun e w' => e = .returned (pairI (floorV a b) (divE a b)) ∧ w = w' := by
  by_cases h : divE a b = 0
  · have ⟨⟨h1, h2⟩, ⟨h3, h4⟩, hb⟩ := divE_bds h
    have hq : quoV a b = a.tdiv b := if_pos h
    have hf : floorV a b = flq a b := if_pos h
    have ⟨q1, q2⟩ := prod_le (b := b) (tdiv_bds (b := b) ⟨h1, h2⟩) ⟨h3, h4⟩
    have ⟨q3, q4⟩ := tdiv_bds (b := b) ⟨h1, h2⟩
    by_cases hr : a.tmod b = 0
    · have H1 : flq a b = a.tdiv b := by rw [flq, if_pos hr]
      have H := Lib.hid (hf.trans H1); clear H1 hf
      have hr' : (a - a.tdiv b * b != 0) = false := by rw [sub_tdiv]; simpa using hr
      clear hr
      go_enter Try.func35, Try.ntmps35
      go_wp2_with (go_at_call 31; refine (rquo_any _ _ _).mono ?_; rintro e w' ⟨rfl, rfl⟩)
      go_ret2
      exact ⟨by simp [H.out, h], rfl⟩
    · have hr' : (a - a.tdiv b * b != 0) = true := by rw [sub_tdiv]; simpa using hr
      cases ha : decide (a < 0) <;> cases hc : decide (b < 0)
      all_goals
        have H1 : flq a b = if decide (a < 0) = decide (b < 0) then a.tdiv b else a.tdiv b - 1 := by rw [flq, if_neg hr]
        rw [ha, hc] at H1
        have H := Lib.hid (hf.trans H1); clear H1
        clear hf hr
        go_enter Try.func35, Try.ntmps35
        go_wp2_with (go_at_call 31; refine (rquo_any _ _ _).mono ?_; rintro e w' ⟨rfl, rfl⟩)
        go_ret2
        exact ⟨by rw [H.out]; simp [h], rfl⟩
  · have h' : (divE a b != 0) = true := by simpa using h
    have hv : floorV a b = 0 := if_neg h
    have H := Lib.hid hv; clear hv
    go_enter Try.func35, Try.ntmps35
    go_wp2_with (go_at_call 31; refine (rquo_any _ _ _).mono ?_; rintro e w' ⟨rfl, rfl⟩)
    go_ret2
    exact ⟨by simp [H.out], rfl⟩

set_option maxHeartbeats 400000 in
theorem rmod_any (a b : Int) (w : World) :
    Calls Try.prog 37 #[.int .i64 a, .int .i64 b] w fun e w' => e = .returned (pairI (modV a b) (divE a b)) ∧ w = w' := by
  by_cases h : divE a b = 0
  · have ⟨⟨h1, h2⟩, ⟨h3, h4⟩, hb⟩ := divE_bds h
    have hb' : (b == 0) = false := by simpa using hb
    have hv : modV a b = a - flq a b * b := if_pos h
    have hq : floorV a b = flq a b := if_pos h
    have ⟨q1, q2⟩ := flq_prod (b := b) ⟨h1, h2⟩ ⟨h3, h4⟩
    have H := Lib.hid hv; clear hv
    go_enter Try.func37, Try.ntmps37
    go_wp2_with (go_at_call 35; refine (rflo_any _ _ _).mono ?_; rintro e w' ⟨rfl, rfl⟩)
    go_ret2
    exact ⟨by simp [H.out, h], rfl⟩
  · have h' : (divE a b != 0) = true := by simpa using h
    have hv : modV a b = 0 := if_neg h
    have H := Lib.hid hv; clear hv
    go_enter Try.func37, Try.ntmps37
    go_wp2_with (go_at_call 35; refine (rflo_any _ _ _).mono ?_; rintro e w' ⟨rfl, rfl⟩)
    go_ret2
    exact ⟨by simp [H.out], rfl⟩

set_option maxHeartbeats 400000 in
/-- the examples that stand in every statement -/
theorem awake_any (w : World) :
    Calls Try.prog 29 #[] w fun e w' => e = .returned (.bool true) ∧ w = w' := by
  go_enter Try.func29, Try.ntmps29
  go_wp2_with fail
  refine (add_any _ _ _).mono ?_; rintro e w' ⟨rfl, rfl⟩
  rw [show addV 2147483646 1 = 2147483647 from rfl, show addE 2147483646 1 = 0 from rfl]
  go_wp2_with fail
  refine (mul_any _ _ _).mono ?_; rintro e w' ⟨rfl, rfl⟩
  rw [show mulV 46341 46341 = 0 from rfl, show mulE 46341 46341 = 3 from rfl]
  go_wp2_with fail
  refine (quo_any _ _ _).mono ?_; rintro e w' ⟨rfl, rfl⟩
  rw [show quoV (-7) 2 = -3 from rfl, show divE (-7) 2 = 0 from rfl]
  go_wp2_with fail
  refine (flo_any _ _ _).mono ?_; rintro e w' ⟨rfl, rfl⟩
  rw [show floorV (-7) 2 = -4 from rfl, show divE (-7) 2 = 0 from rfl]
  go_wp2_with fail
  go_ret
  exact ⟨rfl, rfl⟩

end Go.Proofs.Ytfklicofohaccaa
