/-
  WHAT Trips RETURNS, and the document's own answer.
-/
import Derived.Test.YtfklicofohaccaaIs
import Derived.Test.YtfklicofohaccaaNumT

namespace Go.Proofs.Ytfklicofohaccaa
open Go.RowKit

abbrev tripI (n : Int) (o : Bool) (e : Int) : Value := .tuple #[.int .i64 n, .bool o, .int .i64 e]
theorem tr_vals {f s l : Int} (h : trE f s l = 0) : trV f s l = trN f s l ∧ trO f s l = !(vld (f + trN f s l * s)) := ⟨if_pos h, if_pos h⟩
theorem tr_bad {f s l e : Int} (h : trE f s l = e) (he : e ≠ 0) : trV f s l = 0 ∧ trO f s l = false := ⟨if_neg (by rw [h]; exact he), if_neg (by rw [h]; exact he)⟩

set_option maxHeartbeats 400000 in
theorem trips_any (f s l : Int) (w : World) :
    Calls Try.prog 42 #[.int .i64 f, .int .i64 s, .int .i64 l] w fun e w' => e = .returned (tripI (trV f s l) (trO f s l) (trE f s l)) ∧ w = w' := by
  cases hb : bth f l
  · have H2 := Lib.hid (show trE f s l = 1 from by simp [trE, hb])
    have H1 := Lib.hid (tr_bad H2.out (by decide))
    go_enter Try.func42, Try.ntmps42
    go_wp2_with (first | (go_at_call 65; refine (both_any _ _ _).mono ?_; rintro e w' ⟨rfl, rfl⟩) | (go_at_call 15; refine (valid_any _ _).mono ?_; rintro e w' ⟨rfl, rfl⟩))
    go_ret3
    exact ⟨by rw [H1.out.1, H1.out.2, H2.out]; rfl, rfl⟩
  · cases hs : vld s
    · have H2 := Lib.hid (show trE f s l = 1 from by simp [trE, hs])
      have H1 := Lib.hid (tr_bad H2.out (by decide))
      go_enter Try.func42, Try.ntmps42
      go_wp2_with (first | (go_at_call 65; refine (both_any _ _ _).mono ?_; rintro e w' ⟨rfl, rfl⟩) | (go_at_call 15; refine (valid_any _ _).mono ?_; rintro e w' ⟨rfl, rfl⟩))
      go_ret3
      exact ⟨by rw [H1.out.1, H1.out.2, H2.out]; rfl, rfl⟩
    · by_cases hz : s = 0
      · subst hz
        have H2 := Lib.hid (show trE f 0 l = 5 from by simp [trE, hb, hs])
        have H1 := Lib.hid (tr_bad H2.out (by decide))
        go_enter Try.func42, Try.ntmps42
        go_wp2_with (first | (go_at_call 65; refine (both_any _ _ _).mono ?_; rintro e w' ⟨rfl, rfl⟩) | (go_at_call 15; refine (valid_any _ _).mono ?_; rintro e w' ⟨rfl, rfl⟩))
        go_ret3
        exact ⟨by rw [H1.out.1, H1.out.2, H2.out]; rfl, rfl⟩
      · have hE : trE f s l = 0 := trE_ok.2 ⟨hb, hs, hz⟩
        have ⟨⟨b1, b2⟩, ⟨b3, b4⟩, ⟨b5, b6⟩, _⟩ := trE_bds hE
        have hz' : (s == 0) = false := by simpa using hz
        have ⟨n1, n2, n3, n4⟩ := trN_bds (f := f) (s := s) (l := l) ⟨b1, b2⟩ ⟨b3, b4⟩ ⟨b5, b6⟩
        have ⟨q1, q2⟩ := way_bds (f := f) (s := s) (l := l) ⟨b1, b2⟩ ⟨b5, b6⟩
        have H2 := Lib.hid hE
        have H1 := Lib.hid (tr_vals hE)
        have hc : f = l ∨ (0 < s ∧ f < l) ∨ (s < 0 ∧ l < f) ∨ (0 < s ∧ l < f) ∨ (s < 0 ∧ f < l) := by omega
        clear hE
        rcases hc with rfl | ⟨h1, h2⟩ | ⟨h1, h2⟩ | ⟨h1, h2⟩ | ⟨h1, h2⟩
        · have hN : trN f s f = 1 := by
            rcases (by omega : 0 < s ∨ s < 0) with h | h
            · rw [trN_up h (by omega)]; simp
            · rw [trN_down h (by omega)]; simp
          rw [hN, Int.one_mul] at H1
          clear n1 n2 n3 n4 q1 q2
          clear hN
          go_enter Try.func42, Try.ntmps42
          go_wp2_with (first | (go_at_call 65; refine (both_any _ _ _).mono ?_; rintro e w' ⟨rfl, rfl⟩) | (go_at_call 15; refine (valid_any _ _).mono ?_; rintro e w' ⟨rfl, rfl⟩))
          go_ret3
          exact ⟨by rw [H1.out.1, H1.out.2, H2.out]; rfl, rfl⟩
        · have hN : trN f s l = (l - f).tdiv s + 1 := if_pos (.inl ⟨h1, by omega⟩)
          rw [hN] at H1 n1 n2 n3 n4
          clear hN
          have d1 : (decide (l - f > 0) == decide (s > 0)) = true := by simp; omega
          have d2 : (l - f == 0) = false := by simp; omega
          go_enter Try.func42, Try.ntmps42
          go_wp2_with (first | (go_at_call 65; refine (both_any _ _ _).mono ?_; rintro e w' ⟨rfl, rfl⟩) | (go_at_call 15; refine (valid_any _ _).mono ?_; rintro e w' ⟨rfl, rfl⟩))
          go_ret3
          exact ⟨by rw [H1.out.1, H1.out.2, H2.out]; rfl, rfl⟩
        · have hN : trN f s l = (l - f).tdiv s + 1 := if_pos (.inr ⟨h1, by omega⟩)
          rw [hN] at H1 n1 n2 n3 n4
          clear hN
          have d3 : decide (f < l) = false := by simp; omega
          have d4 : decide (0 < s) = false := by simp; omega
          have d2 : (l - f == 0) = false := by simp; omega
          go_enter Try.func42, Try.ntmps42
          go_wp2_with (first | (go_at_call 65; refine (both_any _ _ _).mono ?_; rintro e w' ⟨rfl, rfl⟩) | (go_at_call 15; refine (valid_any _ _).mono ?_; rintro e w' ⟨rfl, rfl⟩))
          go_ret3
          exact ⟨by rw [H1.out.1, H1.out.2, H2.out]; rfl, rfl⟩
        · have hN : trN f s l = 0 := trN_none (by omega)
          rw [hN, Int.zero_mul, Int.add_zero] at H1
          clear n1 n2 n3 n4 q1 q2
          clear hN
          have d2 : (l - f == 0) = false := by simp; omega
          go_enter Try.func42, Try.ntmps42
          go_wp2_with (first | (go_at_call 65; refine (both_any _ _ _).mono ?_; rintro e w' ⟨rfl, rfl⟩) | (go_at_call 15; refine (valid_any _ _).mono ?_; rintro e w' ⟨rfl, rfl⟩))
          go_ret3
          exact ⟨by rw [H1.out.1, H1.out.2, H2.out]; rfl, rfl⟩
        · have hN : trN f s l = 0 := trN_none (by omega)
          rw [hN, Int.zero_mul, Int.add_zero] at H1
          clear n1 n2 n3 n4 q1 q2
          clear hN
          have d2 : (l - f == 0) = false := by simp; omega
          go_enter Try.func42, Try.ntmps42
          go_wp2_with (first | (go_at_call 65; refine (both_any _ _ _).mono ?_; rintro e w' ⟨rfl, rfl⟩) | (go_at_call 15; refine (valid_any _ _).mono ?_; rintro e w' ⟨rfl, rfl⟩))
          go_ret3
          exact ⟨by rw [H1.out.1, H1.out.2, H2.out]; rfl, rfl⟩

set_option maxHeartbeats 400000 in
theorem rtrips_any (f s l : Int) (w : World) :
    Calls Try.prog 43 #[.int .i64 f, .int .i64 s, .int .i64 l] w fun e w' => e = .returned (tripI (trV f s l) (trO f s l) (trE f s l)) ∧ w = w' := by
  cases hf : vld f
  · have H2 := Lib.hid (show trE f s l = 1 from by simp [trE, bth, hf])
    have H1 := Lib.hid (tr_bad H2.out (by decide))
    go_enter Try.func43, Try.ntmps43
    go_wp2_with (go_at_call 16; refine (rvalid_any _ _).mono ?_; rintro e w' ⟨rfl, rfl⟩)
    go_ret3
    exact ⟨by rw [H1.out.1, H1.out.2, H2.out]; rfl, rfl⟩
  · cases hs : vld s
    · have H2 := Lib.hid (show trE f s l = 1 from by simp [trE, hs])
      have H1 := Lib.hid (tr_bad H2.out (by decide))
      go_enter Try.func43, Try.ntmps43
      go_wp2_with (go_at_call 16; refine (rvalid_any _ _).mono ?_; rintro e w' ⟨rfl, rfl⟩)
      go_ret3
      exact ⟨by rw [H1.out.1, H1.out.2, H2.out]; rfl, rfl⟩
    · cases hl : vld l
      · have H2 := Lib.hid (show trE f s l = 1 from by simp [trE, bth, hl])
        have H1 := Lib.hid (tr_bad H2.out (by decide))
        go_enter Try.func43, Try.ntmps43
        go_wp2_with (go_at_call 16; refine (rvalid_any _ _).mono ?_; rintro e w' ⟨rfl, rfl⟩)
        go_ret3
        exact ⟨by rw [H1.out.1, H1.out.2, H2.out]; rfl, rfl⟩
      · by_cases hz : s = 0
        · subst hz
          have H2 := Lib.hid (show trE f 0 l = 5 from by simp [trE, bth, hf, hs, hl])
          have H1 := Lib.hid (tr_bad H2.out (by decide))
          go_enter Try.func43, Try.ntmps43
          go_wp2_with (go_at_call 16; refine (rvalid_any _ _).mono ?_; rintro e w' ⟨rfl, rfl⟩)
          go_ret3
          exact ⟨by rw [H1.out.1, H1.out.2, H2.out]; rfl, rfl⟩
        · have hE : trE f s l = 0 := trE_ok.2 ⟨bth_mk hf hl, hs, hz⟩
          have ⟨⟨b1, b2⟩, ⟨b3, b4⟩, ⟨b5, b6⟩, _⟩ := trE_bds hE
          have hz' : (s == 0) = false := by simpa using hz
          have ⟨n1, n2, n3, n4⟩ := trN_bds (f := f) (s := s) (l := l) ⟨b1, b2⟩ ⟨b3, b4⟩ ⟨b5, b6⟩
          have H2 := Lib.hid hE
          have H1 := Lib.hid (tr_vals hE)
          clear hE
          have hc : (0 < s ∧ f ≤ l) ∨ (s < 0 ∧ l ≤ f) ∨ (0 < s ∧ l < f) ∨ (s < 0 ∧ f < l) := by omega
          rcases hc with ⟨h1, h2⟩ | ⟨h1, h2⟩ | ⟨h1, h2⟩ | ⟨h1, h2⟩
          · have hN := trN_up h1 h2
            have ⟨q1, q2, _, _⟩ := div_prod (A := l - f) (by omega) h1
            rw [hN] at H1 n1 n2 n3 n4
            clear hN
            go_enter Try.func43, Try.ntmps43
            go_wp2_with (go_at_call 16; refine (rvalid_any _ _).mono ?_; rintro e w' ⟨rfl, rfl⟩)
            go_ret3
            exact ⟨by rw [H1.out.1, H1.out.2, H2.out]; rfl, rfl⟩
          · have hN : trN f s l = -(f - l).tdiv s + 1 := by rw [trN_down h1 h2, ← Int.tdiv_eq_ediv_of_nonneg (by omega), Int.tdiv_neg]
            have ⟨q1, q2⟩ := way_bds (f := l) (s := s) (l := f) ⟨b5, b6⟩ ⟨b1, b2⟩
            rw [hN] at H1 n1 n2 n3 n4
            clear hN
            have hz3 : (-s == 0) = false := by simp; omega
            go_enter Try.func43, Try.ntmps43
            go_wp2_with (go_at_call 16; refine (rvalid_any _ _).mono ?_; rintro e w' ⟨rfl, rfl⟩)
            go_ret3
            exact ⟨by rw [H1.out.1, H1.out.2, H2.out]; rfl, rfl⟩
          · have hN : trN f s l = 0 := trN_none (by omega)
            rw [hN, Int.zero_mul, Int.add_zero, hf] at H1
            clear n1 n2 n3 n4 hN
            go_enter Try.func43, Try.ntmps43
            go_wp2_with (go_at_call 16; refine (rvalid_any _ _).mono ?_; rintro e w' ⟨rfl, rfl⟩)
            go_ret3
            exact ⟨by rw [H1.out.1, H1.out.2, H2.out]; rfl, rfl⟩
          · have hN : trN f s l = 0 := trN_none (by omega)
            rw [hN, Int.zero_mul, Int.add_zero, hf] at H1
            clear n1 n2 n3 n4 hN
            go_enter Try.func43, Try.ntmps43
            go_wp2_with (go_at_call 16; refine (rvalid_any _ _).mono ?_; rintro e w' ⟨rfl, rfl⟩)
            go_ret3
            exact ⟨by rw [H1.out.1, H1.out.2, H2.out]; rfl, rfl⟩

theorem trips_is {f s l n : Int} {o : Bool} {er : Int} (h : trV f s l = n ∧ trO f s l = o ∧ trE f s l = er) (w : World) :
    Calls Try.prog 42 #[.int .i64 f, .int .i64 s, .int .i64 l] w fun e w' => e = .returned (tripI n o er) ∧ w = w' := by
  obtain ⟨rfl, rfl, rfl⟩ := h
  exact trips_any f s l w

end Go.Proofs.Ytfklicofohaccaa
