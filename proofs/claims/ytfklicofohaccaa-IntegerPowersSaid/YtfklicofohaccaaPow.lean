/-
  WHAT Pow RETURNS, and the document's own answer.
-/
import Derived.Test.YtfklicofohaccaaDiv

namespace Go.Proofs.Ytfklicofohaccaa
open Go.RowKit

set_option maxHeartbeats 400000 in
theorem few_any (a n : Int) (w : World) (h0 : 0 ≤ n) (h1 : n ≤ 2147483647) :
    Calls Try.prog 70 #[.int .i64 a, .int .i64 n] w fun e w' => e = .returned (.int .i64 (few a n)) ∧ w = w' := by
  by_cases c1 : a < -1
  · have H := Lib.hid (show few a n = n from if_pos (.inl c1))
    go_enter Try.func70, Try.ntmps70
    go_wp2
    go_ret
    exact ⟨by rw [H.out]; rfl, rfl⟩
  · by_cases c2 : 1 < a
    · have H := Lib.hid (show few a n = n from if_pos (.inr (.inl c2)))
      go_enter Try.func70, Try.ntmps70
      go_wp2
      go_ret
      exact ⟨by rw [H.out]; rfl, rfl⟩
    · by_cases c3 : n = 0
      · subst c3
        have H := Lib.hid (show few a 0 = 0 from if_pos (.inr (.inr rfl)))
        go_enter Try.func70, Try.ntmps70
        go_wp2
        go_ret
        exact ⟨by rw [H.out]; rfl, rfl⟩
      · have H := Lib.hid (show few a n = 2 - n % 2 from if_neg (by omega))
        have c4 : (n == 0) = false := by simpa using c3
        go_enter Try.func70, Try.ntmps70
        go_wp2
        go_ret
        exact ⟨by rw [H.out]; rfl, rfl⟩

set_option maxHeartbeats 400000 in
theorem pow_any (a n : Int) (w : World) :
    Calls Try.prog 38 #[.int .i64 a, .int .i64 n] w fun e w' => e = .returned (pairI (powV a n) (powE a n)) ∧ w = w' := by
  cases hb : bth a n
  · have H2 := Lib.hid (powE_arg hb)
    have H1 := Lib.hid (pow_bad H2.out (by decide))
    go_enter Try.func38, Try.ntmps38
    go_wp2_with (go_at_call 65; refine (both_any _ _ _).mono ?_; rintro e w' ⟨rfl, rfl⟩)
    go_ret2
    exact ⟨by rw [H1.out, H2.out]; rfl, rfl⟩
  · have ⟨⟨b1, b2⟩, b3, b4⟩ := bth_iff.1 hb
    by_cases hn : n < 0
    · have H2 := Lib.hid (powE_neg (a := a) hn)
      have H1 := Lib.hid (pow_bad H2.out (by decide))
      go_enter Try.func38, Try.ntmps38
      go_wp2_with (go_at_call 65; refine (both_any _ _ _).mono ?_; rintro e w' ⟨rfl, rfl⟩)
      go_ret2
      exact ⟨by rw [H1.out, H2.out]; rfl, rfl⟩
    · by_cases hz : a = 0 ∧ n = 0
      · obtain ⟨rfl, rfl⟩ := hz
        have H2 := Lib.hid (powE_none (a := 0) (n := 0) ⟨rfl, rfl⟩)
        have H1 := Lib.hid (pow_bad H2.out (by decide))
        go_enter Try.func38, Try.ntmps38
        go_wp2_with (go_at_call 65; refine (both_any _ _ _).mono ?_; rintro e w' ⟨rfl, rfl⟩)
        go_ret2
        exact ⟨by rw [H1.out, H2.out]; rfl, rfl⟩
      · have hz' : ((a == 0) && (n == 0)) = false := by
          cases ha : a == 0
          · rfl
          · cases hc : n == 0
            · rfl
            · exact absurd ⟨by simpa using ha, by simpa using hc⟩ hz
        have h0 : 0 ≤ n := by omega
        have ⟨f1, f2⟩ := few_bds (a := a) h0 b4
        have E := Lib.hid (And.intro (@pow_yes a n hb h0 hz) (@pow_no a n hb h0 hz))
        have HF := Lib.hid (pw_few (a := a) h0)
        obtain ⟨m, hm⟩ : ∃ m : Nat, few a n = (m : Int) := ⟨(few a n).toNat, by omega⟩
        have HM := Lib.hid hm
        have hm' : (m : Int) ≤ 2147483647 := by omega
        have hL : ∀ k, k ≤ m → vld (pw a k) = false → powV a n = 0 ∧ powE a n = 3 := by
          intro k hk hv
          refine E.out.2 ?_
          rw [← HF.out, HM.out, Int.toNat_natCast]
          exact vld_pw_not a hk hv
        have hR : vld (pw a m) = true → powV a n = pw a m ∧ powE a n = 0 := by
          have h := E.out.1
          rw [← HF.out, HM.out, Int.toNat_natCast] at h
          exact h
        have HL := Lib.hid hL
        have HR := Lib.hid hR
        clear hm f1 f2 E HF hL hR
        have hz1 : (a == 0) = true ∧ (n == 0) = false ∨ (a == 0) = false := by
          cases ha : a == 0
          · exact .inr rfl
          · refine .inl ⟨rfl, ?_⟩
            rw [ha] at hz'; simpa using hz'
        clear hz hz'
        rcases hz1 with ⟨ha, hc⟩ | ha
        all_goals
          go_enter Try.func38, Try.ntmps38
          go_wp2_with (first | (go_at_call 65; refine (both_any _ _ _).mono ?_; rintro e w' ⟨rfl, rfl⟩) | (go_at_call 70; refine (few_any _ _ _ (by omega) (by omega)).mono ?_; rintro e w' ⟨rfl, rfl⟩; rw [HM.out]))
          go_loop [6, 24] (fun p i => ∃ k : Nat, k ≤ m ∧ i = .int .i64 k ∧ p = .int .i64 (pw a k) ∧ vld (pw a k) = true) (fun _ i => m - (intOf i).toNat)
          case atStart => exact ⟨0, Nat.zero_le _, rfl, by rw [pw_zero], by rw [pw_zero]; rfl⟩
          case round =>
            obtain ⟨k, hk, rfl, rfl, hv⟩ := hrel
            have ⟨p1, p2⟩ := vld_iff.1 hv
            have ⟨p3, p4⟩ := prod_le (a := pw a k) (b := a) ⟨p1, p2⟩ ⟨b1, b2⟩
            by_cases hlt : k < m
            · cases hn : vld (pw a k * a)
              · have HX := Lib.hid (HL.out (k + 1) (by omega) (by rw [pw_succ]; exact hn))
                go_wp2_with (go_at_call 15; refine (valid_any _ _).mono ?_; rintro e w' ⟨rfl, rfl⟩)
                go_ret2
                exact ⟨by rw [HX.out.1, HX.out.2]; rfl, rfl⟩
              · go_wp2_with (go_at_call 15; refine (valid_any _ _).mono ?_; rintro e w' ⟨rfl, rfl⟩)
                go_round
                case rel => exact ⟨k + 1, by omega, by go_num, by rw [pw_succ], by rw [pw_succ]; exact hn⟩
                case measure => simp [intOf]; omega
            · obtain rfl : k = m := by omega
              have HX := Lib.hid (HR.out hv)
              go_wp2_with (go_at_call 15; refine (valid_any _ _).mono ?_; rintro e w' ⟨rfl, rfl⟩)
              go_ret2
              exact ⟨by rw [HX.out.1, HX.out.2]; rfl, rfl⟩

set_option maxHeartbeats 400000 in
theorem rpow_any (a n : Int) (w : World) :
    Calls Try.prog 39 #[.int .i64 a, .int .i64 n] w fun e w' => e = .returned (pairI (powV a n) (powE a n)) ∧ w = w' := by
  cases hb : bth a n
  · have H2 := Lib.hid (powE_arg hb)
    have H1 := Lib.hid (pow_bad H2.out (by decide))
    cases ha : vld a
    · clear hb
      go_enter Try.func39, Try.ntmps39
      go_wp2_with (go_at_call 16; refine (rvalid_any _ _).mono ?_; rintro e w' ⟨rfl, rfl⟩)
      go_ret2
      exact ⟨by rw [H1.out, H2.out]; rfl, rfl⟩
    · have hc : vld n = false := by simpa [bth, ha] using hb
      clear hb
      go_enter Try.func39, Try.ntmps39
      go_wp2_with (go_at_call 16; refine (rvalid_any _ _).mono ?_; rintro e w' ⟨rfl, rfl⟩)
      go_ret2
      exact ⟨by rw [H1.out, H2.out]; rfl, rfl⟩
  · have ⟨⟨b1, b2⟩, b3, b4⟩ := bth_iff.1 hb
    have va := vld_mk ⟨b1, b2⟩
    have vn := vld_mk ⟨b3, b4⟩
    by_cases hn : n < 0
    · have H2 := Lib.hid (powE_neg (a := a) hn)
      have H1 := Lib.hid (pow_bad H2.out (by decide))
      go_enter Try.func39, Try.ntmps39
      go_wp2_with (go_at_call 16; refine (rvalid_any _ _).mono ?_; rintro e w' ⟨rfl, rfl⟩)
      go_ret2
      exact ⟨by rw [H1.out, H2.out]; rfl, rfl⟩
    · have h0 : 0 ≤ n := by omega
      by_cases hz : a = 0 ∧ n = 0
      · obtain ⟨rfl, rfl⟩ := hz
        have H2 := Lib.hid (powE_none (a := 0) (n := 0) ⟨rfl, rfl⟩)
        have H1 := Lib.hid (pow_bad H2.out (by decide))
        go_enter Try.func39, Try.ntmps39
        go_wp2_with (go_at_call 16; refine (rvalid_any _ _).mono ?_; rintro e w' ⟨rfl, rfl⟩)
        go_ret2
        exact ⟨by rw [H1.out, H2.out]; rfl, rfl⟩
      · have E := Lib.hid (And.intro (@pow_yes a n hb h0 hz) (@pow_no a n hb h0 hz))
        by_cases c0 : a = 0
        · subst c0
          have hc : (n == 0) = false := by simp; omega
          have ⟨e1, e2⟩ := E.out.1 (by obtain ⟨k, hk⟩ : ∃ k, n.toNat = k + 1 := ⟨n.toNat - 1, by omega⟩
                                       rw [hk, pw_none]; rfl)
          have e3 : pw 0 n.toNat = 0 := by
            obtain ⟨k, hk⟩ : ∃ k, n.toNat = k + 1 := ⟨n.toNat - 1, by omega⟩
            rw [hk, pw_none]
          have HX := Lib.hid (And.intro (e1.trans e3) e2)
          clear e1 e2 e3 hz
          go_enter Try.func39, Try.ntmps39
          go_wp2_with (go_at_call 16; refine (rvalid_any _ _).mono ?_; rintro e w' ⟨rfl, rfl⟩)
          go_ret2
          exact ⟨by rw [HX.out.1, HX.out.2]; rfl, rfl⟩
        · by_cases c1 : a = 1
          · subst c1
            have ⟨e1, e2⟩ := E.out.1 (by rw [pw_one]; rfl)
            have HX := Lib.hid (And.intro (e1.trans (pw_one _)) e2)
            clear e1 e2 hz
            go_enter Try.func39, Try.ntmps39
            go_wp2_with (go_at_call 16; refine (rvalid_any _ _).mono ?_; rintro e w' ⟨rfl, rfl⟩)
            go_ret2
            exact ⟨by rw [HX.out.1, HX.out.2]; rfl, rfl⟩
          · by_cases c2 : a = -1
            · subst c2
              have ⟨e1, e2⟩ := E.out.1 (by rw [pw_neg]; split <;> rfl)
              rw [pw_neg] at e1
              by_cases c3 : n % 2 = 1
              · rw [if_pos (by omega)] at e1
                have HX := Lib.hid (And.intro e1 e2)
                have c4 : (n % 2 == 1) = true := by simpa using c3
                clear e1 e2 hz
                go_enter Try.func39, Try.ntmps39
                go_wp2_with (go_at_call 16; refine (rvalid_any _ _).mono ?_; rintro e w' ⟨rfl, rfl⟩)
                go_ret2
                exact ⟨by rw [HX.out.1, HX.out.2]; rfl, rfl⟩
              · rw [if_neg (by omega)] at e1
                have HX := Lib.hid (And.intro e1 e2)
                have c4 : (n % 2 == 1) = false := by simpa using c3
                clear e1 e2 hz
                go_enter Try.func39, Try.ntmps39
                go_wp2_with (go_at_call 16; refine (rvalid_any _ _).mono ?_; rintro e w' ⟨rfl, rfl⟩)
                go_ret2
                exact ⟨by rw [HX.out.1, HX.out.2]; rfl, rfl⟩
            · obtain ⟨m, rfl⟩ : ∃ m : Nat, n = (m : Int) := ⟨n.toNat, by omega⟩
              rw [Int.toNat_natCast] at E
              have hL : ∀ k, k ≤ m → vld (pw a k) = false → powV a m = 0 ∧ powE a m = 3 :=
                fun k hk hv => E.out.2 (vld_pw_not a hk hv)
              have HL := Lib.hid hL
              have HR := Lib.hid E.out.1
              have c0' : (a == 0) = false := by simpa using c0
              have c1' : (a == 1) = false := by simpa using c1
              have c2' : (a == -1) = false := by simpa using c2
              clear hL hz c0 c1 c2 E hn
              go_enter Try.func39, Try.ntmps39
              go_wp2_with (go_at_call 16; refine (rvalid_any _ _).mono ?_; rintro e w' ⟨rfl, rfl⟩)
              go_loop [6, 7] (fun p i => ∃ k : Nat, k ≤ m ∧ i = .int .i64 k ∧ p = .int .i64 (pw a k) ∧ vld (pw a k) = true) (fun _ i => m - (intOf i).toNat)
              case atStart => exact ⟨0, Nat.zero_le _, rfl, by rw [pw_zero], by rw [pw_zero]; rfl⟩
              case round =>
                obtain ⟨k, hk, rfl, rfl, hv⟩ := hrel
                have ⟨p1, p2⟩ := vld_iff.1 hv
                have ⟨p3, p4⟩ := prod_le (a := pw a k) (b := a) ⟨p1, p2⟩ ⟨b1, b2⟩
                by_cases hlt : k < m
                · cases hn : vld (pw a k * a)
                  · have HX := Lib.hid (HL.out (k + 1) (by omega) (by rw [pw_succ]; exact hn))
                    go_wp2_with (go_at_call 16; refine (rvalid_any _ _).mono ?_; rintro e w' ⟨rfl, rfl⟩)
                    go_ret2
                    exact ⟨by rw [HX.out.1, HX.out.2]; rfl, rfl⟩
                  · go_wp2_with (go_at_call 16; refine (rvalid_any _ _).mono ?_; rintro e w' ⟨rfl, rfl⟩)
                    go_round
                    case rel => exact ⟨k + 1, by omega, by go_num, by rw [pw_succ], by rw [pw_succ]; exact hn⟩
                    case measure => simp [intOf]; omega
                · obtain rfl : k = m := by omega
                  have HX := Lib.hid (HR.out hv)
                  go_wp2_with (go_at_call 16; refine (rvalid_any _ _).mono ?_; rintro e w' ⟨rfl, rfl⟩)
                  go_ret2
                  exact ⟨by rw [HX.out.1, HX.out.2]; rfl, rfl⟩

end Go.Proofs.Ytfklicofohaccaa
