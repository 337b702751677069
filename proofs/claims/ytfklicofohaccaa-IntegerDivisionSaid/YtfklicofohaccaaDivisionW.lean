/- The walk of the statement IntegerDivision. -/
import Derived.Test.YtfklicofohaccaaProg
import Derived.Test.YtfklicofohaccaaIs
import Derived.WalkKit
import Derived.Below
import Derived.Lib.Hide

namespace Go.Proofs.Ytfklicofohaccaa.integerDivision
open Go.RowKit
set_option linter.unusedVariables false

theorem plus_is {a b v er : Int} (h : addV a b = v ∧ addE a b = er) (w : World) :
    Calls Try.prog 63 #[.int .i64 a, .int .i64 0, .int .i64 b, .int .i64 0] w fun e w' => e = .returned (pairI v er) ∧ w = w' := by
  have H := Lib.hid h; clear h
  go_enter Try.func63, Try.ntmps63
  go_wp2_with fail
  refine (add_is H.out _).mono ?_; rintro e w' ⟨rfl, rfl⟩
  go_wp2_with fail
  go_ret2
  exact ⟨rfl, rfl⟩

theorem tmod_lt (a : Int) {b : Int} (hb : b ≠ 0) : (a.tmod b).natAbs < b.natAbs := by
  rw [Int.natAbs_tmod]; exact Nat.mod_lt _ (by omega)
theorem tmod_sign (a b : Int) : a.tmod b = 0 ∨ (a.tmod b < 0 ↔ a < 0) := by
  by_cases h : 0 ≤ a
  · have := Int.tmod_nonneg b h
    right; omega
  · have h2 : 0 ≤ (-a).tmod b := Int.tmod_nonneg b (by omega)
    rw [Int.neg_tmod] at h2
    by_cases h0 : a.tmod b = 0
    · exact .inl h0
    · right; omega
theorem quo_prod {a b : Int} (ha : -2147483647 ≤ a ∧ a ≤ 2147483647) : -2147483647 ≤ a.tdiv b * b ∧ a.tdiv b * b ≤ 2147483647 := by
  have e := sub_tdiv a b
  have s := tmod_sign a b
  have h1 : (a.tmod b).natAbs = a.natAbs % b.natAbs := Int.natAbs_tmod a b
  have h2 := Nat.mod_le a.natAbs b.natAbs
  generalize a.tdiv b * b = p at *
  generalize a.tmod b = r at *
  omega
/-- all that the statement asks of quotients and remainders -/
theorem facts {a b : Int} (h : divE a b = 0) : ∃ q r x m : Int, (quoV a b = q ∧ divE a b = 0) ∧ (remV a b = r ∧ divE a b = 0) ∧ (floorV a b = x ∧ divE a b = 0) ∧ (modV a b = m ∧ divE a b = 0) ∧
    (mulV q b = q * b ∧ mulE q b = 0) ∧ (addV (q * b) r = a ∧ addE (q * b) r = 0) ∧ (-2147483647 ≤ r ∧ r ≤ 2147483647) ∧ (-2147483647 ≤ q ∧ q ≤ 2147483647) ∧ r.natAbs < b.natAbs ∧ (r = 0 ∨ (r < 0 ↔ a < 0)) ∧
    (r ≠ 0 ∧ ¬(r < 0 ↔ b < 0) ∧ x = q - 1 ∧ m = r + b ∨ (r = 0 ∨ (r < 0 ↔ b < 0)) ∧ x = q ∧ m = r) := by
  have ⟨ba, bb, hb⟩ := divE_bds h
  have e := sub_tdiv a b
  have s := tmod_sign a b
  have l := tmod_lt a hb
  have bq := tdiv_bds (b := b) ba
  have br := tmod_bds (b := b) ba
  have bp := quo_prod (b := b) ba
  have bth1 : bth (a.tdiv b) b = true := bth_mk (vld_mk bq) (vld_mk bb)
  have bth2 : bth (a.tdiv b * b) (a.tmod b) = true := bth_mk (vld_mk bp) (vld_mk br)
  have es : a.tdiv b * b + a.tmod b = a := by omega
  refine ⟨a.tdiv b, a.tmod b, flq a b, a - flq a b * b, ⟨if_pos h, h⟩, ⟨if_pos h, h⟩, ⟨if_pos h, h⟩, ⟨if_pos h, h⟩, mul_ok bth1 (vld_mk bp), ?_, br, bq, l, s, ?_⟩
  · have k := add_ok bth2 (by rw [es]; exact vld_mk ba)
    rw [es] at k; exact k
  · have s' : a.tmod b = 0 ∨ decide (a < 0) = decide (a.tmod b < 0) := by
      rcases s with s | s
      · exact .inl s
      · right; by_cases h1 : a < 0
        · rw [decide_eq_true h1, decide_eq_true (s.2 h1)]
        · rw [decide_eq_false h1, decide_eq_false (fun h => h1 (s.1 h))]
    by_cases h0 : a.tmod b = 0
    · right
      have f : flq a b = a.tdiv b := if_pos h0
      rw [f]; exact ⟨.inl h0, rfl, e⟩
    · rcases s' with s' | s'
      · exact absurd s' h0
      · by_cases hd : (a.tmod b < 0 ↔ b < 0)
        · right
          have f : flq a b = a.tdiv b := by rw [flq, if_neg h0, s', if_pos (by simpa using hd)]
          rw [f]; exact ⟨.inr hd, rfl, e⟩
        · left
          have f : flq a b = a.tdiv b - 1 := by rw [flq, if_neg h0, s', if_neg (by simpa using hd)]
          rw [f]; refine ⟨h0, hd, rfl, ?_⟩
          rw [Int.sub_mul, Int.one_mul]; omega

set_option maxRecDepth 100000 in
set_option maxHeartbeats 1600000 in
theorem case1 {a b q : Int} (w : World) (vb : -2147483647 ≤ b ∧ b ≤ 2147483647) (bq : -2147483647 ≤ q ∧ q ≤ 2147483647) (h1 : 0 < b) (ha : vld a = true) (hb : vld b = true)
    (C1 : quoV a b = q ∧ divE a b = 0) (C2 : remV a b = 0 ∧ divE a b = 0) (C3 : floorV a b = q ∧ divE a b = 0) (C4 : modV a b = 0 ∧ divE a b = 0) (C5 : mulV q b = q * b ∧ mulE q b = 0) (C6 : addV (q * b) 0 = a ∧ addE (q * b) 0 = 0) :
    Calls Try.prog 9 #[.int .i64 a, .int .i64 b] w fun e w' => e = .returned (.bool true) ∧ w = w' := by
  have D1 := Lib.hid C1; have D2 := Lib.hid C2; have D3 := Lib.hid C3; have D4 := Lib.hid C4; have D5 := Lib.hid C5; have D6 := Lib.hid C6
  have HA := Lib.hid (And.intro ha hb)
  clear C1 C2 C3 C4 C5 C6 ha hb
  obtain ⟨v3, v4⟩ := vb
  obtain ⟨v5, v6⟩ := bq
  have hz : (b == 0) = false := by simp; omega
  go_enter Try.func9, Try.ntmps9
  go_wp2_with fail
  refine (awake_any _).mono ?_; rintro e w' ⟨rfl, rfl⟩
  go_wp2_with fail
  refine (quo_is D1.out _).mono ?_; rintro e w' ⟨rfl, rfl⟩
  go_wp2_with fail
  refine (rem_is D2.out _).mono ?_; rintro e w' ⟨rfl, rfl⟩
  go_wp2_with fail
  refine (flo_is D3.out _).mono ?_; rintro e w' ⟨rfl, rfl⟩
  go_wp2_with fail
  refine (mod_is D4.out _).mono ?_; rintro e w' ⟨rfl, rfl⟩
  go_wp2_with fail
  refine (valid_is HA.out.1 _).mono ?_; rintro e w' ⟨rfl, rfl⟩
  go_wp2_with fail
  refine (valid_is HA.out.2 _).mono ?_; rintro e w' ⟨rfl, rfl⟩
  go_wp2_with fail
  refine (mul_is D5.out _).mono ?_; rintro e w' ⟨rfl, rfl⟩
  go_wp2_with fail
  refine (plus_is D6.out _).mono ?_; rintro e w' ⟨rfl, rfl⟩
  go_wp2_with fail
  go_ret
  exact ⟨rfl, rfl⟩

set_option maxRecDepth 100000 in
set_option maxHeartbeats 1600000 in
theorem case2 {a b q : Int} (w : World) (vb : -2147483647 ≤ b ∧ b ≤ 2147483647) (bq : -2147483647 ≤ q ∧ q ≤ 2147483647) (h1 : b < 0) (ha : vld a = true) (hb : vld b = true)
    (C1 : quoV a b = q ∧ divE a b = 0) (C2 : remV a b = 0 ∧ divE a b = 0) (C3 : floorV a b = q ∧ divE a b = 0) (C4 : modV a b = 0 ∧ divE a b = 0) (C5 : mulV q b = q * b ∧ mulE q b = 0) (C6 : addV (q * b) 0 = a ∧ addE (q * b) 0 = 0) :
    Calls Try.prog 9 #[.int .i64 a, .int .i64 b] w fun e w' => e = .returned (.bool true) ∧ w = w' := by
  have D1 := Lib.hid C1; have D2 := Lib.hid C2; have D3 := Lib.hid C3; have D4 := Lib.hid C4; have D5 := Lib.hid C5; have D6 := Lib.hid C6
  have HA := Lib.hid (And.intro ha hb)
  clear C1 C2 C3 C4 C5 C6 ha hb
  obtain ⟨v3, v4⟩ := vb
  obtain ⟨v5, v6⟩ := bq
  have hz : (b == 0) = false := by simp; omega
  go_enter Try.func9, Try.ntmps9
  go_wp2_with fail
  refine (awake_any _).mono ?_; rintro e w' ⟨rfl, rfl⟩
  go_wp2_with fail
  refine (quo_is D1.out _).mono ?_; rintro e w' ⟨rfl, rfl⟩
  go_wp2_with fail
  refine (rem_is D2.out _).mono ?_; rintro e w' ⟨rfl, rfl⟩
  go_wp2_with fail
  refine (flo_is D3.out _).mono ?_; rintro e w' ⟨rfl, rfl⟩
  go_wp2_with fail
  refine (mod_is D4.out _).mono ?_; rintro e w' ⟨rfl, rfl⟩
  go_wp2_with fail
  refine (valid_is HA.out.1 _).mono ?_; rintro e w' ⟨rfl, rfl⟩
  go_wp2_with fail
  refine (valid_is HA.out.2 _).mono ?_; rintro e w' ⟨rfl, rfl⟩
  go_wp2_with fail
  refine (mul_is D5.out _).mono ?_; rintro e w' ⟨rfl, rfl⟩
  go_wp2_with fail
  refine (plus_is D6.out _).mono ?_; rintro e w' ⟨rfl, rfl⟩
  go_wp2_with fail
  go_ret
  exact ⟨rfl, rfl⟩

set_option maxRecDepth 100000 in
set_option maxHeartbeats 1600000 in
theorem case3 {a b q r : Int} (w : World) (vb : -2147483647 ≤ b ∧ b ≤ 2147483647) (bq : -2147483647 ≤ q ∧ q ≤ 2147483647) (br : -2147483647 ≤ r ∧ r ≤ 2147483647) (h1 : 0 < r) (h2 : 0 ≤ a) (h3 : r < b) (ha : vld a = true) (hb : vld b = true)
    (C1 : quoV a b = q ∧ divE a b = 0) (C2 : remV a b = r ∧ divE a b = 0) (C3 : floorV a b = q ∧ divE a b = 0) (C4 : modV a b = r ∧ divE a b = 0) (C5 : mulV q b = q * b ∧ mulE q b = 0) (C6 : addV (q * b) r = a ∧ addE (q * b) r = 0) :
    Calls Try.prog 9 #[.int .i64 a, .int .i64 b] w fun e w' => e = .returned (.bool true) ∧ w = w' := by
  have D1 := Lib.hid C1; have D2 := Lib.hid C2; have D3 := Lib.hid C3; have D4 := Lib.hid C4; have D5 := Lib.hid C5; have D6 := Lib.hid C6
  have HA := Lib.hid (And.intro ha hb)
  clear C1 C2 C3 C4 C5 C6 ha hb
  obtain ⟨v3, v4⟩ := vb
  obtain ⟨v5, v6⟩ := bq
  obtain ⟨v7, v8⟩ := br
  have hz : (b == 0) = false := by simp; omega
  have hr : (r != 0) = true := by simp; omega
  have dr : decide (r < 0) = false := by simp; omega
  have da : decide (a < 0) = false := by simp; omega
  have db : decide (b < 0) = false := by simp; omega
  go_enter Try.func9, Try.ntmps9
  go_wp2_with fail
  refine (awake_any _).mono ?_; rintro e w' ⟨rfl, rfl⟩
  go_wp2_with fail
  refine (quo_is D1.out _).mono ?_; rintro e w' ⟨rfl, rfl⟩
  go_wp2_with fail
  refine (rem_is D2.out _).mono ?_; rintro e w' ⟨rfl, rfl⟩
  go_wp2_with fail
  refine (flo_is D3.out _).mono ?_; rintro e w' ⟨rfl, rfl⟩
  go_wp2_with fail
  refine (mod_is D4.out _).mono ?_; rintro e w' ⟨rfl, rfl⟩
  go_wp2_with fail
  refine (valid_is HA.out.1 _).mono ?_; rintro e w' ⟨rfl, rfl⟩
  go_wp2_with fail
  refine (valid_is HA.out.2 _).mono ?_; rintro e w' ⟨rfl, rfl⟩
  go_wp2_with fail
  refine (mul_is D5.out _).mono ?_; rintro e w' ⟨rfl, rfl⟩
  go_wp2_with fail
  refine (plus_is D6.out _).mono ?_; rintro e w' ⟨rfl, rfl⟩
  go_wp2_with fail
  go_ret
  exact ⟨rfl, rfl⟩

set_option maxRecDepth 100000 in
set_option maxHeartbeats 1600000 in
theorem case4 {a b q r : Int} (w : World) (vb : -2147483647 ≤ b ∧ b ≤ 2147483647) (bq : -2147483647 ≤ q ∧ q ≤ 2147483647) (br : -2147483647 ≤ r ∧ r ≤ 2147483647) (h1 : 0 < r) (h2 : 0 ≤ a) (h3 : r < -b) (ha : vld a = true) (hb : vld b = true)
    (C1 : quoV a b = q ∧ divE a b = 0) (C2 : remV a b = r ∧ divE a b = 0) (C3 : floorV a b = (q - 1) ∧ divE a b = 0) (C4 : modV a b = (r + b) ∧ divE a b = 0) (C5 : mulV q b = q * b ∧ mulE q b = 0) (C6 : addV (q * b) r = a ∧ addE (q * b) r = 0) :
    Calls Try.prog 9 #[.int .i64 a, .int .i64 b] w fun e w' => e = .returned (.bool true) ∧ w = w' := by
  have D1 := Lib.hid C1; have D2 := Lib.hid C2; have D3 := Lib.hid C3; have D4 := Lib.hid C4; have D5 := Lib.hid C5; have D6 := Lib.hid C6
  have HA := Lib.hid (And.intro ha hb)
  clear C1 C2 C3 C4 C5 C6 ha hb
  obtain ⟨v3, v4⟩ := vb
  obtain ⟨v5, v6⟩ := bq
  obtain ⟨v7, v8⟩ := br
  have hz : (b == 0) = false := by simp; omega
  have hr : (r != 0) = true := by simp; omega
  have dr : decide (r < 0) = false := by simp; omega
  have da : decide (a < 0) = false := by simp; omega
  have db : decide (b < 0) = true := by simp; omega
  go_enter Try.func9, Try.ntmps9
  go_wp2_with fail
  refine (awake_any _).mono ?_; rintro e w' ⟨rfl, rfl⟩
  go_wp2_with fail
  refine (quo_is D1.out _).mono ?_; rintro e w' ⟨rfl, rfl⟩
  go_wp2_with fail
  refine (rem_is D2.out _).mono ?_; rintro e w' ⟨rfl, rfl⟩
  go_wp2_with fail
  refine (flo_is D3.out _).mono ?_; rintro e w' ⟨rfl, rfl⟩
  go_wp2_with fail
  refine (mod_is D4.out _).mono ?_; rintro e w' ⟨rfl, rfl⟩
  go_wp2_with fail
  refine (valid_is HA.out.1 _).mono ?_; rintro e w' ⟨rfl, rfl⟩
  go_wp2_with fail
  refine (valid_is HA.out.2 _).mono ?_; rintro e w' ⟨rfl, rfl⟩
  go_wp2_with fail
  refine (mul_is D5.out _).mono ?_; rintro e w' ⟨rfl, rfl⟩
  go_wp2_with fail
  refine (plus_is D6.out _).mono ?_; rintro e w' ⟨rfl, rfl⟩
  go_wp2_with fail
  go_ret
  exact ⟨rfl, rfl⟩

set_option maxRecDepth 100000 in
set_option maxHeartbeats 1600000 in
theorem case5 {a b q r : Int} (w : World) (vb : -2147483647 ≤ b ∧ b ≤ 2147483647) (bq : -2147483647 ≤ q ∧ q ≤ 2147483647) (br : -2147483647 ≤ r ∧ r ≤ 2147483647) (h1 : r < 0) (h2 : a < 0) (h3 : -r < b) (ha : vld a = true) (hb : vld b = true)
    (C1 : quoV a b = q ∧ divE a b = 0) (C2 : remV a b = r ∧ divE a b = 0) (C3 : floorV a b = (q - 1) ∧ divE a b = 0) (C4 : modV a b = (r + b) ∧ divE a b = 0) (C5 : mulV q b = q * b ∧ mulE q b = 0) (C6 : addV (q * b) r = a ∧ addE (q * b) r = 0) :
    Calls Try.prog 9 #[.int .i64 a, .int .i64 b] w fun e w' => e = .returned (.bool true) ∧ w = w' := by
  have D1 := Lib.hid C1; have D2 := Lib.hid C2; have D3 := Lib.hid C3; have D4 := Lib.hid C4; have D5 := Lib.hid C5; have D6 := Lib.hid C6
  have HA := Lib.hid (And.intro ha hb)
  clear C1 C2 C3 C4 C5 C6 ha hb
  obtain ⟨v3, v4⟩ := vb
  obtain ⟨v5, v6⟩ := bq
  obtain ⟨v7, v8⟩ := br
  have hz : (b == 0) = false := by simp; omega
  have hr : (r != 0) = true := by simp; omega
  have dr : decide (r < 0) = true := by simp; omega
  have da : decide (a < 0) = true := by simp; omega
  have db : decide (b < 0) = false := by simp; omega
  go_enter Try.func9, Try.ntmps9
  go_wp2_with fail
  refine (awake_any _).mono ?_; rintro e w' ⟨rfl, rfl⟩
  go_wp2_with fail
  refine (quo_is D1.out _).mono ?_; rintro e w' ⟨rfl, rfl⟩
  go_wp2_with fail
  refine (rem_is D2.out _).mono ?_; rintro e w' ⟨rfl, rfl⟩
  go_wp2_with fail
  refine (flo_is D3.out _).mono ?_; rintro e w' ⟨rfl, rfl⟩
  go_wp2_with fail
  refine (mod_is D4.out _).mono ?_; rintro e w' ⟨rfl, rfl⟩
  go_wp2_with fail
  refine (valid_is HA.out.1 _).mono ?_; rintro e w' ⟨rfl, rfl⟩
  go_wp2_with fail
  refine (valid_is HA.out.2 _).mono ?_; rintro e w' ⟨rfl, rfl⟩
  go_wp2_with fail
  refine (mul_is D5.out _).mono ?_; rintro e w' ⟨rfl, rfl⟩
  go_wp2_with fail
  refine (plus_is D6.out _).mono ?_; rintro e w' ⟨rfl, rfl⟩
  go_wp2_with fail
  go_ret
  exact ⟨rfl, rfl⟩

set_option maxRecDepth 100000 in
set_option maxHeartbeats 1600000 in
theorem case6 {a b q r : Int} (w : World) (vb : -2147483647 ≤ b ∧ b ≤ 2147483647) (bq : -2147483647 ≤ q ∧ q ≤ 2147483647) (br : -2147483647 ≤ r ∧ r ≤ 2147483647) (h1 : r < 0) (h2 : a < 0) (h3 : b < r) (ha : vld a = true) (hb : vld b = true)
    (C1 : quoV a b = q ∧ divE a b = 0) (C2 : remV a b = r ∧ divE a b = 0) (C3 : floorV a b = q ∧ divE a b = 0) (C4 : modV a b = r ∧ divE a b = 0) (C5 : mulV q b = q * b ∧ mulE q b = 0) (C6 : addV (q * b) r = a ∧ addE (q * b) r = 0) :
    Calls Try.prog 9 #[.int .i64 a, .int .i64 b] w fun e w' => e = .returned (.bool true) ∧ w = w' := by
  have D1 := Lib.hid C1; have D2 := Lib.hid C2; have D3 := Lib.hid C3; have D4 := Lib.hid C4; have D5 := Lib.hid C5; have D6 := Lib.hid C6
  have HA := Lib.hid (And.intro ha hb)
  clear C1 C2 C3 C4 C5 C6 ha hb
  obtain ⟨v3, v4⟩ := vb
  obtain ⟨v5, v6⟩ := bq
  obtain ⟨v7, v8⟩ := br
  have hz : (b == 0) = false := by simp; omega
  have hr : (r != 0) = true := by simp; omega
  have dr : decide (r < 0) = true := by simp; omega
  have da : decide (a < 0) = true := by simp; omega
  have db : decide (b < 0) = true := by simp; omega
  go_enter Try.func9, Try.ntmps9
  go_wp2_with fail
  refine (awake_any _).mono ?_; rintro e w' ⟨rfl, rfl⟩
  go_wp2_with fail
  refine (quo_is D1.out _).mono ?_; rintro e w' ⟨rfl, rfl⟩
  go_wp2_with fail
  refine (rem_is D2.out _).mono ?_; rintro e w' ⟨rfl, rfl⟩
  go_wp2_with fail
  refine (flo_is D3.out _).mono ?_; rintro e w' ⟨rfl, rfl⟩
  go_wp2_with fail
  refine (mod_is D4.out _).mono ?_; rintro e w' ⟨rfl, rfl⟩
  go_wp2_with fail
  refine (valid_is HA.out.1 _).mono ?_; rintro e w' ⟨rfl, rfl⟩
  go_wp2_with fail
  refine (valid_is HA.out.2 _).mono ?_; rintro e w' ⟨rfl, rfl⟩
  go_wp2_with fail
  refine (mul_is D5.out _).mono ?_; rintro e w' ⟨rfl, rfl⟩
  go_wp2_with fail
  refine (plus_is D6.out _).mono ?_; rintro e w' ⟨rfl, rfl⟩
  go_wp2_with fail
  go_ret
  exact ⟨rfl, rfl⟩

set_option maxRecDepth 100000 in
set_option maxHeartbeats 1600000 in
theorem run (a0 : Int) (a1 : Int) (w : World) (w0 : (Lit.int .i64 a0).wf = true) (w1 : (Lit.int .i64 a1).wf = true) :
    Calls Try.prog 9 #[.int .i64 a0, .int .i64 a1] w fun e w' => e = .returned (.bool true) ∧ w = w' := by
  cases ha : vld a0
  · have HE := Lib.hid (show divE a0 a1 = 1 from by simp [divE, bth, ha])
    go_enter Try.func9, Try.ntmps9
    go_wp2_with fail
    refine (awake_any _).mono ?_; rintro e w' ⟨rfl, rfl⟩
    go_wp2_with fail
    refine (quo_is (And.intro (if_neg (by rw [HE.out]; decide)) HE.out) _).mono ?_; rintro e w' ⟨rfl, rfl⟩
    go_wp2_with fail
    refine (rem_is (And.intro (if_neg (by rw [HE.out]; decide)) HE.out) _).mono ?_; rintro e w' ⟨rfl, rfl⟩
    go_wp2_with fail
    refine (flo_is (And.intro (if_neg (by rw [HE.out]; decide)) HE.out) _).mono ?_; rintro e w' ⟨rfl, rfl⟩
    go_wp2_with fail
    refine (mod_is (And.intro (if_neg (by rw [HE.out]; decide)) HE.out) _).mono ?_; rintro e w' ⟨rfl, rfl⟩
    go_wp2_with fail
    refine (valid_is ha _).mono ?_; rintro e w' ⟨rfl, rfl⟩
    go_wp2_with fail
    go_ret
    exact ⟨rfl, rfl⟩
  · cases hb : vld a1
    · have HE := Lib.hid (show divE a0 a1 = 1 from by simp [divE, bth, hb])
      go_enter Try.func9, Try.ntmps9
      go_wp2_with fail
      refine (awake_any _).mono ?_; rintro e w' ⟨rfl, rfl⟩
      go_wp2_with fail
      refine (quo_is (And.intro (if_neg (by rw [HE.out]; decide)) HE.out) _).mono ?_; rintro e w' ⟨rfl, rfl⟩
      go_wp2_with fail
      refine (rem_is (And.intro (if_neg (by rw [HE.out]; decide)) HE.out) _).mono ?_; rintro e w' ⟨rfl, rfl⟩
      go_wp2_with fail
      refine (flo_is (And.intro (if_neg (by rw [HE.out]; decide)) HE.out) _).mono ?_; rintro e w' ⟨rfl, rfl⟩
      go_wp2_with fail
      refine (mod_is (And.intro (if_neg (by rw [HE.out]; decide)) HE.out) _).mono ?_; rintro e w' ⟨rfl, rfl⟩
      go_wp2_with fail
      refine (valid_is ha _).mono ?_; rintro e w' ⟨rfl, rfl⟩
      go_wp2_with fail
      refine (valid_is hb _).mono ?_; rintro e w' ⟨rfl, rfl⟩
      go_wp2_with fail
      go_ret
      exact ⟨rfl, rfl⟩
    · by_cases hz : a1 = 0
      · subst hz
        have HE := Lib.hid (show divE a0 0 = 5 from by simp [divE, bth, ha, hb])
        go_enter Try.func9, Try.ntmps9
        go_wp2_with fail
        refine (awake_any _).mono ?_; rintro e w' ⟨rfl, rfl⟩
        go_wp2_with fail
        refine (quo_is (And.intro (if_neg (by rw [HE.out]; decide)) HE.out) _).mono ?_; rintro e w' ⟨rfl, rfl⟩
        go_wp2_with fail
        refine (rem_is (And.intro (if_neg (by rw [HE.out]; decide)) HE.out) _).mono ?_; rintro e w' ⟨rfl, rfl⟩
        go_wp2_with fail
        refine (flo_is (And.intro (if_neg (by rw [HE.out]; decide)) HE.out) _).mono ?_; rintro e w' ⟨rfl, rfl⟩
        go_wp2_with fail
        refine (mod_is (And.intro (if_neg (by rw [HE.out]; decide)) HE.out) _).mono ?_; rintro e w' ⟨rfl, rfl⟩
        go_wp2_with fail
        refine (valid_is ha _).mono ?_; rintro e w' ⟨rfl, rfl⟩
        go_wp2_with fail
        refine (valid_is hb _).mono ?_; rintro e w' ⟨rfl, rfl⟩
        go_wp2_with fail
        go_ret
        exact ⟨rfl, rfl⟩
      · obtain ⟨q, r, x, m, C1, C2, C3, C4, C5, C6, br, bq, hl, hs, hf⟩ := facts (divE_ok.2 ⟨bth_mk ha hb, hz⟩)
        have ⟨v1, v2⟩ := vld_iff.1 ha
        have ⟨v3, v4⟩ := vld_iff.1 hb
        obtain ⟨br1, br2⟩ := br
        obtain ⟨bq1, bq2⟩ := bq
        have hc : (r = 0 ∧ 0 < a1 ∧ x = q ∧ m = r) ∨ (r = 0 ∧ a1 < 0 ∧ x = q ∧ m = r) ∨ (0 < r ∧ 0 ≤ a0 ∧ r < a1 ∧ x = q ∧ m = r) ∨ (0 < r ∧ 0 ≤ a0 ∧ r < -a1 ∧ x = q - 1 ∧ m = r + a1) ∨ (r < 0 ∧ a0 < 0 ∧ -r < a1 ∧ x = q - 1 ∧ m = r + a1) ∨ (r < 0 ∧ a0 < 0 ∧ a1 < r ∧ x = q ∧ m = r) := by
          clear w0 w1 C1 C2 C3 C4 C5 C6
          rcases hf with ⟨f1, f2, f3, f4⟩ | ⟨f1, f2, f3⟩ <;> omega
        rcases hc with ⟨rfl, h1, rfl, rfl⟩ | ⟨rfl, h1, rfl, rfl⟩ | ⟨h1, h2, h3, rfl, rfl⟩ | ⟨h1, h2, h3, rfl, rfl⟩ | ⟨h1, h2, h3, rfl, rfl⟩ | ⟨h1, h2, h3, rfl, rfl⟩
        · exact case1 w ⟨v3, v4⟩ ⟨bq1, bq2⟩ h1 ha hb C1 C2 C3 C4 C5 C6
        · exact case2 w ⟨v3, v4⟩ ⟨bq1, bq2⟩ h1 ha hb C1 C2 C3 C4 C5 C6
        · exact case3 w ⟨v3, v4⟩ ⟨bq1, bq2⟩ ⟨br1, br2⟩ h1 h2 h3 ha hb C1 C2 C3 C4 C5 C6
        · exact case4 w ⟨v3, v4⟩ ⟨bq1, bq2⟩ ⟨br1, br2⟩ h1 h2 h3 ha hb C1 C2 C3 C4 C5 C6
        · exact case5 w ⟨v3, v4⟩ ⟨bq1, bq2⟩ ⟨br1, br2⟩ h1 h2 h3 ha hb C1 C2 C3 C4 C5 C6
        · exact case6 w ⟨v3, v4⟩ ⟨bq1, bq2⟩ ⟨br1, br2⟩ h1 h2 h3 ha hb C1 C2 C3 C4 C5 C6

end Go.Proofs.Ytfklicofohaccaa.integerDivision
