/-
  PACKAGE real: whole numbers of reals.
-/
import Derived.Test.YtbfknapmhkpgcaaGreatDoorReal5

namespace Go.Proofs.YtbfknapmhkpgcaaGreatDoor
open Go.RowKit
set_option linter.unusedVariables false

/-- a number m times 2 to the e, rounded down -/
def flo (m e : Int) : Int := if e ≤ 0 then m / 2 ^ (-e).toNat else if 38 < e then c3 m 0 * 2305843009213693952 else m * 2 ^ e.toNat

/-- what an integer of a program is -/
def inR (n : Int) : Bool := decide (-2147483647 ≤ n ∧ n ≤ 2147483647)

theorem c3_bd (a b : Int) : -1 ≤ c3 a b ∧ c3 a b ≤ 1 := by
  unfold c3
  split
  · omega
  · split <;> omega

theorem pow_ge (k : Nat) (h : 26 ≤ k) : (67108864 : Int) ≤ 2 ^ k := by
  have := Nat.pow_le_pow_right (n := 2) (by decide) h
  have e : ((2 ^ k : Nat) : Int) = (2 : Int) ^ k := by push_cast; rfl
  rw [← e]
  omega

theorem pow_le (k : Nat) (h : k ≤ 38) : (1 : Int) ≤ 2 ^ k ∧ (2 : Int) ^ k ≤ 274877906944 := by
  have := Nat.pow_le_pow_right (n := 2) (by decide) h
  have p := Nat.pow_pos (n := k) (a := 2) (by decide)
  have e : ((2 ^ k : Nat) : Int) = (2 : Int) ^ k := by push_cast; rfl
  rw [← e]
  omega

theorem div_pow_far (m : Int) (k : Nat) (h : 26 ≤ k) (h3 : -33554432 ≤ m) (h4 : m ≤ 33554432) : m / 2 ^ k = if m < 0 then -1 else 0 := by
  have p := pow_ge k h
  have a := @Int.le_ediv_iff_mul_le (if m < 0 then -1 else 0) m (2 ^ k) (by omega)
  have b := @Int.ediv_lt_iff_lt_mul m ((if m < 0 then -1 else 0) + 1) (2 ^ k) (by omega)
  have c := a.2 (by split <;> omega)
  have d := b.2 (by split <;> omega)
  omega

theorem div_pow_min (m : Int) (k : Nat) (h3 : -33554432 ≤ m) (h4 : m ≤ 33554432) : m / 2 ^ min k 64 = m / 2 ^ k := by
  by_cases h : k ≤ 64
  · rw [Nat.min_eq_left h]
  · rw [Nat.min_eq_right (by omega), div_pow_far m 64 (by decide) h3 h4, div_pow_far m k (by omega) h3 h4]

theorem wrap_in (x : Int) (h1 : -9223372036854775808 ≤ x) (h2 : x ≤ 9223372036854775807) : wrap64 x = x := by
  unfold wrap64; omega

theorem mul_bd (m p : Int) (h3 : -16777216 ≤ m) (h4 : m ≤ 16777216) (h : 1 ≤ p ∧ p ≤ 274877906944) : -4611686018427387904 ≤ m * p ∧ m * p ≤ 4611686018427387904 := by
  have a := Int.mul_le_mul_of_nonneg_right h4 (show 0 ≤ p by omega)
  have b := Int.mul_le_mul_of_nonneg_right h3 (show 0 ≤ p by omega)
  omega

set_option maxRecDepth 100000 in
set_option maxHeartbeats 1600000 in
theorem ifi_ok (n : Int) (w : World) (h1 : -2147483647 ≤ n) (h2 : n ≤ 2147483647) :
    Calls Tryz.prog 79 #[.int .i64 n] w fun r w' => r = .returned (iE n 0) ∧ Below w.heap.size w w' := by
  go_enter Tryz.func79, Tryz.ntmps79
  go_wp2_with fail
  go_ret2
  exact ⟨rfl, by repeat (first | exact HBB.out | exact Below.refl _ _ | refine Below.drew ?_ | refine Below.setCell ?_ (by first | omega | (simp; done) | (simp; omega)) _ | refine Below.alloc ?_ (by first | omega | (simp; done) | (simp; omega)) _)⟩

set_option maxRecDepth 100000 in
set_option maxHeartbeats 1600000 in
theorem ifi_lo (n : Int) (w : World) (h1 : n < -2147483647) :
    Calls Tryz.prog 79 #[.int .i64 n] w fun r w' => r = .returned (iE 0 3) ∧ Below w.heap.size w w' := by
  go_enter Tryz.func79, Tryz.ntmps79
  go_wp2_with fail
  go_ret2
  exact ⟨rfl, by repeat (first | exact HBB.out | exact Below.refl _ _ | refine Below.drew ?_ | refine Below.setCell ?_ (by first | omega | (simp; done) | (simp; omega)) _ | refine Below.alloc ?_ (by first | omega | (simp; done) | (simp; omega)) _)⟩

set_option maxRecDepth 100000 in
set_option maxHeartbeats 1600000 in
theorem ifi_hi (n : Int) (w : World) (h1 : -2147483647 ≤ n) (h2 : 2147483647 < n) :
    Calls Tryz.prog 79 #[.int .i64 n] w fun r w' => r = .returned (iE 0 3) ∧ Below w.heap.size w w' := by
  go_enter Tryz.func79, Tryz.ntmps79
  go_wp2_with fail
  go_ret2
  exact ⟨rfl, by repeat (first | exact HBB.out | exact Below.refl _ _ | refine Below.drew ?_ | refine Below.setCell ?_ (by first | omega | (simp; done) | (simp; omega)) _ | refine Below.alloc ?_ (by first | omega | (simp; done) | (simp; omega)) _)⟩

theorem ifi_any (n : Int) (w : World) :
    Calls Tryz.prog 79 #[.int .i64 n] w fun r w' => r = .returned (iE (if inR n then n else 0) (if inR n then 0 else 3)) ∧ Below w.heap.size w w' := by
  by_cases h : -2147483647 ≤ n ∧ n ≤ 2147483647
  · rw [show inR n = true from decide_eq_true h]
    exact ifi_ok n w h.1 h.2
  · rw [show inR n = false from decide_eq_false h]
    by_cases h1 : n < -2147483647
    · exact ifi_lo n w h1
    · exact ifi_hi n w (by omega) (by omega)

set_option maxRecDepth 100000 in
set_option maxHeartbeats 1600000 in
theorem floor_hi (m e : Int) (w : World) (h1 : 38 < e) :
    Calls Tryz.prog 80 #[realV m e] w fun r w' => r = .returned (.int .i64 (c3 m 0 * 2305843009213693952)) ∧ Below w.heap.size w w' := by
  have HE := Lib.hid (wrap_in (c3 m 0 * 2305843009213693952) (by have := c3_bd m 0; omega) (by have := c3_bd m 0; omega))
  go_enter Tryz.func80, Tryz.ntmps80
  go_wp2_with fail
  refine (cmp_any _ _ _).mono ?_
  rintro r w' ⟨rfl, rfl⟩
  go_wp2_with fail
  go_ret
  exact ⟨congrArg (fun x => Ending.returned (Value.int IntKind.i64 x)) HE.out, by repeat (first | exact HBB.out | exact Below.refl _ _ | refine Below.drew ?_ | refine Below.setCell ?_ (by first | omega | (simp; done) | (simp; omega)) _ | refine Below.alloc ?_ (by first | omega | (simp; done) | (simp; omega)) _)⟩

set_option maxRecDepth 100000 in
set_option maxHeartbeats 1600000 in
theorem floor_mid (m e : Int) (w : World) (h1 : 0 < e) (h2 : e ≤ 38) (h3 : -16777216 ≤ m) (h4 : m ≤ 16777216) :
    Calls Tryz.prog 80 #[realV m e] w fun r w' => r = .returned (.int .i64 (m * 2 ^ e.toNat)) ∧ Below w.heap.size w w' := by
  have HE := Lib.hid (wrap_in (m * 2 ^ e.toNat) (by have := mul_bd m _ h3 h4 (pow_le e.toNat (by omega)); omega) (by have := mul_bd m _ h3 h4 (pow_le e.toNat (by omega)); omega))
  go_enter Tryz.func80, Tryz.ntmps80
  go_wp2_with fail
  go_ret
  exact ⟨congrArg (fun x => Ending.returned (Value.int IntKind.i64 x)) HE.out, by repeat (first | exact HBB.out | exact Below.refl _ _ | refine Below.drew ?_ | refine Below.setCell ?_ (by first | omega | (simp; done) | (simp; omega)) _ | refine Below.alloc ?_ (by first | omega | (simp; done) | (simp; omega)) _)⟩

set_option maxRecDepth 100000 in
set_option maxHeartbeats 1600000 in
theorem floor_lo (m e : Int) (w : World) (h1 : e ≤ 0) (h2 : -200 ≤ e) (h3 : -16777216 ≤ m) (h4 : m ≤ 16777216) :
    Calls Tryz.prog 80 #[realV m e] w fun r w' => r = .returned (.int .i64 (m / 2 ^ (-e).toNat)) ∧ Below w.heap.size w w' := by
  have HE := Lib.hid (div_pow_min m (-e).toNat (by omega) (by omega))
  go_enter Tryz.func80, Tryz.ntmps80
  go_wp2_with fail
  go_ret
  exact ⟨congrArg (fun x => Ending.returned (Value.int IntKind.i64 x)) HE.out, by repeat (first | exact HBB.out | exact Below.refl _ _ | refine Below.drew ?_ | refine Below.setCell ?_ (by first | omega | (simp; done) | (simp; omega)) _ | refine Below.alloc ?_ (by first | omega | (simp; done) | (simp; omega)) _)⟩

theorem floor_any (m e : Int) (w : World) (h2 : -200 ≤ e) (h3 : -16777216 ≤ m) (h4 : m ≤ 16777216) :
    Calls Tryz.prog 80 #[realV m e] w fun r w' => r = .returned (.int .i64 (flo m e)) ∧ Below w.heap.size w w' := by
  unfold flo
  by_cases h1 : e ≤ 0
  · rw [if_pos h1]
    exact floor_lo m e w h1 h2 h3 h4
  · rw [if_neg h1]
    by_cases h5 : 38 < e
    · rw [if_pos h5]
      exact floor_hi m e w h5
    · rw [if_neg h5]
      exact floor_mid m e w (by omega) (by omega) h3 h4

end Go.Proofs.YtbfknapmhkpgcaaGreatDoor
