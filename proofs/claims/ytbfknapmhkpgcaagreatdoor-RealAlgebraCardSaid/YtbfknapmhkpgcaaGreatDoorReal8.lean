/-
  PACKAGE real: sticky, product, cutOff.
-/
import Derived.Test.YtbfknapmhkpgcaaGreatDoorReal7

namespace Go.Proofs.YtbfknapmhkpgcaaGreatDoor
open Go.RowKit
set_option linter.unusedVariables false

theorem u64_in (x : Int) (h1 : 0 ≤ x) (h2 : x < 18446744073709551616) : IntKind.u64.wrap x = x := by
  simp [IntKind.wrap, IntKind.signed, IntKind.bits]
  omega

theorem pow_nat (k : Nat) : ((2 ^ k : Nat) : Int) = (2 : Int) ^ k := by push_cast; rfl

theorem half_bd (k : Nat) (h1 : 1 ≤ k) (h2 : k ≤ 63) : (1 : Int) ≤ 2 ^ (k - 1) ∧ (2 : Int) ^ (k - 1) ≤ 4611686018427387904 ∧ (2 : Int) ^ k = 2 * 2 ^ (k - 1) := by
  have a := Nat.pow_le_pow_right (n := 2) (by decide) (show k - 1 ≤ 62 by omega)
  have p := Nat.pow_pos (n := k - 1) (a := 2) (by decide)
  refine ⟨by rw [← pow_nat]; omega, by rw [← pow_nat]; omega, ?_⟩
  obtain ⟨j, rfl⟩ : ∃ j, k = j + 1 := ⟨k - 1, by omega⟩
  rw [Nat.add_sub_cancel, Int.pow_succ, Int.mul_comm]

theorem half_eq (k : Nat) (h1 : 1 ≤ k) (h2 : k ≤ 63) : IntKind.u64.wrap (2 ^ (k - 1)) = 2 ^ (k - 1) := by
  have := half_bd k h1 h2
  exact u64_in _ (by omega) (by omega)

theorem rest_eq (n : Int) (k : Nat) (h1 : 1 ≤ k) (h2 : k ≤ 63) (h3 : 0 ≤ n) (h4 : n ≤ 9223372036854775808) :
    bits BinOp.and IntKind.u64 n (IntKind.u64.wrap (IntKind.u64.wrap (2 * IntKind.u64.wrap (2 ^ (k - 1))) - 1)) = n % 2 ^ k := by
  have b := half_bd k h1 h2
  rw [half_eq k h1 h2, u64_in (2 * 2 ^ (k - 1)) (by omega) (by omega), ← b.2.2, u64_in (2 ^ k - 1) (by omega) (by omega)]
  obtain ⟨N, rfl⟩ := Int.eq_ofNat_of_zero_le h3
  have e : (2 : Int) ^ k - 1 = ((2 ^ k - 1 : Nat) : Int) := by
    have p := Nat.pow_pos (n := k) (a := 2) (by decide)
    rw [← pow_nat]
    omega
  have q := b.2.2
  rw [← pow_nat k] at q
  rw [e, bits_and_u64_nat _ _ (by omega) (by omega), Nat.and_two_pow_sub_one_eq_mod, ← pow_nat]
  rfl

/-- n over 2 to the k, to the nearest, of two to the even one -/
def cutV (n : Int) (k : Nat) : Int := if 2 ^ (k - 1) < n % 2 ^ k ∨ (n % 2 ^ k = 2 ^ (k - 1) ∧ n / 2 ^ k % 2 = 1) then n / 2 ^ k + 1 else n / 2 ^ k

theorem quo_bd (n : Int) (k : Nat) (h1 : 1 ≤ k) (h3 : 0 ≤ n) (h4 : n ≤ 9223372036854775808) : 0 ≤ n / 2 ^ k ∧ n / 2 ^ k ≤ 4611686018427387904 := by
  have p := Nat.pow_le_pow_right (n := 2) (by decide) h1
  have q : (2 : Int) ≤ 2 ^ k := by rw [← pow_nat]; omega
  have a := @Int.le_ediv_iff_mul_le 0 n (2 ^ k) (by omega)
  have b := @Int.ediv_lt_iff_lt_mul n 4611686018427387905 (2 ^ k) (by omega)
  have c := a.2 (by omega)
  have d := b.2 (by omega)
  omega

theorem tm2 (q : Int) (h : 0 ≤ q) : q.tmod 2 = q % 2 := Int.tmod_eq_emod_of_nonneg h

section

variable (n : Int) (k : Nat) (h1 : 1 ≤ k) (h2 : k ≤ 63) (h3 : 0 ≤ n) (h4 : n ≤ 9223372036854775808)
include h1 h2 h3 h4

theorem cut1 (h : IntKind.u64.wrap (2 ^ (k - 1)) < bits BinOp.and IntKind.u64 n (IntKind.u64.wrap (IntKind.u64.wrap (2 * IntKind.u64.wrap (2 ^ (k - 1))) - 1))) :
    wrap64 (IntKind.u64.wrap (n / 2 ^ k + 1)) = cutV n k := by
  have q := quo_bd n k h1 h3 h4
  rw [rest_eq n k h1 h2 h3 h4, half_eq k h1 h2] at h
  rw [u64_in _ (by omega) (by omega), wrap_in _ (by omega) (by omega), cutV, if_pos (Or.inl h)]

theorem cut2 (h : bits BinOp.and IntKind.u64 n (IntKind.u64.wrap (IntKind.u64.wrap (2 * IntKind.u64.wrap (2 ^ (k - 1))) - 1)) = IntKind.u64.wrap (2 ^ (k - 1))) (g : ((n / 2 ^ k).tmod 2 == 1) = true) :
    wrap64 (IntKind.u64.wrap (n / 2 ^ k + 1)) = cutV n k := by
  have q := quo_bd n k h1 h3 h4
  rw [rest_eq n k h1 h2 h3 h4, half_eq k h1 h2] at h
  rw [tm2 _ q.1] at g
  rw [u64_in _ (by omega) (by omega), wrap_in _ (by omega) (by omega), cutV, if_pos (Or.inr ⟨h, by simpa using g⟩)]

theorem cut3 (h : bits BinOp.and IntKind.u64 n (IntKind.u64.wrap (IntKind.u64.wrap (2 * IntKind.u64.wrap (2 ^ (k - 1))) - 1)) = IntKind.u64.wrap (2 ^ (k - 1))) (g : ((n / 2 ^ k).tmod 2 == 1) = false) :
    n / 2 ^ k = cutV n k ∧ wrap64 (n / 2 ^ k) = cutV n k := by
  have q := quo_bd n k h1 h3 h4
  rw [rest_eq n k h1 h2 h3 h4, half_eq k h1 h2] at h
  rw [tm2 _ q.1] at g
  have e : n / 2 ^ k = cutV n k := by
    rw [cutV, if_neg]
    rintro (a | ⟨_, a⟩)
    · omega
    · simp [a] at g
  exact ⟨e, by rw [wrap_in _ (by omega) (by omega)]; exact e⟩

theorem cut4 (h : ¬ bits BinOp.and IntKind.u64 n (IntKind.u64.wrap (IntKind.u64.wrap (2 * IntKind.u64.wrap (2 ^ (k - 1))) - 1)) = IntKind.u64.wrap (2 ^ (k - 1))) (g : bits BinOp.and IntKind.u64 n (IntKind.u64.wrap (IntKind.u64.wrap (2 * IntKind.u64.wrap (2 ^ (k - 1))) - 1)) ≤ IntKind.u64.wrap (2 ^ (k - 1))) :
    n / 2 ^ k = cutV n k ∧ wrap64 (n / 2 ^ k) = cutV n k := by
  have q := quo_bd n k h1 h3 h4
  rw [rest_eq n k h1 h2 h3 h4, half_eq k h1 h2] at h g
  have e : n / 2 ^ k = cutV n k := by
    rw [cutV, if_neg]
    rintro (a | ⟨a, _⟩)
    · omega
    · exact h a
  exact ⟨e, by rw [wrap_in _ (by omega) (by omega)]; exact e⟩

end

theorem lo_eq (n p : Int) (k : Nat) (h3 : 0 ≤ n) (hp : n * 2 ^ k = p) (h4 : p ≤ 16777216) (h5 : 0 ≤ p) : wrap64 (IntKind.u64.wrap (n * 2 ^ min k 64)) = p := by
  have e : n * 2 ^ min k 64 = p := by
    by_cases h : k ≤ 64
    · rw [Nat.min_eq_left h]
      exact hp
    · have g := pow_ge k (by omega)
      have z : n = 0 := by
        by_cases z : n = 0
        · exact z
        · have := Int.mul_le_mul_of_nonneg_right (show 1 ≤ n by omega) (show (0 : Int) ≤ 2 ^ k by omega)
          omega
      subst z
      simp at hp ⊢
      exact hp
  rw [e, u64_in _ (by omega) (by omega), wrap_in _ (by omega) (by omega)]

set_option maxRecDepth 100000 in
set_option maxHeartbeats 1600000 in
theorem sticky_true (m : Int) (w : World) (h1 : -4611686018427387904 ≤ m) (h2 : m ≤ 4611686018427387903) :
    Calls Tryz.prog 83 #[.int .i64 m, .bool true] w fun r w' => r = .returned (.int .i64 (2 * m + 1)) ∧ Below w.heap.size w w' := by
  go_enter Tryz.func83, Tryz.ntmps83
  go_wp2_with fail
  go_ret
  exact ⟨rfl, by repeat (first | exact HBB.out | exact Below.refl _ _ | refine Below.drew ?_ | refine Below.setCell ?_ (by first | omega | (simp; done) | (simp; omega)) _ | refine Below.alloc ?_ (by first | omega | (simp; done) | (simp; omega)) _)⟩

set_option maxRecDepth 100000 in
set_option maxHeartbeats 1600000 in
theorem sticky_false (m : Int) (w : World) (h1 : -4611686018427387904 ≤ m) (h2 : m ≤ 4611686018427387903) :
    Calls Tryz.prog 83 #[.int .i64 m, .bool false] w fun r w' => r = .returned (.int .i64 (2 * m)) ∧ Below w.heap.size w w' := by
  go_enter Tryz.func83, Tryz.ntmps83
  go_wp2_with fail
  go_ret
  exact ⟨rfl, by repeat (first | exact HBB.out | exact Below.refl _ _ | refine Below.drew ?_ | refine Below.setCell ?_ (by first | omega | (simp; done) | (simp; omega)) _ | refine Below.alloc ?_ (by first | omega | (simp; done) | (simp; omega)) _)⟩

set_option maxRecDepth 100000 in
set_option maxHeartbeats 1600000 in
theorem product_any (m e k f : Int) (w : World) (h1 : -16777216 ≤ m) (h2 : m ≤ 16777216) (h3 : -16777216 ≤ k) (h4 : k ≤ 16777216) (h5 : -1000 ≤ e) (h6 : e ≤ 1000) (h7 : -1000 ≤ f) (h8 : f ≤ 1000) :
    Calls Tryz.prog 54 #[realV m e, realV k f] w fun r w' => r = .returned (realV (m * k) (e + f)) ∧ Below w.heap.size w w' := by
  have hb : -281474976710656 ≤ m * k ∧ m * k ≤ 281474976710656 := by
    have a := Int.mul_le_mul (a := ab m) (b := ab k) (c := 16777216) (d := 16777216) (by unfold ab; split <;> omega) (by unfold ab; split <;> omega) (by unfold ab; split <;> omega) (by decide)
    have n := Int.mul_nonneg (a := ab m) (b := ab k) (by unfold ab; split <;> omega) (by unfold ab; split <;> omega)
    have e : ab m * ab k = m * k ∨ ab m * ab k = -(m * k) := by
      unfold ab
      split <;> split <;> simp [Int.neg_mul, Int.mul_neg]
    rcases e with e | e <;> rw [e] at a n <;> omega
  obtain ⟨hb1, hb2⟩ := hb
  go_enter Tryz.func54, Tryz.ntmps54
  go_wp2_with fail
  refine bodyPost_ret (v := realV (m * k) (e + f)) (by simp [results, Tryz.results54, go_sem]) rfl ⟨rfl, by repeat (first | exact HBB.out | exact Below.refl _ _ | refine Below.drew ?_ | refine Below.setCell ?_ (by first | omega | (simp; done) | (simp; omega)) _ | refine Below.alloc ?_ (by first | omega | (simp; done) | (simp; omega)) _)⟩

set_option maxRecDepth 100000 in
set_option maxHeartbeats 1600000 in
theorem cut_lo (n c p : Int) (w : World) (h1 : c ≤ 0) (h2 : -1000 ≤ c) (h3 : 0 ≤ n) (hp : n * 2 ^ (-c).toNat = p) (h4 : p ≤ 16777216) (h5 : 0 ≤ p) :
    Calls Tryz.prog 73 #[.int .u64 n, .int .i64 c] w fun r w' => r = .returned (.int .i64 p) ∧ Below w.heap.size w w' := by
  go_enter Tryz.func73, Tryz.ntmps73
  go_wp2_with fail
  go_ret
  exact ⟨congrArg (fun x => Ending.returned (Value.int IntKind.i64 x)) (lo_eq n p _ h3 hp h4 h5), by repeat (first | exact HBB.out | exact Below.refl _ _ | refine Below.drew ?_ | refine Below.setCell ?_ (by first | omega | (simp; done) | (simp; omega)) _ | refine Below.alloc ?_ (by first | omega | (simp; done) | (simp; omega)) _)⟩

set_option maxRecDepth 100000 in
set_option maxHeartbeats 1600000 in
theorem cut_hi (n c : Int) (w : World) (h1 : 63 < c) :
    Calls Tryz.prog 73 #[.int .u64 n, .int .i64 c] w fun r w' => r = .returned (.int .i64 0) ∧ Below w.heap.size w w' := by
  go_enter Tryz.func73, Tryz.ntmps73
  go_wp2_with fail
  go_ret
  exact ⟨rfl, by repeat (first | exact HBB.out | exact Below.refl _ _ | refine Below.drew ?_ | refine Below.setCell ?_ (by first | omega | (simp; done) | (simp; omega)) _ | refine Below.alloc ?_ (by first | omega | (simp; done) | (simp; omega)) _)⟩

set_option maxRecDepth 100000 in
set_option maxHeartbeats 1600000 in
theorem cut_mid (n c : Int) (w : World) (h1 : 0 < c) (h2 : c ≤ 63) (h3 : 0 ≤ n) (h4 : n ≤ 9223372036854775808) :
    Calls Tryz.prog 73 #[.int .u64 n, .int .i64 c] w fun r w' => r = .returned (.int .i64 (cutV n c.toNat)) ∧ Below w.heap.size w w' := by
  go_enter Tryz.func73, Tryz.ntmps73
  go_wp2_with fail
  all_goals go_ret
  all_goals first
    | exact ⟨congrArg (fun x => Ending.returned (Value.int IntKind.i64 x)) (cut1 n c.toNat (by omega) (by omega) h3 h4 (by assumption)), by repeat (first | exact HBB.out | exact Below.refl _ _ | refine Below.drew ?_ | refine Below.setCell ?_ (by first | omega | (simp; done) | (simp; omega)) _ | refine Below.alloc ?_ (by first | omega | (simp; done) | (simp; omega)) _)⟩
    | exact ⟨congrArg (fun x => Ending.returned (Value.int IntKind.i64 x)) (cut2 n c.toNat (by omega) (by omega) h3 h4 (by assumption) (by assumption)), by repeat (first | exact HBB.out | exact Below.refl _ _ | refine Below.drew ?_ | refine Below.setCell ?_ (by first | omega | (simp; done) | (simp; omega)) _ | refine Below.alloc ?_ (by first | omega | (simp; done) | (simp; omega)) _)⟩
    | exact ⟨congrArg (fun x => Ending.returned (Value.int IntKind.i64 x)) (cut3 n c.toNat (by omega) (by omega) h3 h4 (by assumption) (by assumption)).1, by repeat (first | exact HBB.out | exact Below.refl _ _ | refine Below.drew ?_ | refine Below.setCell ?_ (by first | omega | (simp; done) | (simp; omega)) _ | refine Below.alloc ?_ (by first | omega | (simp; done) | (simp; omega)) _)⟩
    | exact ⟨congrArg (fun x => Ending.returned (Value.int IntKind.i64 x)) (cut3 n c.toNat (by omega) (by omega) h3 h4 (by assumption) (by assumption)).2, by repeat (first | exact HBB.out | exact Below.refl _ _ | refine Below.drew ?_ | refine Below.setCell ?_ (by first | omega | (simp; done) | (simp; omega)) _ | refine Below.alloc ?_ (by first | omega | (simp; done) | (simp; omega)) _)⟩
    | exact ⟨congrArg (fun x => Ending.returned (Value.int IntKind.i64 x)) (cut4 n c.toNat (by omega) (by omega) h3 h4 (by assumption) (by assumption)).1, by repeat (first | exact HBB.out | exact Below.refl _ _ | refine Below.drew ?_ | refine Below.setCell ?_ (by first | omega | (simp; done) | (simp; omega)) _ | refine Below.alloc ?_ (by first | omega | (simp; done) | (simp; omega)) _)⟩
    | exact ⟨congrArg (fun x => Ending.returned (Value.int IntKind.i64 x)) (cut4 n c.toNat (by omega) (by omega) h3 h4 (by assumption) (by assumption)).2, by repeat (first | exact HBB.out | exact Below.refl _ _ | refine Below.drew ?_ | refine Below.setCell ?_ (by first | omega | (simp; done) | (simp; omega)) _ | refine Below.alloc ?_ (by first | omega | (simp; done) | (simp; omega)) _)⟩

end Go.Proofs.YtbfknapmhkpgcaaGreatDoor
