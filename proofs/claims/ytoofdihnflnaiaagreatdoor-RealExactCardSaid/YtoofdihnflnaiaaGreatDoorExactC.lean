/-
  Several texts in one (Pow2, Pow3, Exact0, ExactA).
-/
import Derived.Test.YtoofdihnflnaiaaGreatDoorNear0
import Derived.Test.YtoofdihnflnaiaaGreatDoorStk
import Derived.Test.YtoofdihnflnaiaaGreatDoorExN

namespace Go.Proofs.YtoofdihnflnaiaaGreatDoor
open Go.RowKit
set_option linter.unusedVariables false

set_option maxRecDepth 100000 in
set_option maxHeartbeats 1600000 in
theorem pw_zero (w : World) (H1 : Hid (∀ W : World, Calls Tryz.prog 9 #[.int .i64 1] W fun r w' => r = .returned (realV 8388608 (-23)) ∧ Below W.heap.size W w')) :
    Calls Tryz.prog 48 #[realV 8388608 (-22), .int .u64 0] w fun r w' => r = .returned (realV 8388608 (-23)) ∧ Below w.heap.size w w' := by
  go_enter Tryz.func48, Tryz.ntmps48
  go_wp2_with fail
  refine (H1.out _).mono ?_
  rintro r w1 ⟨rfl, hb1⟩
  have f1_0 : w1.frozen? ⟨w.heap.size + 1, 0, none⟩ = false := carryF hb1 (v := .int .i64 0) (by first | with_reducible assumption | go_simp) (by first | with_reducible assumption | go_simp)
  have f1_1 : w1.frozen? ⟨w.heap.size + 1, 1, none⟩ = false := carryF hb1 (v := .int .i64 0) (by first | with_reducible assumption | go_simp) (by first | with_reducible assumption | go_simp)
  have c1_0 : w1.cell? ⟨w.heap.size + 1, 0, none⟩ = some (.int .i64 0) := carry hb1 (by first | with_reducible assumption | go_simp)
  have c1_1 : w1.cell? ⟨w.heap.size + 1, 1, none⟩ = some (.int .i64 0) := carry hb1 (by first | with_reducible assumption | go_simp)
  have z1 : w.heap.size + 1 < w1.heap.size := by have := hb1.size; first | omega | (simp at this; omega)
  have HBB := Lib.hid ((by repeat (first | with_reducible exact Below.refl _ _ | with_reducible refine Below.setCell ?_ (by first | omega | (simp; done) | (simp; omega)) _ | with_reducible refine Below.drew ?_ | with_reducible refine belowN ?_ _ | with_reducible refine Below.alloc ?_ (by first | omega | (simp; done) | (simp; omega)) _) : Below w.heap.size w _).trans (hb1.mono (by first | omega | (simp; done) | (simp; omega))))
  clear hb1
  go_wp2_with fail
  refine bodyPost_ret (v := realV 8388608 (-23)) (by simp [results, Tryz.results48, go_sem, c1_0, c1_1]) rfl ⟨rfl, by repeat (first | with_reducible exact HBB.out | with_reducible exact Below.refl _ _ | with_reducible refine Below.drew ?_ | with_reducible refine belowN ?_ _ | with_reducible refine Below.setCell ?_ (by first | omega | (simp; done) | (simp; omega)) _ | with_reducible refine Below.alloc ?_ (by first | omega | (simp; done) | (simp; omega)) _)⟩

set_option maxRecDepth 100000 in
set_option maxHeartbeats 1600000 in
theorem pw_odd (n p : Nat) (a b f : Int) (w : World) (hn : n ≤ 200) (ha : IntKind.u64.wrap ((n : Int) - 1) = (p : Int)) (h0 : ((n : Int) == 0) = false) (h1 : ((n : Int) % 2 == 1) = true)
    (HI : Hid (∀ (x : Int) (W : World), x = (p : Int) → Calls Tryz.prog 48 #[realV 8388608 (-22), .int .u64 x] W fun r w' => r = .returned (realV 8388608 f) ∧ Below W.heap.size W w')) (hp : p + 1 = n) (HPR : Hid (∀ W : World, Calls Tryz.prog 36 #[realV 8388608 (-22), realV 8388608 f] W fun r w' => r = .returned (realV a b) ∧ Below W.heap.size W w')) (HRO : Hid (∀ W : World, Calls Tryz.prog 28 #[realV a b] W fun r w' => r = .returned (realV 8388608 (f + 1)) ∧ Below W.heap.size W w')) :
    Calls Tryz.prog 48 #[realV 8388608 (-22), .int .u64 (n : Int)] w fun r w' => r = .returned (realV 8388608 (f + 1)) ∧ Below w.heap.size w w' := by
  have HB0 := Lib.hid ((by repeat (first | exact Below.refl _ _ | refine Below.alloc ?_ (by simp <;> omega) _) : Below w.heap.size w ((w.alloc (Obj.cells #[Value.int IntKind.i64 8388608, Value.int IntKind.i64 (-22)] 23)).alloc (Obj.cells #[Value.int IntKind.i64 0, Value.int IntKind.i64 0] 23))))
  generalize f + 1 = g at HRO ⊢
  go_enter Tryz.func48, Tryz.ntmps48
  go_wp2_with fail
  go_region_held3 (fun wx => wx.cell? ⟨w.heap.size, 0, none⟩ = some (.int .i64 8388608) ∧ wx.cell? ⟨w.heap.size, 1, none⟩ = some (.int .i64 (-22)) ∧ w.heap.size < wx.heap.size ∧ Below w.heap.size w wx) (first | (go_keep; done) | ((try go_split_ands); (repeat' apply And.intro) <;> first | with_reducible assumption | (exact carry hbq (by with_reducible assumption)) | (go_simp; done) | (simp only [World.size_alloc, World.size_drew]; omega) | ((repeat (first | with_reducible assumption | with_reducible exact HB0.out | with_reducible refine Below.drew ?_ | with_reducible refine Below.setCell ?_ (by first | omega | (simp; done) | (simp <;> omega)) _)); done) | (exact Nat.lt_of_lt_of_le (by first | with_reducible assumption | (simp <;> omega)) hbq.size) | (simp <;> omega)))
    (first
      | (go_at_call 48; ((refine (HI.out _ _ (by first | exact ha | (simp only [ha]) | omega)).mono ?_); rintro r wq ⟨rfl, hbq⟩; have q0 : wq.cell? ⟨w.heap.size + 1, 0, none⟩ = some (.int .i64 0) := carry hbq (by first | with_reducible assumption | go_simp); have qf0 : wq.frozen? ⟨w.heap.size + 1, 0, none⟩ = false := carryF hbq (v := .int .i64 0) (by first | with_reducible assumption | go_simp) (by first | with_reducible assumption | go_simp); have q1 : wq.cell? ⟨w.heap.size + 1, 1, none⟩ = some (.int .i64 0) := carry hbq (by first | with_reducible assumption | go_simp); have qf1 : wq.frozen? ⟨w.heap.size + 1, 1, none⟩ = false := carryF hbq (v := .int .i64 0) (by first | with_reducible assumption | go_simp) (by first | with_reducible assumption | go_simp); have qz : w.heap.size + 1 < wq.heap.size := Nat.lt_of_lt_of_le (by first | with_reducible assumption | (simp <;> omega)) hbq.size; have qb : Below w.heap.size w wq := Below.trans (by first | with_reducible assumption | with_reducible exact HB0.out.drew | with_reducible exact HB0.out | with_reducible exact Below.drew (by with_reducible assumption)) (hbq.mono (by first | omega | (simp <;> omega)))))
      | (go_at_call 36; ((with_reducible refine (HPR.out _).mono ?_); rintro r wq ⟨rfl, hbq⟩; have q0 : wq.cell? ⟨w.heap.size + 1, 0, none⟩ = some (.int .i64 0) := carry hbq (by first | with_reducible assumption | go_simp); have qf0 : wq.frozen? ⟨w.heap.size + 1, 0, none⟩ = false := carryF hbq (v := .int .i64 0) (by first | with_reducible assumption | go_simp) (by first | with_reducible assumption | go_simp); have q1 : wq.cell? ⟨w.heap.size + 1, 1, none⟩ = some (.int .i64 0) := carry hbq (by first | with_reducible assumption | go_simp); have qf1 : wq.frozen? ⟨w.heap.size + 1, 1, none⟩ = false := carryF hbq (v := .int .i64 0) (by first | with_reducible assumption | go_simp) (by first | with_reducible assumption | go_simp); have qz : w.heap.size + 1 < wq.heap.size := Nat.lt_of_lt_of_le (by first | with_reducible assumption | (simp <;> omega)) hbq.size; have qb : Below w.heap.size w wq := Below.trans (by first | with_reducible assumption | with_reducible exact HB0.out.drew | with_reducible exact HB0.out | with_reducible exact Below.drew (by with_reducible assumption)) (hbq.mono (by first | omega | (simp <;> omega)))))
      | (go_at_call 28; ((with_reducible refine (HRO.out _).mono ?_); rintro r wq ⟨rfl, hbq⟩; have q0 : wq.cell? ⟨w.heap.size + 1, 0, none⟩ = some (.int .i64 0) := carry hbq (by first | with_reducible assumption | go_simp); have qf0 : wq.frozen? ⟨w.heap.size + 1, 0, none⟩ = false := carryF hbq (v := .int .i64 0) (by first | with_reducible assumption | go_simp) (by first | with_reducible assumption | go_simp); have q1 : wq.cell? ⟨w.heap.size + 1, 1, none⟩ = some (.int .i64 0) := carry hbq (by first | with_reducible assumption | go_simp); have qf1 : wq.frozen? ⟨w.heap.size + 1, 1, none⟩ = false := carryF hbq (v := .int .i64 0) (by first | with_reducible assumption | go_simp) (by first | with_reducible assumption | go_simp); have qz : w.heap.size + 1 < wq.heap.size := Nat.lt_of_lt_of_le (by first | with_reducible assumption | (simp <;> omega)) hbq.size; have qb : Below w.heap.size w wq := Below.trans (by first | with_reducible assumption | with_reducible exact HB0.out.drew | with_reducible exact HB0.out | with_reducible exact Below.drew (by with_reducible assumption)) (hbq.mono (by first | omega | (simp <;> omega))))))
  clear HB0
  rename _ ∧ _ ∧ _ ∧ Below w.heap.size w _ => hS
  have HBB := Lib.hid hS.2.2.2
  clear hS
  go_wp2_with fail
  refine bodyPost_ret (v := realV 8388608 g) (by simp [results, Tryz.results48, go_sem, q0, q1]) rfl ⟨rfl, by repeat (first | with_reducible exact HBB.out | with_reducible exact Below.refl _ _ | with_reducible refine Below.drew ?_ | with_reducible refine belowN ?_ _ | with_reducible refine Below.setCell ?_ (by first | omega | (simp; done) | (simp; omega)) _ | with_reducible refine Below.alloc ?_ (by first | omega | (simp; done) | (simp; omega)) _)⟩

set_option maxRecDepth 100000 in
set_option maxHeartbeats 1600000 in
theorem pw_even (n k : Nat) (a b f g : Int) (w : World) (hn : n ≤ 200) (h0 : ((n : Int) == 0) = false) (h1 : ((n : Int) % 2 == 1) = false) (hd : (n : Int) / 2 = (k : Int))
    (HI : Hid (∀ W : World, Calls Tryz.prog 48 #[realV 8388608 (-22), .int .u64 (k : Int)] W fun r w' => r = .returned (realV 8388608 f) ∧ Below W.heap.size W w')) (HPR : Hid (∀ W : World, Calls Tryz.prog 36 #[realV 8388608 f, realV 8388608 f] W fun r w' => r = .returned (realV a b) ∧ Below W.heap.size W w')) (HRO : Hid (∀ W : World, Calls Tryz.prog 28 #[realV a b] W fun r w' => r = .returned (realV 8388608 g) ∧ Below W.heap.size W w')) :
    Calls Tryz.prog 48 #[realV 8388608 (-22), .int .u64 (n : Int)] w fun r w' => r = .returned (realV 8388608 g) ∧ Below w.heap.size w w' := by
  go_enter Tryz.func48, Tryz.ntmps48
  go_wp2_with fail
  refine (HI.out _).mono ?_
  rintro r w1 ⟨rfl, hb1⟩
  have f1_0 : w1.frozen? ⟨w.heap.size + 1, 0, none⟩ = false := carryF hb1 (v := .int .i64 0) (by first | with_reducible assumption | go_simp) (by first | with_reducible assumption | go_simp)
  have f1_1 : w1.frozen? ⟨w.heap.size + 1, 1, none⟩ = false := carryF hb1 (v := .int .i64 0) (by first | with_reducible assumption | go_simp) (by first | with_reducible assumption | go_simp)
  have c1_0 : w1.cell? ⟨w.heap.size + 1, 0, none⟩ = some (.int .i64 0) := carry hb1 (by first | with_reducible assumption | go_simp)
  have c1_1 : w1.cell? ⟨w.heap.size + 1, 1, none⟩ = some (.int .i64 0) := carry hb1 (by first | with_reducible assumption | go_simp)
  have z1 : w.heap.size + 1 < w1.heap.size := by have := hb1.size; first | omega | (simp at this; omega)
  have HBB := Lib.hid ((by repeat (first | with_reducible exact Below.refl _ _ | with_reducible refine Below.setCell ?_ (by first | omega | (simp; done) | (simp; omega)) _ | with_reducible refine Below.drew ?_ | with_reducible refine belowN ?_ _ | with_reducible refine Below.alloc ?_ (by first | omega | (simp; done) | (simp; omega)) _) : Below w.heap.size w _).trans (hb1.mono (by first | omega | (simp; done) | (simp; omega))))
  clear hb1
  have hz1 := HBB.out.size
  go_wp2_with fail
  refine (HPR.out _).mono ?_
  rintro r w2 ⟨rfl, hb2⟩
  have f1_0 : w2.frozen? ⟨w.heap.size + 1, 0, none⟩ = false := carryF hb2 (v := .int .i64 0) (by first | with_reducible assumption | go_simp) (by first | with_reducible assumption | go_simp)
  have f1_1 : w2.frozen? ⟨w.heap.size + 1, 1, none⟩ = false := carryF hb2 (v := .int .i64 0) (by first | with_reducible assumption | go_simp) (by first | with_reducible assumption | go_simp)
  have c1_0 : w2.cell? ⟨w.heap.size + 1, 0, none⟩ = some (.int .i64 0) := carry hb2 (by first | with_reducible assumption | go_simp)
  have c1_1 : w2.cell? ⟨w.heap.size + 1, 1, none⟩ = some (.int .i64 0) := carry hb2 (by first | with_reducible assumption | go_simp)
  have z1 : w.heap.size + 1 < w2.heap.size := by have := hb2.size; first | omega | (simp at this; omega)
  have HBB := Lib.hid ((by repeat (first | with_reducible exact HBB.out | with_reducible refine Below.setCell ?_ (by first | omega | (simp; done) | (simp; omega)) _ | with_reducible refine Below.drew ?_ | with_reducible refine belowN ?_ _ | with_reducible refine Below.alloc ?_ (by first | omega | (simp; done) | (simp; omega)) _) : Below w.heap.size w _).trans (hb2.mono (by first | omega | (simp; done) | (simp; omega))))
  clear hb2
  go_wp2_with fail
  refine (HRO.out _).mono ?_
  rintro r w3 ⟨rfl, hb3⟩
  have f1_0 : w3.frozen? ⟨w.heap.size + 1, 0, none⟩ = false := carryF hb3 (v := .int .i64 0) (by first | with_reducible assumption | go_simp) (by first | with_reducible assumption | go_simp)
  have f1_1 : w3.frozen? ⟨w.heap.size + 1, 1, none⟩ = false := carryF hb3 (v := .int .i64 0) (by first | with_reducible assumption | go_simp) (by first | with_reducible assumption | go_simp)
  have c1_0 : w3.cell? ⟨w.heap.size + 1, 0, none⟩ = some (.int .i64 0) := carry hb3 (by first | with_reducible assumption | go_simp)
  have c1_1 : w3.cell? ⟨w.heap.size + 1, 1, none⟩ = some (.int .i64 0) := carry hb3 (by first | with_reducible assumption | go_simp)
  have z1 : w.heap.size + 1 < w3.heap.size := by have := hb3.size; first | omega | (simp at this; omega)
  have HBB := Lib.hid ((by repeat (first | with_reducible exact HBB.out | with_reducible refine Below.setCell ?_ (by first | omega | (simp; done) | (simp; omega)) _ | with_reducible refine Below.drew ?_ | with_reducible refine belowN ?_ _ | with_reducible refine Below.alloc ?_ (by first | omega | (simp; done) | (simp; omega)) _) : Below w.heap.size w _).trans (hb3.mono (by first | omega | (simp; done) | (simp; omega))))
  clear hb3
  go_wp2_with fail
  refine bodyPost_ret (v := realV 8388608 g) (by simp [results, Tryz.results48, go_sem, c1_0, c1_1]) rfl ⟨rfl, by repeat (first | with_reducible exact HBB.out | with_reducible exact Below.refl _ _ | with_reducible refine Below.drew ?_ | with_reducible refine belowN ?_ _ | with_reducible refine Below.setCell ?_ (by first | omega | (simp; done) | (simp; omega)) _ | with_reducible refine Below.alloc ?_ (by first | omega | (simp; done) | (simp; omega)) _)⟩

theorem two_mul (p f : Int) (h1 : -300 ≤ f) (h2 : f ≤ 300) (hp : p = 70368744177664) : rI p f = ix 8388608 (f + 23) ∨ f + 23 < -150 ∨ 150 < f + 23 := by
  by_cases hr : -150 ≤ f + 23 ∧ f + 23 ≤ 150
  · left
    have hv : vr 8388608 (f + 23) = true := by
      rw [vr_iff]
      right
      left
      unfold ab
      exact ⟨by decide, by decide, hr.1, hr.2⟩
    rw [rI_val p f 150 (by omega) (by omega) (by omega), ix_val hv, hp]
    have e : (70368744177664 : Int) * 2 ^ (f + 150 + ((150 : Nat) : Int)).toNat = UU 8388608 (f + 23) * 2 ^ 150 := by
      unfold UU
      rw [show (70368744177664 : Int) = 8388608 * 2 ^ 23 from by decide, Int.mul_assoc, Int.mul_assoc, ← Int.pow_add, ← Int.pow_add]
      congr 2
      omega
    rw [e]
    have := RI_scale (UU 8388608 (f + 23)) 0 150
    rw [Nat.zero_add] at this
    exact this
  · omega

theorem ro_two (p f : Int) (W : World) (h1 : -173 ≤ f) (h2 : f ≤ 127) (hp : p = 70368744177664) : Calls Tryz.prog 28 #[realV p f] W fun r w' => r = .returned (realV 8388608 (f + 23)) ∧ Below W.heap.size W w' := by
  have hv : vr 8388608 (f + 23) = true := by
    rw [vr_iff]
    right
    left
    unfold ab
    exact ⟨by decide, by decide, by omega, by omega⟩
  have hi : rI p f = ix 8388608 (f + 23) := by
    rcases two_mul p f (by omega) (by omega) hp with h | h | h <;> omega
  have hb := ix_bd hv
  have hr : rOk p f = true := by
    unfold rOk
    rw [hi]
    simp
    omega
  have h := rounded_ok p f W (by omega) (by omega) (by omega) (by omega) hr
  rw [hi, (at_ix hv).1, (at_ix hv).2] at h
  exact h

theorem one_is (W : World) : Calls Tryz.prog 9 #[.int .i64 1] W fun r w' => r = .returned (realV 8388608 (-23)) ∧ Below W.heap.size W w' := by
  have h := fromInt_any 1 W (by decide) (by decide)
  rw [show aM (rI 1 0) = 8388608 from by decide +kernel, show aE (rI 1 0) = -23 from by decide +kernel] at h
  exact h

theorem two_is (W : World) : Calls Tryz.prog 9 #[.int .i64 2] W fun r w' => r = .returned (realV 8388608 (-22)) ∧ Below W.heap.size W w' := by
  have h := fromInt_any 2 W (by decide) (by decide)
  rw [show aM (rI 2 0) = 8388608 from by decide +kernel, show aE (rI 2 0) = -22 from by decide +kernel] at h
  exact h

theorem power_two (n : Nat) : ∀ w : World, n ≤ 100 → Calls Tryz.prog 48 #[realV 8388608 (-22), .int .u64 (n : Int)] w fun r w' => r = .returned (realV 8388608 ((n : Int) - 23)) ∧ Below w.heap.size w w' := by
  induction n using Nat.strongRecOn with
  | ind n ih =>
    intro w hn
    rcases Nat.eq_zero_or_pos n with rfl | h0
    · exact pw_zero w (Lib.hid one_is)
    · have e0 : ((n : Int) == 0) = false := by simp; omega
      rcases Nat.mod_two_eq_zero_or_one n with h1 | h1
      · have hp : (8388608 : Int) * 8388608 = 70368744177664 := by decide
        have h := pw_even n (n / 2) (8388608 * 8388608) (((n / 2 : Nat) : Int) - 23 + (((n / 2 : Nat) : Int) - 23)) (((n / 2 : Nat) : Int) - 23) (((n / 2 : Nat) : Int) - 23 + (((n / 2 : Nat) : Int) - 23) + 23) w (by omega) e0 (by simp; omega) (by omega)
          (Lib.hid (fun W => ih (n / 2) (by omega) W (by omega))) (Lib.hid (fun W => product_any 8388608 _ 8388608 _ W (by decide) (by decide) (by decide) (by decide) (by omega) (by omega) (by omega) (by omega))) (Lib.hid (fun W => ro_two _ _ W (by omega) (by omega) hp))
        rw [show (((n / 2 : Nat) : Int) - 23 + (((n / 2 : Nat) : Int) - 23) + 23) = (n : Int) - 23 from by omega] at h
        exact h
      · have hp : (8388608 : Int) * 8388608 = 70368744177664 := by decide
        have h := pw_odd n (n - 1) (8388608 * 8388608) (-22 + (((n - 1 : Nat) : Int) - 23)) (((n - 1 : Nat) : Int) - 23) w (by omega) (by rw [u64_in _ (by omega) (by omega)]; omega) e0 (by simp; omega)
          (Lib.hid (fun x W hx => by rw [hx]; exact ih (n - 1) (by omega) W (by omega))) (by omega) (Lib.hid (fun W => product_any 8388608 _ 8388608 _ W (by decide) (by decide) (by decide) (by decide) (by omega) (by omega) (by omega) (by omega)))
          (Lib.hid (fun W => by
            have h := ro_two (8388608 * 8388608) (-22 + (((n - 1 : Nat) : Int) - 23)) W (by omega) (by omega) hp
            rwa [show -22 + (((n - 1 : Nat) : Int) - 23) + 23 = ((n - 1 : Nat) : Int) - 23 + 1 from by omega] at h))
        rw [show (((n - 1 : Nat) : Int) - 23 + 1) = (n : Int) - 23 from by omega] at h
        exact h

set_option maxRecDepth 100000 in
set_option maxHeartbeats 1600000 in
theorem p1c (b d : Nat) (n : Nat) (w : World) (c0 : w.cell? ⟨b, 0, none⟩ = some (.int .i64 8388608)) (c1 : w.cell? ⟨b, 1, none⟩ = some (.int .i64 (-22))) (c2 : w.cell? ⟨d, 0, none⟩ = some (.int .i64 (n : Int))) (zb : b < w.heap.size) (zd : d < w.heap.size) (hn : n ≤ 100) :
    Calls Tryz.prog 47 #[.pointer (some ⟨b, 0, none⟩), .pointer (some ⟨d, 0, none⟩)] w fun r w' => r = .returned (realV 8388608 ((n : Int) - 23)) ∧ Below w.heap.size w w' := by
  have HS := Lib.hid (fun w => power_two n w hn)
  have wu : IntKind.u64.wrap (n : Int) = (n : Int) := u64_in _ (by omega) (by omega)
  generalize (n : Int) - 23 = ae at HS ⊢
  go_enter Tryz.func47, Tryz.ntmps47
  go_wp2_with fail
  refine (HS.out _).mono ?_
  rintro r w1 ⟨rfl, hb1⟩
  have f0_0 : w1.frozen? ⟨w.heap.size, 0, none⟩ = false := carryF hb1 (v := .int .i64 0) (by first | with_reducible assumption | go_simp) (by first | with_reducible assumption | go_simp)
  have f0_1 : w1.frozen? ⟨w.heap.size, 1, none⟩ = false := carryF hb1 (v := .int .i64 0) (by first | with_reducible assumption | go_simp) (by first | with_reducible assumption | go_simp)
  have c0_0 : w1.cell? ⟨w.heap.size, 0, none⟩ = some (.int .i64 0) := carry hb1 (by first | with_reducible assumption | go_simp)
  have c0_1 : w1.cell? ⟨w.heap.size, 1, none⟩ = some (.int .i64 0) := carry hb1 (by first | with_reducible assumption | go_simp)
  have z0 : w.heap.size < w1.heap.size := by have := hb1.size; first | omega | (simp at this; omega)
  have HBB := Lib.hid ((by repeat (first | with_reducible exact Below.refl _ _ | with_reducible refine Below.setCell ?_ (by first | omega | (simp; done) | (simp; omega)) _ | with_reducible refine Below.drew ?_ | with_reducible refine belowN ?_ _ | with_reducible refine Below.alloc ?_ (by first | omega | (simp; done) | (simp; omega)) _) : Below w.heap.size w _).trans (hb1.mono (by first | omega | (simp; done) | (simp; omega))))
  clear hb1
  go_wp2_with fail
  refine bodyPost_ret (v := realV 8388608 ae) (by simp [results, Tryz.results47, go_sem, c0_0, c0_1]) rfl ⟨rfl, by repeat (first | with_reducible exact HBB.out | with_reducible exact Below.refl _ _ | with_reducible refine Below.drew ?_ | with_reducible refine belowN ?_ _ | with_reducible refine Below.setCell ?_ (by first | omega | (simp; done) | (simp; omega)) _ | with_reducible refine Below.alloc ?_ (by first | omega | (simp; done) | (simp; omega)) _)⟩

set_option maxRecDepth 100000 in
set_option maxHeartbeats 1600000 in
theorem rc_two (n : Int) (w : World) (n0 : 0 ≤ n) (n1 : n ≤ 100) :
    Calls Tryz.prog 50 #[realV 8388608 (n - 23)] w fun r w' => r = .returned (realV (quM 8388608 8388608) (quE 8388608 (-23) (n - 23))) ∧ Below w.heap.size w w' := by
  have HQU := Lib.hid (fun w => quo_any 8388608 (-23) 8388608 (n - 23) w (by decide) (by decide) (by decide) (by decide) (by decide) (by decide) (by omega) (by omega) (by decide))
  have H1 := Lib.hid one_is
  have HZ := Lib.hid (fun w => zero_is (m := 8388608) (e := n - 23) (b := false) (by simp) w)
  generalize quM 8388608 8388608 = am at HQU ⊢
  generalize quE 8388608 (-23) (n - 23) = ae at HQU ⊢
  generalize n - 23 = f at HQU HZ ⊢
  have HB0 := Lib.hid ((by repeat (first | exact Below.refl _ _ | refine Below.alloc ?_ (by simp <;> omega) _) : Below w.heap.size w ((w.alloc (Obj.cells #[Value.int IntKind.i64 8388608, Value.int IntKind.i64 f] 23)).alloc (Obj.cells #[Value.int IntKind.i64 0, Value.int IntKind.i64 0] 44))))
  go_enter Tryz.func50, Tryz.ntmps50
  go_wp2_with fail
  refine (HZ.out _).mono ?_
  rintro r w1 ⟨rfl, hb1⟩
  have f1_0 : w1.frozen? ⟨w.heap.size + 1, 0, none⟩ = false := carryF hb1 (v := .int .i64 0) (by first | with_reducible assumption | go_simp) (by first | with_reducible assumption | go_simp)
  have f1_1 : w1.frozen? ⟨w.heap.size + 1, 1, none⟩ = false := carryF hb1 (v := .int .i64 0) (by first | with_reducible assumption | go_simp) (by first | with_reducible assumption | go_simp)
  have c0_0 : w1.cell? ⟨w.heap.size, 0, none⟩ = some (.int .i64 8388608) := carry hb1 (by first | with_reducible assumption | go_simp)
  have c0_1 : w1.cell? ⟨w.heap.size, 1, none⟩ = some (.int .i64 f) := carry hb1 (by first | with_reducible assumption | go_simp)
  have z0 : w.heap.size < w1.heap.size := by have := hb1.size; first | omega | (simp at this; omega)
  have c1_0 : w1.cell? ⟨w.heap.size + 1, 0, none⟩ = some (.int .i64 0) := carry hb1 (by first | with_reducible assumption | go_simp)
  have c1_1 : w1.cell? ⟨w.heap.size + 1, 1, none⟩ = some (.int .i64 0) := carry hb1 (by first | with_reducible assumption | go_simp)
  have z1 : w.heap.size + 1 < w1.heap.size := by have := hb1.size; first | omega | (simp at this; omega)
  have HBB := Lib.hid ((by repeat (first | with_reducible exact Below.refl _ _ | with_reducible refine Below.setCell ?_ (by first | omega | (simp; done) | (simp; omega)) _ | with_reducible refine Below.drew ?_ | with_reducible refine belowN ?_ _ | with_reducible refine Below.alloc ?_ (by first | omega | (simp; done) | (simp; omega)) _) : Below w.heap.size w _).trans (hb1.mono (by first | omega | (simp; done) | (simp; omega))))
  clear hb1
  go_wp2_with fail
  clear HB0
  have HB0 := HBB
  go_region_held3 (fun wx => wx.cell? ⟨w.heap.size, 0, none⟩ = some (.int .i64 8388608) ∧ wx.cell? ⟨w.heap.size, 1, none⟩ = some (.int .i64 f) ∧ w.heap.size < wx.heap.size ∧ Below w.heap.size w wx) (first | (go_keep; done) | ((try go_split_ands); (repeat' apply And.intro) <;> first | with_reducible assumption | (exact carry hbq (by with_reducible assumption)) | (go_simp; done) | (simp only [World.size_alloc, World.size_drew]; omega) | ((repeat (first | with_reducible assumption | with_reducible exact HB0.out | with_reducible refine Below.drew ?_ | with_reducible refine Below.setCell ?_ (by first | omega | (simp; done) | (simp <;> omega)) _)); done) | (exact Nat.lt_of_lt_of_le (by first | with_reducible assumption | (simp <;> omega)) hbq.size) | (simp <;> omega)))
    (first
      | (go_at_call 9; ((with_reducible refine (H1.out _).mono ?_); rintro r wq ⟨rfl, hbq⟩; have q0 : wq.cell? ⟨w.heap.size + 1, 0, none⟩ = some (.int .i64 0) := carry hbq (by first | with_reducible assumption | go_simp); have qf0 : wq.frozen? ⟨w.heap.size + 1, 0, none⟩ = false := carryF hbq (v := .int .i64 0) (by first | with_reducible assumption | go_simp) (by first | with_reducible assumption | go_simp); have q1 : wq.cell? ⟨w.heap.size + 1, 1, none⟩ = some (.int .i64 0) := carry hbq (by first | with_reducible assumption | go_simp); have qf1 : wq.frozen? ⟨w.heap.size + 1, 1, none⟩ = false := carryF hbq (v := .int .i64 0) (by first | with_reducible assumption | go_simp) (by first | with_reducible assumption | go_simp); have qz : w.heap.size + 1 < wq.heap.size := Nat.lt_of_lt_of_le (by first | with_reducible assumption | (simp <;> omega)) hbq.size; have qb : Below w.heap.size w wq := Below.trans (by first | with_reducible assumption | with_reducible exact HB0.out.drew | with_reducible exact HB0.out | with_reducible exact Below.drew (by with_reducible assumption)) (hbq.mono (by first | omega | (simp <;> omega)))))
      | (go_at_call 39; ((with_reducible refine (HQU.out _).mono ?_); rintro r wq ⟨rfl, hbq⟩; have q0 : wq.cell? ⟨w.heap.size + 1, 0, none⟩ = some (.int .i64 0) := carry hbq (by first | with_reducible assumption | go_simp); have qf0 : wq.frozen? ⟨w.heap.size + 1, 0, none⟩ = false := carryF hbq (v := .int .i64 0) (by first | with_reducible assumption | go_simp) (by first | with_reducible assumption | go_simp); have q1 : wq.cell? ⟨w.heap.size + 1, 1, none⟩ = some (.int .i64 0) := carry hbq (by first | with_reducible assumption | go_simp); have qf1 : wq.frozen? ⟨w.heap.size + 1, 1, none⟩ = false := carryF hbq (v := .int .i64 0) (by first | with_reducible assumption | go_simp) (by first | with_reducible assumption | go_simp); have qz : w.heap.size + 1 < wq.heap.size := Nat.lt_of_lt_of_le (by first | with_reducible assumption | (simp <;> omega)) hbq.size; have qb : Below w.heap.size w wq := Below.trans (by first | with_reducible assumption | with_reducible exact HB0.out.drew | with_reducible exact HB0.out | with_reducible exact Below.drew (by with_reducible assumption)) (hbq.mono (by first | omega | (simp <;> omega))))))
  clear HB0 HBB
  rename _ ∧ _ ∧ _ ∧ Below w.heap.size w _ => hS
  have HBB := Lib.hid hS.2.2.2
  clear hS
  go_wp2_with fail
  refine bodyPost_ret (v := realV am ae) (by simp [results, Tryz.results50, go_sem, q0, q1]) rfl ⟨rfl, by repeat (first | with_reducible exact HBB.out | with_reducible exact Below.refl _ _ | with_reducible refine Below.drew ?_ | with_reducible refine belowN ?_ _ | with_reducible refine Below.setCell ?_ (by first | omega | (simp; done) | (simp; omega)) _ | with_reducible refine Below.alloc ?_ (by first | omega | (simp; done) | (simp; omega)) _)⟩

set_option maxRecDepth 100000 in
set_option maxHeartbeats 1600000 in
theorem p2c (b d : Nat) (n : Nat) (w : World) (c0 : w.cell? ⟨b, 0, none⟩ = some (.int .i64 8388608)) (c1 : w.cell? ⟨b, 1, none⟩ = some (.int .i64 (-22))) (c2 : w.cell? ⟨d, 0, none⟩ = some (.int .u64 (n : Int))) (zb : b < w.heap.size) (zd : d < w.heap.size) (hn : n ≤ 100) :
    Calls Tryz.prog 49 #[.pointer (some ⟨b, 0, none⟩), .pointer (some ⟨d, 0, none⟩)] w fun r w' => r = .returned (realV (quM 8388608 8388608) (quE 8388608 (-23) ((n : Int) - 23))) ∧ Below w.heap.size w w' := by
  have HS := Lib.hid (fun w => power_two n w hn)
  have HR := Lib.hid (fun w => rc_two (n : Int) w (by omega) (by omega))
  generalize quM 8388608 8388608 = am at HR ⊢
  generalize quE 8388608 (-23) ((n : Int) - 23) = ae at HR ⊢
  generalize (n : Int) - 23 = f at HS HR
  go_enter Tryz.func49, Tryz.ntmps49
  go_wp2_with fail
  refine (HS.out _).mono ?_
  rintro r w1 ⟨rfl, hb1⟩
  have f0_0 : w1.frozen? ⟨w.heap.size, 0, none⟩ = false := carryF hb1 (v := .int .i64 0) (by first | with_reducible assumption | go_simp) (by first | with_reducible assumption | go_simp)
  have f0_1 : w1.frozen? ⟨w.heap.size, 1, none⟩ = false := carryF hb1 (v := .int .i64 0) (by first | with_reducible assumption | go_simp) (by first | with_reducible assumption | go_simp)
  have c0_0 : w1.cell? ⟨w.heap.size, 0, none⟩ = some (.int .i64 0) := carry hb1 (by first | with_reducible assumption | go_simp)
  have c0_1 : w1.cell? ⟨w.heap.size, 1, none⟩ = some (.int .i64 0) := carry hb1 (by first | with_reducible assumption | go_simp)
  have z0 : w.heap.size < w1.heap.size := by have := hb1.size; first | omega | (simp at this; omega)
  have HBB := Lib.hid ((by repeat (first | with_reducible exact Below.refl _ _ | with_reducible refine Below.setCell ?_ (by first | omega | (simp; done) | (simp; omega)) _ | with_reducible refine Below.drew ?_ | with_reducible refine belowN ?_ _ | with_reducible refine Below.alloc ?_ (by first | omega | (simp; done) | (simp; omega)) _) : Below w.heap.size w _).trans (hb1.mono (by first | omega | (simp; done) | (simp; omega))))
  clear hb1
  go_wp2_with fail
  refine (HR.out _).mono ?_
  rintro r w2 ⟨rfl, hb2⟩
  have f0_0 : w2.frozen? ⟨w.heap.size, 0, none⟩ = false := carryF hb2 (v := .int .i64 0) (by first | with_reducible assumption | go_simp) (by first | with_reducible assumption | go_simp)
  have f0_1 : w2.frozen? ⟨w.heap.size, 1, none⟩ = false := carryF hb2 (v := .int .i64 0) (by first | with_reducible assumption | go_simp) (by first | with_reducible assumption | go_simp)
  have c0_0 : w2.cell? ⟨w.heap.size, 0, none⟩ = some (.int .i64 0) := carry hb2 (by first | with_reducible assumption | go_simp)
  have c0_1 : w2.cell? ⟨w.heap.size, 1, none⟩ = some (.int .i64 0) := carry hb2 (by first | with_reducible assumption | go_simp)
  have z0 : w.heap.size < w2.heap.size := by have := hb2.size; first | omega | (simp at this; omega)
  have HBB := Lib.hid ((by repeat (first | with_reducible exact HBB.out | with_reducible refine Below.setCell ?_ (by first | omega | (simp; done) | (simp; omega)) _ | with_reducible refine Below.drew ?_ | with_reducible refine belowN ?_ _ | with_reducible refine Below.alloc ?_ (by first | omega | (simp; done) | (simp; omega)) _) : Below w.heap.size w _).trans (hb2.mono (by first | omega | (simp; done) | (simp; omega))))
  clear hb2
  go_wp2_with fail
  refine bodyPost_ret (v := realV am ae) (by simp [results, Tryz.results49, go_sem, c0_0, c0_1]) rfl ⟨rfl, by repeat (first | with_reducible exact HBB.out | with_reducible exact Below.refl _ _ | with_reducible refine Below.drew ?_ | with_reducible refine belowN ?_ _ | with_reducible refine Below.setCell ?_ (by first | omega | (simp; done) | (simp; omega)) _ | with_reducible refine Below.alloc ?_ (by first | omega | (simp; done) | (simp; omega)) _)⟩

end Go.Proofs.YtoofdihnflnaiaaGreatDoor

namespace Go.Proofs.YtoofdihnflnaiaaGreatDoor
open Go.RowKit
set_option linter.unusedVariables false

set_option maxRecDepth 100000 in
set_option maxHeartbeats 1600000 in
theorem pow_up (n : Nat) (hn : n ≤ 100) (w : World) :
    Calls Tryz.prog 23 #[realV 8388608 (-22), .int .i64 (n : Int)] w fun r w' => r = .returned (oV 8388608 ((n : Int) - 23)) ∧ Below w.heap.size w w' := by
  have hmf : ∀ (fn : Fn) (first cap : Array Value) (w : World), (Instr.makeFunc fn first cap).run Tryz.prog w = .ok (.func fn first cap) w := fun _ _ _ _ => rfl
  have HE := Lib.hid (fun caps W => Go.Proofs.enters_of (P := Tryz.prog) Tryz.func47 (by kernel_rfl) rfl caps W)
  have hn0 : (0 : Int) ≤ (n : Int) := by omega
  go_enter Tryz.func23, Tryz.ntmps23
  go_wp2_with fail
  refine (valid_is (show vr 8388608 (-22) = true from by decide) _ (by decide) (by decide)).mono ?_
  rintro r w1 ⟨rfl, hb1⟩
  have f2_0 : w1.frozen? ⟨w.heap.size + 1 + 1, 0, none⟩ = false := carryF hb1 (v := .int .i64 0) (by first | with_reducible assumption | go_simp) (by first | with_reducible assumption | go_simp)
  have f2_1 : w1.frozen? ⟨w.heap.size + 1 + 1, 1, none⟩ = false := carryF hb1 (v := .int .i64 0) (by first | with_reducible assumption | go_simp) (by first | with_reducible assumption | go_simp)
  have c0_0 : w1.cell? ⟨w.heap.size, 0, none⟩ = some (.int .i64 8388608) := carry hb1 (by first | with_reducible assumption | go_simp)
  have c0_1 : w1.cell? ⟨w.heap.size, 1, none⟩ = some (.int .i64 (-22)) := carry hb1 (by first | with_reducible assumption | go_simp)
  have z0 : w.heap.size < w1.heap.size := by have := hb1.size; first | omega | (simp at this; omega)
  have c1_0 : w1.cell? ⟨w.heap.size + 1, 0, none⟩ = some (.int .i64 (n : Int)) := carry hb1 (by first | with_reducible assumption | go_simp)
  have z1 : w.heap.size + 1 < w1.heap.size := by have := hb1.size; first | omega | (simp at this; omega)
  have c2_0 : w1.cell? ⟨w.heap.size + 1 + 1, 0, none⟩ = some (.int .i64 0) := carry hb1 (by first | with_reducible assumption | go_simp)
  have c2_1 : w1.cell? ⟨w.heap.size + 1 + 1, 1, none⟩ = some (.int .i64 0) := carry hb1 (by first | with_reducible assumption | go_simp)
  have z2 : w.heap.size + 1 + 1 < w1.heap.size := by have := hb1.size; first | omega | (simp at this; omega)
  have HBB := Lib.hid ((by repeat (first | with_reducible exact Below.refl _ _ | with_reducible refine Below.setCell ?_ (by first | omega | (simp; done) | (simp; omega)) _ | with_reducible refine Below.drew ?_ | with_reducible refine belowN ?_ _ | with_reducible refine Below.alloc ?_ (by first | omega | (simp; done) | (simp; omega)) _) : Below w.heap.size w _).trans (hb1.mono (by first | omega | (simp; done) | (simp; omega))))
  clear hb1
  go_wp2_with fail
  
  refine (ev_any _ _ 8388608 ((n : Int) - 23) _ (Lib.hid fun W => HE.out _ W) (Lib.hid fun W hW => p1c w.heap.size (w.heap.size + 1) n W (carry hW c0_0) (carry hW c0_1) (carry hW c1_0) (Nat.lt_of_lt_of_le z0 hW.size) (Nat.lt_of_lt_of_le z1 hW.size) hn) (by decide) (by decide) (by omega) (by omega)).mono ?_
  rintro r w9 ⟨rfl, hb9⟩
  have f2_0 : w9.frozen? ⟨w.heap.size + 1 + 1, 0, none⟩ = false := carryF hb9 (v := .int .i64 0) (by first | with_reducible assumption | go_simp) (by first | with_reducible assumption | go_simp)
  have f2_1 : w9.frozen? ⟨w.heap.size + 1 + 1, 1, none⟩ = false := carryF hb9 (v := .int .i64 0) (by first | with_reducible assumption | go_simp) (by first | with_reducible assumption | go_simp)
  have c2_0 : w9.cell? ⟨w.heap.size + 1 + 1, 0, none⟩ = some (.int .i64 0) := carry hb9 (by first | with_reducible assumption | go_simp)
  have c2_1 : w9.cell? ⟨w.heap.size + 1 + 1, 1, none⟩ = some (.int .i64 0) := carry hb9 (by first | with_reducible assumption | go_simp)
  have z2 : w.heap.size + 1 + 1 < w9.heap.size := by have := hb9.size; first | omega | (simp at this; omega)
  have HBB := Lib.hid ((by repeat (first | with_reducible exact HBB.out | with_reducible refine Below.setCell ?_ (by first | omega | (simp; done) | (simp; omega)) _ | with_reducible refine Below.drew ?_ | with_reducible refine belowN ?_ _ | with_reducible refine Below.alloc ?_ (by first | omega | (simp; done) | (simp; omega)) _) : Below w.heap.size w _).trans (hb9.mono (by first | omega | (simp; done) | (simp; omega))))
  clear hb9
  unfold oV
  generalize hm : roM (8388608) ((n : Int) - 23) = am
  generalize he : roE (8388608) ((n : Int) - 23) = ae
  generalize hx : roX (8388608) ((n : Int) - 23) = ax
  have HQ := Lib.hid (And.intro hm (And.intro he hx))
  clear hm he hx
  go_wp2_with fail
  refine bodyPost_ret (v := rE am ae ax) (by simp [results, Tryz.results23, go_sem, c2_0, c2_1]) rfl ⟨by rw [← HQ.out.1, ← HQ.out.2.1, ← HQ.out.2.2], by repeat (first | with_reducible exact HBB.out | with_reducible exact Below.refl _ _ | with_reducible refine Below.drew ?_ | with_reducible refine belowN ?_ _ | with_reducible refine Below.setCell ?_ (by first | omega | (simp; done) | (simp; omega)) _ | with_reducible refine Below.alloc ?_ (by first | omega | (simp; done) | (simp; omega)) _)⟩

set_option maxRecDepth 100000 in
set_option maxHeartbeats 1600000 in
theorem pow_dn (n : Nat) (k : Int) (hk : k = -(n : Int)) (h1 : 1 ≤ n) (hn : n ≤ 100) (w : World) :
    Calls Tryz.prog 23 #[realV 8388608 (-22), .int .i64 k] w fun r w' => r = .returned (oV (quM 8388608 8388608) (quE 8388608 (-23) ((n : Int) - 23))) ∧ Below w.heap.size w w' := by
  have hmf : ∀ (fn : Fn) (first cap : Array Value) (w : World), (Instr.makeFunc fn first cap).run Tryz.prog w = .ok (.func fn first cap) w := fun _ _ _ _ => rfl
  have HE := Lib.hid (fun caps W => Go.Proofs.enters_of (P := Tryz.prog) Tryz.func49 (by kernel_rfl) rfl caps W)
  have hk0 : ¬ (0 : Int) ≤ k := by omega
  have wu1 : IntKind.u64.wrap k = 18446744073709551616 - (n : Int) := by
    unfold IntKind.wrap
    simp [IntKind.signed, IntKind.bits]
    omega
  have wu2 : IntKind.u64.wrap (-(18446744073709551616 - (n : Int))) = (n : Int) := by
    unfold IntKind.wrap
    simp [IntKind.signed, IntKind.bits]
    omega
  have HB1 := Lib.hid (show -9223372036854775808 ≤ quM 8388608 8388608 ∧ quM 8388608 8388608 ≤ 9223372036854775807 ∧ -2000 ≤ quE 8388608 (-23) ((n : Int) - 23) ∧ quE 8388608 (-23) ((n : Int) - 23) ≤ 2000 from by have a := quM_bd 8388608 8388608 (by omega) (by omega) (by omega) (by omega) (by decide); have b := quS_bd 8388608 (by omega) (by omega); unfold quE; omega)
  clear hk
  go_enter Tryz.func23, Tryz.ntmps23
  go_wp2_with fail
  refine (valid_is (show vr 8388608 (-22) = true from by decide) _ (by decide) (by decide)).mono ?_
  rintro r w1 ⟨rfl, hb1⟩
  have f2_0 : w1.frozen? ⟨w.heap.size + 1 + 1, 0, none⟩ = false := carryF hb1 (v := .int .i64 0) (by first | with_reducible assumption | go_simp) (by first | with_reducible assumption | go_simp)
  have f2_1 : w1.frozen? ⟨w.heap.size + 1 + 1, 1, none⟩ = false := carryF hb1 (v := .int .i64 0) (by first | with_reducible assumption | go_simp) (by first | with_reducible assumption | go_simp)
  have c0_0 : w1.cell? ⟨w.heap.size, 0, none⟩ = some (.int .i64 8388608) := carry hb1 (by first | with_reducible assumption | go_simp)
  have c0_1 : w1.cell? ⟨w.heap.size, 1, none⟩ = some (.int .i64 (-22)) := carry hb1 (by first | with_reducible assumption | go_simp)
  have z0 : w.heap.size < w1.heap.size := by have := hb1.size; first | omega | (simp at this; omega)
  have c1_0 : w1.cell? ⟨w.heap.size + 1, 0, none⟩ = some (.int .i64 k) := carry hb1 (by first | with_reducible assumption | go_simp)
  have z1 : w.heap.size + 1 < w1.heap.size := by have := hb1.size; first | omega | (simp at this; omega)
  have c2_0 : w1.cell? ⟨w.heap.size + 1 + 1, 0, none⟩ = some (.int .i64 0) := carry hb1 (by first | with_reducible assumption | go_simp)
  have c2_1 : w1.cell? ⟨w.heap.size + 1 + 1, 1, none⟩ = some (.int .i64 0) := carry hb1 (by first | with_reducible assumption | go_simp)
  have z2 : w.heap.size + 1 + 1 < w1.heap.size := by have := hb1.size; first | omega | (simp at this; omega)
  have HBB := Lib.hid ((by repeat (first | with_reducible exact Below.refl _ _ | with_reducible refine Below.setCell ?_ (by first | omega | (simp; done) | (simp; omega)) _ | with_reducible refine Below.drew ?_ | with_reducible refine belowN ?_ _ | with_reducible refine Below.alloc ?_ (by first | omega | (simp; done) | (simp; omega)) _) : Below w.heap.size w _).trans (hb1.mono (by first | omega | (simp; done) | (simp; omega))))
  clear hb1
  go_wp2_with fail
  refine (zero_is (m := 8388608) (e := -22) (b := false) (by decide) _).mono ?_
  rintro r w2 ⟨rfl, hb2⟩
  have f2_0 : w2.frozen? ⟨w.heap.size + 1 + 1, 0, none⟩ = false := carryF hb2 (v := .int .i64 0) (by first | with_reducible assumption | go_simp) (by first | with_reducible assumption | go_simp)
  have f2_1 : w2.frozen? ⟨w.heap.size + 1 + 1, 1, none⟩ = false := carryF hb2 (v := .int .i64 0) (by first | with_reducible assumption | go_simp) (by first | with_reducible assumption | go_simp)
  have c0_0 : w2.cell? ⟨w.heap.size, 0, none⟩ = some (.int .i64 8388608) := carry hb2 (by first | with_reducible assumption | go_simp)
  have c0_1 : w2.cell? ⟨w.heap.size, 1, none⟩ = some (.int .i64 (-22)) := carry hb2 (by first | with_reducible assumption | go_simp)
  have z0 : w.heap.size < w2.heap.size := by have := hb2.size; first | omega | (simp at this; omega)
  have c1_0 : w2.cell? ⟨w.heap.size + 1, 0, none⟩ = some (.int .i64 k) := carry hb2 (by first | with_reducible assumption | go_simp)
  have z1 : w.heap.size + 1 < w2.heap.size := by have := hb2.size; first | omega | (simp at this; omega)
  have c2_0 : w2.cell? ⟨w.heap.size + 1 + 1, 0, none⟩ = some (.int .i64 0) := carry hb2 (by first | with_reducible assumption | go_simp)
  have c2_1 : w2.cell? ⟨w.heap.size + 1 + 1, 1, none⟩ = some (.int .i64 0) := carry hb2 (by first | with_reducible assumption | go_simp)
  have z2 : w.heap.size + 1 + 1 < w2.heap.size := by have := hb2.size; first | omega | (simp at this; omega)
  have HBB := Lib.hid ((by repeat (first | with_reducible exact HBB.out | with_reducible refine Below.setCell ?_ (by first | omega | (simp; done) | (simp; omega)) _ | with_reducible refine Below.drew ?_ | with_reducible refine belowN ?_ _ | with_reducible refine Below.alloc ?_ (by first | omega | (simp; done) | (simp; omega)) _) : Below w.heap.size w _).trans (hb2.mono (by first | omega | (simp; done) | (simp; omega))))
  clear hb2
  go_wp2_with fail
  have hz3 := HBB.out.size
  refine (ev_any _ _ (quM 8388608 8388608) (quE 8388608 (-23) ((n : Int) - 23)) _ (Lib.hid fun W => HE.out _ W) (Lib.hid fun W hW => p2c w.heap.size w2.heap.size n W (carry hW (by first | with_reducible assumption | go_simp)) (carry hW (by first | with_reducible assumption | go_simp)) (carry hW (by go_simp)) (Nat.lt_of_lt_of_le (by first | assumption | (simp <;> omega)) hW.size) (Nat.lt_of_lt_of_le (by simp <;> omega) hW.size) hn) HB1.out.1 HB1.out.2.1 HB1.out.2.2.1 HB1.out.2.2.2).mono ?_
  rintro r w9 ⟨rfl, hb9⟩
  have f2_0 : w9.frozen? ⟨w.heap.size + 1 + 1, 0, none⟩ = false := carryF hb9 (v := .int .i64 0) (by first | with_reducible assumption | go_simp) (by first | with_reducible assumption | go_simp)
  have f2_1 : w9.frozen? ⟨w.heap.size + 1 + 1, 1, none⟩ = false := carryF hb9 (v := .int .i64 0) (by first | with_reducible assumption | go_simp) (by first | with_reducible assumption | go_simp)
  have c2_0 : w9.cell? ⟨w.heap.size + 1 + 1, 0, none⟩ = some (.int .i64 0) := carry hb9 (by first | with_reducible assumption | go_simp)
  have c2_1 : w9.cell? ⟨w.heap.size + 1 + 1, 1, none⟩ = some (.int .i64 0) := carry hb9 (by first | with_reducible assumption | go_simp)
  have z2 : w.heap.size + 1 + 1 < w9.heap.size := by have := hb9.size; first | omega | (simp at this; omega)
  have HBB := Lib.hid ((by repeat (first | with_reducible exact HBB.out | with_reducible refine Below.setCell ?_ (by first | omega | (simp; done) | (simp; omega)) _ | with_reducible refine Below.drew ?_ | with_reducible refine belowN ?_ _ | with_reducible refine Below.alloc ?_ (by first | omega | (simp; done) | (simp; omega)) _) : Below w.heap.size w _).trans (hb9.mono (by first | omega | (simp; done) | (simp; omega))))
  clear hb9
  unfold oV
  generalize hm : roM (quM 8388608 8388608) (quE 8388608 (-23) ((n : Int) - 23)) = am
  generalize he : roE (quM 8388608 8388608) (quE 8388608 (-23) ((n : Int) - 23)) = ae
  generalize hx : roX (quM 8388608 8388608) (quE 8388608 (-23) ((n : Int) - 23)) = ax
  have HQ := Lib.hid (And.intro hm (And.intro he hx))
  clear hm he hx
  go_wp2_with fail
  refine bodyPost_ret (v := rE am ae ax) (by simp [results, Tryz.results23, go_sem, c2_0, c2_1]) rfl ⟨by rw [← HQ.out.1, ← HQ.out.2.1, ← HQ.out.2.2], by repeat (first | with_reducible exact HBB.out | with_reducible exact Below.refl _ _ | with_reducible refine Below.drew ?_ | with_reducible refine belowN ?_ _ | with_reducible refine Below.setCell ?_ (by first | omega | (simp; done) | (simp; omega)) _ | with_reducible refine Below.alloc ?_ (by first | omega | (simp; done) | (simp; omega)) _)⟩

end Go.Proofs.YtoofdihnflnaiaaGreatDoor

namespace Go.Proofs.YtoofdihnflnaiaaGreatDoor
open Go.RowKit
set_option linter.unusedVariables false

set_option maxRecDepth 100000 in
set_option maxHeartbeats 1600000 in
theorem small_walk (m0 e0 M E a b wm we px xm xe mx : Int) (w : World) (hM : m0.tmod 4096 = M) (hE : e0.tmod 21 = E) (HF : Hid (∀ W : World, Calls Tryz.prog 9 #[.int .i64 M] W fun r w' => r = .returned (realV a b) ∧ Below W.heap.size W w')) (H2 : Hid (∀ W : World, Calls Tryz.prog 9 #[.int .i64 2] W fun r w' => r = .returned (realV 8388608 (-22)) ∧ Below W.heap.size W w')) (HP : Hid (∀ W : World, Calls Tryz.prog 23 #[realV 8388608 (-22), .int .i64 E] W fun r w' => r = .returned (rE wm we px) ∧ Below W.heap.size W w')) (HM1 : Hid (∀ W : World, Calls Tryz.prog 13 #[realV a b, realV wm we] W fun r w' => r = .returned (rE xm xe mx) ∧ Below W.heap.size W w')) :
    Calls Tryz.prog 22 #[.int .i64 m0, .int .i64 e0] w fun r w' => r = .returned (realV xm xe) ∧ Below w.heap.size w w' := by
  go_enter Tryz.func22, Tryz.ntmps22
  go_wp2_with fail
  try rw [hM]
  refine (HF.out _).mono ?_
  rintro e w1 ⟨rfl, hb1⟩
  have r0_1 : w1.cell? ⟨w.heap.size, 0, none⟩ = some (.int .i64 0) := carry hb1 (by go_simp)
  have rf0_1 : w1.frozen? ⟨w.heap.size, 0, none⟩ = false := carryF hb1 (v := .int .i64 0) (by go_simp) (by go_simp)
  have r1_1 : w1.cell? ⟨w.heap.size, 1, none⟩ = some (.int .i64 0) := carry hb1 (by go_simp)
  have rf1_1 : w1.frozen? ⟨w.heap.size, 1, none⟩ = false := carryF hb1 (v := .int .i64 0) (by go_simp) (by go_simp)
  have rz_1 : w.heap.size < w1.heap.size := by have := hb1.size; first | omega | (simp at this; omega)
  have HB_1 := Lib.hid ((by repeat (first | exact Below.refl _ _ | refine Below.drew ?_ | refine Below.setCell ?_ (by first | omega | (simp; done) | (simp; omega)) _ | refine Below.alloc ?_ (by first | omega | (simp; done) | (simp; omega)) _) : Below w.heap.size w _).trans (hb1.mono (by first | omega | (simp; done) | (simp; omega))))
  have nz_1 : w.heap.size ≤ w1.heap.size := HB_1.out.size
  clear hb1
  go_wp2_with fail
  refine (H2.out _).mono ?_
  rintro e w2 ⟨rfl, hb2⟩
  have r0_2 : w2.cell? ⟨w.heap.size, 0, none⟩ = some (.int .i64 0) := carry hb2 (by go_simp)
  have rf0_2 : w2.frozen? ⟨w.heap.size, 0, none⟩ = false := carryF hb2 (v := .int .i64 0) (by go_simp) (by go_simp)
  have r1_2 : w2.cell? ⟨w.heap.size, 1, none⟩ = some (.int .i64 0) := carry hb2 (by go_simp)
  have rf1_2 : w2.frozen? ⟨w.heap.size, 1, none⟩ = false := carryF hb2 (v := .int .i64 0) (by go_simp) (by go_simp)
  have rz_2 : w.heap.size < w2.heap.size := by have := hb2.size; first | omega | (simp at this; omega)
  have a0_2 : w2.cell? ⟨w1.heap.size, 0, none⟩ = some (.int .i64 a) := carry hb2 (by go_simp)
  have a1_2 : w2.cell? ⟨w1.heap.size, 1, none⟩ = some (.int .i64 b) := carry hb2 (by go_simp)
  have az_2 : w1.heap.size < w2.heap.size := by have := hb2.size; first | omega | (simp at this; omega)
  have HB_2 := Lib.hid ((by repeat (first | exact HB_1.out | refine Below.drew ?_ | refine Below.setCell ?_ (by first | omega | (simp; done) | (simp; omega)) _ | refine Below.alloc ?_ (by first | omega | (simp; done) | (simp; omega)) _) : Below w.heap.size w _).trans (hb2.mono (by first | omega | (simp; done) | (simp; omega))))
  have nz_2 : w.heap.size ≤ w2.heap.size := HB_2.out.size
  clear hb2 r0_1 rf0_1 r1_1 rf1_1 HB_1
  go_wp2_with fail
  try rw [hE]
  refine (HP.out _).mono ?_
  rintro e w3 ⟨rfl, hb3⟩
  have r0_3 : w3.cell? ⟨w.heap.size, 0, none⟩ = some (.int .i64 0) := carry hb3 (by go_simp)
  have rf0_3 : w3.frozen? ⟨w.heap.size, 0, none⟩ = false := carryF hb3 (v := .int .i64 0) (by go_simp) (by go_simp)
  have r1_3 : w3.cell? ⟨w.heap.size, 1, none⟩ = some (.int .i64 0) := carry hb3 (by go_simp)
  have rf1_3 : w3.frozen? ⟨w.heap.size, 1, none⟩ = false := carryF hb3 (v := .int .i64 0) (by go_simp) (by go_simp)
  have rz_3 : w.heap.size < w3.heap.size := by have := hb3.size; first | omega | (simp at this; omega)
  have a0_3 : w3.cell? ⟨w1.heap.size, 0, none⟩ = some (.int .i64 a) := carry hb3 (by go_simp)
  have a1_3 : w3.cell? ⟨w1.heap.size, 1, none⟩ = some (.int .i64 b) := carry hb3 (by go_simp)
  have az_3 : w1.heap.size < w3.heap.size := by have := hb3.size; first | omega | (simp at this; omega)
  have HB_3 := Lib.hid ((by repeat (first | exact HB_2.out | refine Below.drew ?_ | refine Below.setCell ?_ (by first | omega | (simp; done) | (simp; omega)) _ | refine Below.alloc ?_ (by first | omega | (simp; done) | (simp; omega)) _) : Below w.heap.size w _).trans (hb3.mono (by first | omega | (simp; done) | (simp; omega))))
  have nz_3 : w.heap.size ≤ w3.heap.size := HB_3.out.size
  clear hb3 r0_2 rf0_2 r1_2 rf1_2 a0_2 a1_2 HB_2
  go_wp2_with fail
  refine (HM1.out _).mono ?_
  rintro e w4 ⟨rfl, hb4⟩
  have r0_4 : w4.cell? ⟨w.heap.size, 0, none⟩ = some (.int .i64 0) := carry hb4 (by go_simp)
  have rf0_4 : w4.frozen? ⟨w.heap.size, 0, none⟩ = false := carryF hb4 (v := .int .i64 0) (by go_simp) (by go_simp)
  have r1_4 : w4.cell? ⟨w.heap.size, 1, none⟩ = some (.int .i64 0) := carry hb4 (by go_simp)
  have rf1_4 : w4.frozen? ⟨w.heap.size, 1, none⟩ = false := carryF hb4 (v := .int .i64 0) (by go_simp) (by go_simp)
  have rz_4 : w.heap.size < w4.heap.size := by have := hb4.size; first | omega | (simp at this; omega)
  have a0_4 : w4.cell? ⟨w1.heap.size, 0, none⟩ = some (.int .i64 a) := carry hb4 (by go_simp)
  have a1_4 : w4.cell? ⟨w1.heap.size, 1, none⟩ = some (.int .i64 b) := carry hb4 (by go_simp)
  have az_4 : w1.heap.size < w4.heap.size := by have := hb4.size; first | omega | (simp at this; omega)
  have p0_4 : w4.cell? ⟨w3.heap.size, 0, none⟩ = some (.int .i64 wm) := carry hb4 (by go_simp)
  have p1_4 : w4.cell? ⟨w3.heap.size, 1, none⟩ = some (.int .i64 we) := carry hb4 (by go_simp)
  have pz_4 : w3.heap.size < w4.heap.size := by have := hb4.size; first | omega | (simp at this; omega)
  have HB_4 := Lib.hid ((by repeat (first | exact HB_3.out | refine Below.drew ?_ | refine Below.setCell ?_ (by first | omega | (simp; done) | (simp; omega)) _ | refine Below.alloc ?_ (by first | omega | (simp; done) | (simp; omega)) _) : Below w.heap.size w _).trans (hb4.mono (by first | omega | (simp; done) | (simp; omega))))
  have nz_4 : w.heap.size ≤ w4.heap.size := HB_4.out.size
  clear hb4 r0_3 rf0_3 r1_3 rf1_3 a0_3 a1_3 HB_3
  go_wp2_with fail
  refine bodyPost_ret (v := realV xm xe) (by simp [results, Tryz.results22, go_sem, r0_4, r1_4, rz_4]) rfl ⟨rfl, by repeat (first | with_reducible exact HB_4.out | with_reducible exact Below.refl _ _ | with_reducible refine Below.drew ?_ | with_reducible refine belowN ?_ _ | with_reducible refine Below.setCell ?_ (by first | omega | (simp; done) | (simp; omega)) _ | with_reducible refine Below.alloc ?_ (by first | omega | (simp; done) | (simp; omega)) _)⟩

end Go.Proofs.YtoofdihnflnaiaaGreatDoor

namespace Go.Proofs.YtoofdihnflnaiaaGreatDoor.realExact
open Go.RowKit
set_option linter.unusedVariables false

theorem carry_two {wa wq : World} {T : TypeId} (h : Below (wa.alloc (.cells #[.int .i64 0, .int .i64 0] T)).drew.heap.size (wa.alloc (.cells #[.int .i64 0, .int .i64 0] T)).drew wq) :
    wq.cell? ⟨wa.heap.size, 0, none⟩ = some (.int .i64 0) ∧ wq.cell? ⟨wa.heap.size, 1, none⟩ = some (.int .i64 0) ∧ wq.frozen? ⟨wa.heap.size, 0, none⟩ = false ∧ wq.frozen? ⟨wa.heap.size, 1, none⟩ = false ∧ wa.heap.size < wq.heap.size :=
  ⟨carry h (by go_simp), carry h (by go_simp), carryF h (v := .int .i64 0) (by go_simp) (by go_simp), carryF h (v := .int .i64 0) (by go_simp) (by go_simp), by have := h.size; simp at this; omega⟩

theorem carry_two' {wa wq : World} {T : TypeId} (h : Below (wa.alloc (.cells #[.int .i64 0, .int .i64 0] T)).heap.size (wa.alloc (.cells #[.int .i64 0, .int .i64 0] T)) wq) :
    wq.cell? ⟨wa.heap.size, 0, none⟩ = some (.int .i64 0) ∧ wq.cell? ⟨wa.heap.size, 1, none⟩ = some (.int .i64 0) ∧ wq.frozen? ⟨wa.heap.size, 0, none⟩ = false ∧ wq.frozen? ⟨wa.heap.size, 1, none⟩ = false ∧ wa.heap.size < wq.heap.size :=
  ⟨carry h (by go_simp), carry h (by go_simp), carryF h (v := .int .i64 0) (by go_simp) (by go_simp), carryF h (v := .int .i64 0) (by go_simp) (by go_simp), by have := h.size; simp at this; omega⟩

set_option maxRecDepth 100000 in
set_option maxHeartbeats 8000000 in
theorem ez (m0 e0 n0 f0 M Nn t MN xm xe ym ye wm we a b : Int) (w : World) (ht : IntKind.i64.wrap (e0.tmod 21 + f0.tmod 21) = t) (hMN : IntKind.i64.wrap (m0.tmod 4096 * n0.tmod 4096) = MN) (hN : (n0.tmod 4096 == 0) = true) (HX : Hid (∀ W : World, Calls Tryz.prog 22 #[.int .i64 m0, .int .i64 e0] W fun r w' => r = .returned (realV xm xe) ∧ Below W.heap.size W w')) (HY : Hid (∀ W : World, Calls Tryz.prog 22 #[.int .i64 n0, .int .i64 f0] W fun r w' => r = .returned (realV ym ye) ∧ Below W.heap.size W w')) (HM1 : Hid (∀ W : World, Calls Tryz.prog 13 #[realV xm xe, realV ym ye] W fun r w' => r = .returned (rE 0 0 0) ∧ Below W.heap.size W w')) (H2 : Hid (∀ W : World, Calls Tryz.prog 9 #[.int .i64 2] W fun r w' => r = .returned (realV 8388608 (-22)) ∧ Below W.heap.size W w')) (HP : Hid (∀ W : World, Calls Tryz.prog 23 #[realV 8388608 (-22), .int .i64 t] W fun r w' => r = .returned (rE wm we 0) ∧ Below W.heap.size W w')) (HF2 : Hid (∀ W : World, Calls Tryz.prog 9 #[.int .i64 MN] W fun r w' => r = .returned (realV a b) ∧ Below W.heap.size W w')) (HM2 : Hid (∀ W : World, Calls Tryz.prog 13 #[realV a b, realV wm we] W fun r w' => r = .returned (rE 0 0 0) ∧ Below W.heap.size W w')) (HSan : Hid (∀ W, Below w.heap.size w W → Calls Tryz.prog 19 #[] W fun r W' => r = .returned (.bool true) ∧ Below W.heap.size W W'))  :
    Calls Tryz.prog 5 #[.int .i64 m0, .int .i64 e0, .int .i64 n0, .int .i64 f0] w fun r w' => r = .returned (.bool true) ∧ Below w.heap.size w w' := by
  go_enter Tryz.func5, Tryz.ntmps5
  go_wp2_with fail
  refine (HX.out _).mono ?_
  rintro e w1 ⟨rfl, hb1⟩
  have HB_1 := Lib.hid ((by repeat (first | exact Below.refl _ _ | refine Below.drew ?_ | refine Below.setCell ?_ (by first | omega | (simp; done) | (simp; omega)) _ | refine Below.alloc ?_ (by first | omega | (simp; done) | (simp; omega)) _) : Below w.heap.size w _).trans (hb1.mono (by first | omega | (simp; done) | (simp; omega))))
  have nz_1 : w.heap.size ≤ w1.heap.size := HB_1.out.size
  clear hb1
  go_wp2_with fail
  refine (HY.out _).mono ?_
  rintro e w2 ⟨rfl, hb2⟩
  have x0_2 : w2.cell? ⟨w1.heap.size, 0, none⟩ = some (.int .i64 xm) := carry hb2 (by go_simp)
  have x1_2 : w2.cell? ⟨w1.heap.size, 1, none⟩ = some (.int .i64 xe) := carry hb2 (by go_simp)
  have xz_2 : w1.heap.size < w2.heap.size := by have := hb2.size; first | omega | (simp at this; omega)
  have HB_2 := Lib.hid ((by repeat (first | exact HB_1.out | refine Below.drew ?_ | refine Below.setCell ?_ (by first | omega | (simp; done) | (simp; omega)) _ | refine Below.alloc ?_ (by first | omega | (simp; done) | (simp; omega)) _) : Below w.heap.size w _).trans (hb2.mono (by first | omega | (simp; done) | (simp; omega))))
  have nz_2 : w.heap.size ≤ w2.heap.size := HB_2.out.size
  clear hb2 HB_1
  go_wp2_with fail
  refine (HM1.out _).mono ?_
  rintro e w3 ⟨rfl, hb3⟩
  have x0_3 : w3.cell? ⟨w1.heap.size, 0, none⟩ = some (.int .i64 xm) := carry hb3 (by go_simp)
  have x1_3 : w3.cell? ⟨w1.heap.size, 1, none⟩ = some (.int .i64 xe) := carry hb3 (by go_simp)
  have xz_3 : w1.heap.size < w3.heap.size := by have := hb3.size; first | omega | (simp at this; omega)
  have y0_3 : w3.cell? ⟨w2.heap.size, 0, none⟩ = some (.int .i64 ym) := carry hb3 (by go_simp)
  have y1_3 : w3.cell? ⟨w2.heap.size, 1, none⟩ = some (.int .i64 ye) := carry hb3 (by go_simp)
  have yz_3 : w2.heap.size < w3.heap.size := by have := hb3.size; first | omega | (simp at this; omega)
  have HB_3 := Lib.hid ((by repeat (first | exact HB_2.out | refine Below.drew ?_ | refine Below.setCell ?_ (by first | omega | (simp; done) | (simp; omega)) _ | refine Below.alloc ?_ (by first | omega | (simp; done) | (simp; omega)) _) : Below w.heap.size w _).trans (hb3.mono (by first | omega | (simp; done) | (simp; omega))))
  have nz_3 : w.heap.size ≤ w3.heap.size := HB_3.out.size
  clear hb3 x0_2 x1_2 HB_2
  go_wp2_with fail
  refine (H2.out _).mono ?_
  rintro e w4 ⟨rfl, hb4⟩
  have x0_4 : w4.cell? ⟨w1.heap.size, 0, none⟩ = some (.int .i64 xm) := carry hb4 (by go_simp)
  have x1_4 : w4.cell? ⟨w1.heap.size, 1, none⟩ = some (.int .i64 xe) := carry hb4 (by go_simp)
  have xz_4 : w1.heap.size < w4.heap.size := by have := hb4.size; first | omega | (simp at this; omega)
  have y0_4 : w4.cell? ⟨w2.heap.size, 0, none⟩ = some (.int .i64 ym) := carry hb4 (by go_simp)
  have y1_4 : w4.cell? ⟨w2.heap.size, 1, none⟩ = some (.int .i64 ye) := carry hb4 (by go_simp)
  have yz_4 : w2.heap.size < w4.heap.size := by have := hb4.size; first | omega | (simp at this; omega)
  have p0_4 : w4.cell? ⟨w3.heap.size, 0, none⟩ = some (.int .i64 0) := carry hb4 (by go_simp)
  have p1_4 : w4.cell? ⟨w3.heap.size, 1, none⟩ = some (.int .i64 0) := carry hb4 (by go_simp)
  have pz_4 : w3.heap.size < w4.heap.size := by have := hb4.size; first | omega | (simp at this; omega)
  have HB_4 := Lib.hid ((by repeat (first | exact HB_3.out | refine Below.drew ?_ | refine Below.setCell ?_ (by first | omega | (simp; done) | (simp; omega)) _ | refine Below.alloc ?_ (by first | omega | (simp; done) | (simp; omega)) _) : Below w.heap.size w _).trans (hb4.mono (by first | omega | (simp; done) | (simp; omega))))
  have nz_4 : w.heap.size ≤ w4.heap.size := HB_4.out.size
  clear hb4 x0_3 x1_3 y0_3 y1_3 HB_3
  go_wp2_with fail
  try rw [ht]
  refine (HP.out _).mono ?_
  rintro e w5 ⟨rfl, hb5⟩
  have x0_5 : w5.cell? ⟨w1.heap.size, 0, none⟩ = some (.int .i64 xm) := carry hb5 (by go_simp)
  have x1_5 : w5.cell? ⟨w1.heap.size, 1, none⟩ = some (.int .i64 xe) := carry hb5 (by go_simp)
  have xz_5 : w1.heap.size < w5.heap.size := by have := hb5.size; first | omega | (simp at this; omega)
  have y0_5 : w5.cell? ⟨w2.heap.size, 0, none⟩ = some (.int .i64 ym) := carry hb5 (by go_simp)
  have y1_5 : w5.cell? ⟨w2.heap.size, 1, none⟩ = some (.int .i64 ye) := carry hb5 (by go_simp)
  have yz_5 : w2.heap.size < w5.heap.size := by have := hb5.size; first | omega | (simp at this; omega)
  have p0_5 : w5.cell? ⟨w3.heap.size, 0, none⟩ = some (.int .i64 0) := carry hb5 (by go_simp)
  have p1_5 : w5.cell? ⟨w3.heap.size, 1, none⟩ = some (.int .i64 0) := carry hb5 (by go_simp)
  have pz_5 : w3.heap.size < w5.heap.size := by have := hb5.size; first | omega | (simp at this; omega)
  have HB_5 := Lib.hid ((by repeat (first | exact HB_4.out | refine Below.drew ?_ | refine Below.setCell ?_ (by first | omega | (simp; done) | (simp; omega)) _ | refine Below.alloc ?_ (by first | omega | (simp; done) | (simp; omega)) _) : Below w.heap.size w _).trans (hb5.mono (by first | omega | (simp; done) | (simp; omega))))
  have nz_5 : w.heap.size ≤ w5.heap.size := HB_5.out.size
  clear hb5 x0_4 x1_4 y0_4 y1_4 p0_4 p1_4 HB_4
  go_wp2_with fail
  generalize hW : w5.alloc _ = wk
  have kx0 : wk.cell? ⟨w1.heap.size, 0, none⟩ = some (.int .i64 xm) := by rw [← hW]; clear hW; go_simp
  have kx1 : wk.cell? ⟨w1.heap.size, 1, none⟩ = some (.int .i64 (xe)) := by rw [← hW]; clear hW; go_simp
  have kxz : w1.heap.size < wk.heap.size := by rw [← hW]; clear hW; simp <;> omega
  have ky0 : wk.cell? ⟨w2.heap.size, 0, none⟩ = some (.int .i64 (ym)) := by rw [← hW]; clear hW; go_simp
  have ky1 : wk.cell? ⟨w2.heap.size, 1, none⟩ = some (.int .i64 (ye)) := by rw [← hW]; clear hW; go_simp
  have kyz : w2.heap.size < wk.heap.size := by rw [← hW]; clear hW; simp <;> omega
  have kp0 : wk.cell? ⟨w3.heap.size, 0, none⟩ = some (.int .i64 0) := by rw [← hW]; clear hW; go_simp
  have kp1 : wk.cell? ⟨w3.heap.size, 1, none⟩ = some (.int .i64 0) := by rw [← hW]; clear hW; go_simp
  have kpz : w3.heap.size < wk.heap.size := by rw [← hW]; clear hW; simp <;> omega
  have kv0 : wk.cell? ⟨w5.heap.size, 0, none⟩ = some (.int .i64 (wm)) := by rw [← hW]; clear hW; go_simp
  have kv1 : wk.cell? ⟨w5.heap.size, 1, none⟩ = some (.int .i64 (we)) := by rw [← hW]; clear hW; go_simp
  have kvz : w5.heap.size < wk.heap.size := by rw [← hW]; clear hW; simp <;> omega
  have HBk := Lib.hid (show Below w.heap.size w wk from by rw [← hW]; exact HB_5.out.alloc HB_5.out.size _)
  clear hW x0_5 x1_5 y0_5 y1_5 p0_5 p1_5 HB_5 nz_1 nz_2 nz_3 nz_4 nz_5 xz_2 xz_3 xz_4 xz_5 yz_3 yz_4 yz_5 pz_4 pz_5
  try rw [hMN]
  have K0 := Lib.hid (Below.refl wk.heap.size wk)
  have SK := Lib.hid (show ∀ wx, Below wk.heap.size wk wx → wx.cell? ⟨w5.heap.size, 0, none⟩ = some (.int .i64 wm) ∧ wx.cell? ⟨w5.heap.size, 1, none⟩ = some (.int .i64 we) ∧ wk.heap.size ≤ wx.heap.size ∧ Below wk.heap.size wk wx from fun wx h => ⟨carry h kv0, carry h kv1, h.size, h⟩)
  go_region_held3 (fun wx => wx.cell? ⟨w5.heap.size, 0, none⟩ = some (.int .i64 wm) ∧ wx.cell? ⟨w5.heap.size, 1, none⟩ = some (.int .i64 we) ∧ wk.heap.size ≤ wx.heap.size ∧ Below wk.heap.size wk wx) (((try go_split_ands); exact SK.out _ (by repeat (first | with_reducible assumption | with_reducible exact K0.out | with_reducible refine Below.drew ?_ | with_reducible refine Below.setCell ?_ (by first | with_reducible exact Nat.le_refl _ | with_reducible assumption | (simp; done) | (simp <;> omega) | (have := hbq.size; simp at this ⊢; omega)) _ | with_reducible refine Below.alloc ?_ (by first | with_reducible exact Nat.le_refl _ | with_reducible assumption | (simp; done) | (simp <;> omega) | (have := hbq.size; simp at this ⊢; omega)) _))))
  (first
      | (go_at_call 9; ((with_reducible refine (HF2.out _).mono ?_); rintro r wF ⟨rfl, hbq⟩; have hbw : Below wk.heap.size wk wF := (by first | exact K0.out.drew.trans hbq | exact K0.out.trans hbq | exact (K0.out.alloc (Nat.le_refl _) _).drew.trans (hbq.mono (by simp)) | exact (K0.out.drew.alloc (Nat.le_refl _) _).trans (hbq.mono (by simp)) | exact (K0.out.alloc (Nat.le_refl _) _).trans (hbq.mono (by simp))); have hzw : wk.heap.size ≤ wF.heap.size := hbw.size; try (have qq := carry_two hbq; obtain ⟨q0, q1, t0, t1, tz⟩ := qq); try (have qq := carry_two' hbq; obtain ⟨q0, q1, t0, t1, tz⟩ := qq)))
      | (go_at_call 13; ((with_reducible refine (HM2.out _).mono ?_); rintro r wS ⟨rfl, hbq⟩; have qq := carry_two' hbq; obtain ⟨q0, q1, t0, t1, tz⟩ := qq; have hbv : Below wk.heap.size wk wS := (hbw.alloc hzw _).trans (hbq.mono (by simp <;> omega)); have hzv : wk.heap.size ≤ wS.heap.size := hbv.size))
      | (go_at_call 13; ((with_reducible refine (HM2.out _).mono ?_); rintro r wS ⟨rfl, hbq⟩; have p0 := carry hbq q0; have p1 := carry hbq q1; have s0 := carryF hbq q0 t0; have s1 := carryF hbq q1 t1; have sz := Nat.lt_of_lt_of_le tz hbq.size; have hbv : Below wk.heap.size wk wS := hbw.trans (hbq.mono hzw); have hzv : wk.heap.size ≤ wS.heap.size := hbv.size))
      | (go_at_call 13; ((with_reducible refine (HM2.out _).mono ?_); rintro r wS ⟨rfl, hbq⟩; have hbv : Below wk.heap.size wk wS := hbw.trans (hbq.mono hzw); have hzv : wk.heap.size ≤ wS.heap.size := hbv.size)))
  · have HBS := Lib.hid (HBk.out.trans (hbv.mono HBk.out.size))
    have hwk := HBk.out.size
    have hwS := HBS.out.size
    have hbB : wk.heap.size ≤ wS.heap.size := by omega
    have sx0 := carry hbv kx0
    have sx1 := carry hbv kx1
    have sxz : w1.heap.size < wS.heap.size := Nat.lt_of_lt_of_le kxz hzv
    have sxn : ¬ w1.heap.size = wS.heap.size := by omega
    have sxm : ¬ wS.heap.size = w1.heap.size := by omega
    have sy0 := carry hbv ky0
    have sy1 := carry hbv ky1
    have syz : w2.heap.size < wS.heap.size := Nat.lt_of_lt_of_le kyz hzv
    have syn : ¬ w2.heap.size = wS.heap.size := by omega
    have sym : ¬ wS.heap.size = w2.heap.size := by omega
    have sp0 := carry hbv kp0
    have sp1 := carry hbv kp1
    have spz : w3.heap.size < wS.heap.size := Nat.lt_of_lt_of_le kpz hzv
    have spn : ¬ w3.heap.size = wS.heap.size := by omega
    have spm : ¬ wS.heap.size = w3.heap.size := by omega
    generalize hW : wS.alloc _ = w9
    have x0_9 : w9.cell? ⟨w1.heap.size, 0, none⟩ = some (.int .i64 xm) := by rw [← hW]; clear hW; go_simp
    have x1_9 : w9.cell? ⟨w1.heap.size, 1, none⟩ = some (.int .i64 xe) := by rw [← hW]; clear hW; go_simp
    have xz_9 : w1.heap.size < w9.heap.size := by rw [← hW]; clear hW; simp <;> omega
    have y0_9 : w9.cell? ⟨w2.heap.size, 0, none⟩ = some (.int .i64 ym) := by rw [← hW]; clear hW; go_simp
    have y1_9 : w9.cell? ⟨w2.heap.size, 1, none⟩ = some (.int .i64 ye) := by rw [← hW]; clear hW; go_simp
    have yz_9 : w2.heap.size < w9.heap.size := by rw [← hW]; clear hW; simp <;> omega
    have p0_9 : w9.cell? ⟨w3.heap.size, 0, none⟩ = some (.int .i64 0) := by rw [← hW]; clear hW; go_simp
    have p1_9 : w9.cell? ⟨w3.heap.size, 1, none⟩ = some (.int .i64 0) := by rw [← hW]; clear hW; go_simp
    have pz_9 : w3.heap.size < w9.heap.size := by rw [← hW]; clear hW; simp <;> omega
    have d0 : w9.cell? ⟨wS.heap.size, 0, none⟩ = some (.int .i64 0) := by rw [← hW]; clear hW; go_simp
    have d1 : w9.cell? ⟨wS.heap.size, 1, none⟩ = some (.int .i64 0) := by rw [← hW]; clear hW; go_simp
    have zd : wS.heap.size < w9.heap.size := by rw [← hW]; clear hW; simp <;> omega
    have HBX := Lib.hid ((by rw [← hW]; clear hW; have HBB := HBS; repeat (first | with_reducible exact HBB.out | with_reducible exact Below.refl _ _ | with_reducible refine Below.drew ?_ | with_reducible refine belowN ?_ _ | with_reducible refine Below.setCell ?_ (by first | omega | (simp; done) | (simp; omega)) _ | with_reducible refine Below.alloc ?_ (by first | omega | (simp; done) | (simp; omega)) _)) : Below w.heap.size w w9)
    clear hW
    obtain ⟨b9, hb9⟩ : ∃ b, b = wS.heap.size := ⟨_, rfl⟩
    rw [← hb9] at d0 d1 zd ⊢
    clear hb9
    clear HBS hwk hwS hbB sx0 sx1 sxz sxn sxm kx0 kx1 kxz sy0 sy1 syz syn sym ky0 ky1 kyz sp0 sp1 spz spn spm kp0 kp1 kpz kv0 kv1 kvz HBk K0 SK
    go_wp2_with fail
    refine (HSan.out _ HBX.out).mono ?_
    rintro r wz ⟨rfl, hbz⟩
    have p0z := carry hbz p0_9
    have p1z := carry hbz p1_9
    have HBZ := Lib.hid (HBX.out.trans (hbz.mono HBX.out.size))
    clear hbz p0_9 p1_9 d0 d1 x0_9 x1_9 y0_9 y1_9
    go_wp2_with fail
    go_ret
    exact ⟨rfl, HBZ.out⟩
  · have HBS := Lib.hid (HBk.out.trans (hbv.mono HBk.out.size))
    have hwk := HBk.out.size
    have hwS := HBS.out.size
    have hbB : wk.heap.size ≤ wF.heap.size := by omega
    have sx0 := carry hbv kx0
    have sx1 := carry hbv kx1
    have sxz : w1.heap.size < wS.heap.size := Nat.lt_of_lt_of_le kxz hzv
    have sxn : ¬ w1.heap.size = wF.heap.size := by omega
    have sxm : ¬ wF.heap.size = w1.heap.size := by omega
    have sy0 := carry hbv ky0
    have sy1 := carry hbv ky1
    have syz : w2.heap.size < wS.heap.size := Nat.lt_of_lt_of_le kyz hzv
    have syn : ¬ w2.heap.size = wF.heap.size := by omega
    have sym : ¬ wF.heap.size = w2.heap.size := by omega
    have sp0 := carry hbv kp0
    have sp1 := carry hbv kp1
    have spz : w3.heap.size < wS.heap.size := Nat.lt_of_lt_of_le kpz hzv
    have spn : ¬ w3.heap.size = wF.heap.size := by omega
    have spm : ¬ wF.heap.size = w3.heap.size := by omega
    generalize hW : (wS.setCell _ _).setCell _ _ = w9
    have x0_9 : w9.cell? ⟨w1.heap.size, 0, none⟩ = some (.int .i64 xm) := by rw [← hW]; clear hW; go_simp
    have x1_9 : w9.cell? ⟨w1.heap.size, 1, none⟩ = some (.int .i64 xe) := by rw [← hW]; clear hW; go_simp
    have xz_9 : w1.heap.size < w9.heap.size := by rw [← hW]; clear hW; simp <;> omega
    have y0_9 : w9.cell? ⟨w2.heap.size, 0, none⟩ = some (.int .i64 ym) := by rw [← hW]; clear hW; go_simp
    have y1_9 : w9.cell? ⟨w2.heap.size, 1, none⟩ = some (.int .i64 ye) := by rw [← hW]; clear hW; go_simp
    have yz_9 : w2.heap.size < w9.heap.size := by rw [← hW]; clear hW; simp <;> omega
    have p0_9 : w9.cell? ⟨w3.heap.size, 0, none⟩ = some (.int .i64 0) := by rw [← hW]; clear hW; go_simp
    have p1_9 : w9.cell? ⟨w3.heap.size, 1, none⟩ = some (.int .i64 0) := by rw [← hW]; clear hW; go_simp
    have pz_9 : w3.heap.size < w9.heap.size := by rw [← hW]; clear hW; simp <;> omega
    have d0 : w9.cell? ⟨wF.heap.size, 0, none⟩ = some (.int .i64 0) := by rw [← hW]; clear hW; go_simp
    have d1 : w9.cell? ⟨wF.heap.size, 1, none⟩ = some (.int .i64 0) := by rw [← hW]; clear hW; go_simp
    have zd : wF.heap.size < w9.heap.size := by rw [← hW]; clear hW; simp <;> omega
    have HBX := Lib.hid ((by rw [← hW]; clear hW; have HBB := HBS; repeat (first | with_reducible exact HBB.out | with_reducible exact Below.refl _ _ | with_reducible refine Below.drew ?_ | with_reducible refine belowN ?_ _ | with_reducible refine Below.setCell ?_ (by first | omega | (simp; done) | (simp; omega)) _ | with_reducible refine Below.alloc ?_ (by first | omega | (simp; done) | (simp; omega)) _)) : Below w.heap.size w w9)
    clear hW
    obtain ⟨b9, hb9⟩ : ∃ b, b = wF.heap.size := ⟨_, rfl⟩
    rw [← hb9] at d0 d1 zd ⊢
    clear hb9
    clear HBS hwk hwS hbB sx0 sx1 sxz sxn sxm kx0 kx1 kxz sy0 sy1 syz syn sym ky0 ky1 kyz sp0 sp1 spz spn spm kp0 kp1 kpz kv0 kv1 kvz HBk K0 SK
    go_wp2_with fail
    refine (HSan.out _ HBX.out).mono ?_
    rintro r wz ⟨rfl, hbz⟩
    have p0z := carry hbz p0_9
    have p1z := carry hbz p1_9
    have HBZ := Lib.hid (HBX.out.trans (hbz.mono HBX.out.size))
    clear hbz p0_9 p1_9 d0 d1 x0_9 x1_9 y0_9 y1_9
    go_wp2_with fail
    go_ret
    exact ⟨rfl, HBZ.out⟩
  · have HBS := Lib.hid (HBk.out.trans (hbv.mono HBk.out.size))
    have hwk := HBk.out.size
    have hwS := HBS.out.size
    have hbB : wk.heap.size ≤ wk.heap.size := by omega
    have sx0 := carry hbv kx0
    have sx1 := carry hbv kx1
    have sxz : w1.heap.size < wS.heap.size := Nat.lt_of_lt_of_le kxz hzv
    have sxn : ¬ w1.heap.size = wk.heap.size := by omega
    have sxm : ¬ wk.heap.size = w1.heap.size := by omega
    have sy0 := carry hbv ky0
    have sy1 := carry hbv ky1
    have syz : w2.heap.size < wS.heap.size := Nat.lt_of_lt_of_le kyz hzv
    have syn : ¬ w2.heap.size = wk.heap.size := by omega
    have sym : ¬ wk.heap.size = w2.heap.size := by omega
    have sp0 := carry hbv kp0
    have sp1 := carry hbv kp1
    have spz : w3.heap.size < wS.heap.size := Nat.lt_of_lt_of_le kpz hzv
    have spn : ¬ w3.heap.size = wk.heap.size := by omega
    have spm : ¬ wk.heap.size = w3.heap.size := by omega
    generalize hW : (wS.setCell _ _).setCell _ _ = w9
    have x0_9 : w9.cell? ⟨w1.heap.size, 0, none⟩ = some (.int .i64 xm) := by rw [← hW]; clear hW; go_simp
    have x1_9 : w9.cell? ⟨w1.heap.size, 1, none⟩ = some (.int .i64 xe) := by rw [← hW]; clear hW; go_simp
    have xz_9 : w1.heap.size < w9.heap.size := by rw [← hW]; clear hW; simp <;> omega
    have y0_9 : w9.cell? ⟨w2.heap.size, 0, none⟩ = some (.int .i64 ym) := by rw [← hW]; clear hW; go_simp
    have y1_9 : w9.cell? ⟨w2.heap.size, 1, none⟩ = some (.int .i64 ye) := by rw [← hW]; clear hW; go_simp
    have yz_9 : w2.heap.size < w9.heap.size := by rw [← hW]; clear hW; simp <;> omega
    have p0_9 : w9.cell? ⟨w3.heap.size, 0, none⟩ = some (.int .i64 0) := by rw [← hW]; clear hW; go_simp
    have p1_9 : w9.cell? ⟨w3.heap.size, 1, none⟩ = some (.int .i64 0) := by rw [← hW]; clear hW; go_simp
    have pz_9 : w3.heap.size < w9.heap.size := by rw [← hW]; clear hW; simp <;> omega
    have d0 : w9.cell? ⟨wk.heap.size, 0, none⟩ = some (.int .i64 0) := by rw [← hW]; clear hW; go_simp
    have d1 : w9.cell? ⟨wk.heap.size, 1, none⟩ = some (.int .i64 0) := by rw [← hW]; clear hW; go_simp
    have zd : wk.heap.size < w9.heap.size := by rw [← hW]; clear hW; simp <;> omega
    have HBX := Lib.hid ((by rw [← hW]; clear hW; have HBB := HBS; repeat (first | with_reducible exact HBB.out | with_reducible exact Below.refl _ _ | with_reducible refine Below.drew ?_ | with_reducible refine belowN ?_ _ | with_reducible refine Below.setCell ?_ (by first | omega | (simp; done) | (simp; omega)) _ | with_reducible refine Below.alloc ?_ (by first | omega | (simp; done) | (simp; omega)) _)) : Below w.heap.size w w9)
    clear hW
    obtain ⟨b9, hb9⟩ : ∃ b, b = wk.heap.size := ⟨_, rfl⟩
    rw [← hb9] at d0 d1 zd ⊢
    clear hb9
    clear HBS hwk hwS hbB sx0 sx1 sxz sxn sxm kx0 kx1 kxz sy0 sy1 syz syn sym ky0 ky1 kyz sp0 sp1 spz spn spm kp0 kp1 kpz kv0 kv1 kvz HBk K0 SK
    go_wp2_with fail
    refine (HSan.out _ HBX.out).mono ?_
    rintro r wz ⟨rfl, hbz⟩
    have p0z := carry hbz p0_9
    have p1z := carry hbz p1_9
    have HBZ := Lib.hid (HBX.out.trans (hbz.mono HBX.out.size))
    clear hbz p0_9 p1_9 d0 d1 x0_9 x1_9 y0_9 y1_9
    go_wp2_with fail
    go_ret
    exact ⟨rfl, HBZ.out⟩

set_option maxRecDepth 100000 in
set_option maxHeartbeats 8000000 in
theorem en (m0 e0 n0 f0 M Nn t MN xm xe ym ye wm we a b pm pe : Int) (w : World) (ht : IntKind.i64.wrap (e0.tmod 21 + f0.tmod 21) = t) (hMN : IntKind.i64.wrap (m0.tmod 4096 * n0.tmod 4096) = MN) (hN : (n0.tmod 4096 == 0) = false) (HX : Hid (∀ W : World, Calls Tryz.prog 22 #[.int .i64 m0, .int .i64 e0] W fun r w' => r = .returned (realV xm xe) ∧ Below W.heap.size W w')) (HY : Hid (∀ W : World, Calls Tryz.prog 22 #[.int .i64 n0, .int .i64 f0] W fun r w' => r = .returned (realV ym ye) ∧ Below W.heap.size W w')) (HM1 : Hid (∀ W : World, Calls Tryz.prog 13 #[realV xm xe, realV ym ye] W fun r w' => r = .returned (rE pm pe 0) ∧ Below W.heap.size W w')) (H2 : Hid (∀ W : World, Calls Tryz.prog 9 #[.int .i64 2] W fun r w' => r = .returned (realV 8388608 (-22)) ∧ Below W.heap.size W w')) (HP : Hid (∀ W : World, Calls Tryz.prog 23 #[realV 8388608 (-22), .int .i64 t] W fun r w' => r = .returned (rE wm we 0) ∧ Below W.heap.size W w')) (HF2 : Hid (∀ W : World, Calls Tryz.prog 9 #[.int .i64 MN] W fun r w' => r = .returned (realV a b) ∧ Below W.heap.size W w')) (HM2 : Hid (∀ W : World, Calls Tryz.prog 13 #[realV a b, realV wm we] W fun r w' => r = .returned (rE pm pe 0) ∧ Below W.heap.size W w')) (HD : Hid (∀ W : World, Calls Tryz.prog 14 #[realV pm pe, realV ym ye] W fun r w' => r = .returned (rE xm xe 0) ∧ Below W.heap.size W w')) (HSan : Hid (∀ W, Below w.heap.size w W → Calls Tryz.prog 19 #[] W fun r W' => r = .returned (.bool true) ∧ Below W.heap.size W W'))  :
    Calls Tryz.prog 5 #[.int .i64 m0, .int .i64 e0, .int .i64 n0, .int .i64 f0] w fun r w' => r = .returned (.bool true) ∧ Below w.heap.size w w' := by
  go_enter Tryz.func5, Tryz.ntmps5
  go_wp2_with fail
  refine (HX.out _).mono ?_
  rintro e w1 ⟨rfl, hb1⟩
  have HB_1 := Lib.hid ((by repeat (first | exact Below.refl _ _ | refine Below.drew ?_ | refine Below.setCell ?_ (by first | omega | (simp; done) | (simp; omega)) _ | refine Below.alloc ?_ (by first | omega | (simp; done) | (simp; omega)) _) : Below w.heap.size w _).trans (hb1.mono (by first | omega | (simp; done) | (simp; omega))))
  have nz_1 : w.heap.size ≤ w1.heap.size := HB_1.out.size
  clear hb1
  go_wp2_with fail
  refine (HY.out _).mono ?_
  rintro e w2 ⟨rfl, hb2⟩
  have x0_2 : w2.cell? ⟨w1.heap.size, 0, none⟩ = some (.int .i64 xm) := carry hb2 (by go_simp)
  have x1_2 : w2.cell? ⟨w1.heap.size, 1, none⟩ = some (.int .i64 xe) := carry hb2 (by go_simp)
  have xz_2 : w1.heap.size < w2.heap.size := by have := hb2.size; first | omega | (simp at this; omega)
  have HB_2 := Lib.hid ((by repeat (first | exact HB_1.out | refine Below.drew ?_ | refine Below.setCell ?_ (by first | omega | (simp; done) | (simp; omega)) _ | refine Below.alloc ?_ (by first | omega | (simp; done) | (simp; omega)) _) : Below w.heap.size w _).trans (hb2.mono (by first | omega | (simp; done) | (simp; omega))))
  have nz_2 : w.heap.size ≤ w2.heap.size := HB_2.out.size
  clear hb2 HB_1
  go_wp2_with fail
  refine (HM1.out _).mono ?_
  rintro e w3 ⟨rfl, hb3⟩
  have x0_3 : w3.cell? ⟨w1.heap.size, 0, none⟩ = some (.int .i64 xm) := carry hb3 (by go_simp)
  have x1_3 : w3.cell? ⟨w1.heap.size, 1, none⟩ = some (.int .i64 xe) := carry hb3 (by go_simp)
  have xz_3 : w1.heap.size < w3.heap.size := by have := hb3.size; first | omega | (simp at this; omega)
  have y0_3 : w3.cell? ⟨w2.heap.size, 0, none⟩ = some (.int .i64 ym) := carry hb3 (by go_simp)
  have y1_3 : w3.cell? ⟨w2.heap.size, 1, none⟩ = some (.int .i64 ye) := carry hb3 (by go_simp)
  have yz_3 : w2.heap.size < w3.heap.size := by have := hb3.size; first | omega | (simp at this; omega)
  have HB_3 := Lib.hid ((by repeat (first | exact HB_2.out | refine Below.drew ?_ | refine Below.setCell ?_ (by first | omega | (simp; done) | (simp; omega)) _ | refine Below.alloc ?_ (by first | omega | (simp; done) | (simp; omega)) _) : Below w.heap.size w _).trans (hb3.mono (by first | omega | (simp; done) | (simp; omega))))
  have nz_3 : w.heap.size ≤ w3.heap.size := HB_3.out.size
  clear hb3 x0_2 x1_2 HB_2
  go_wp2_with fail
  refine (H2.out _).mono ?_
  rintro e w4 ⟨rfl, hb4⟩
  have x0_4 : w4.cell? ⟨w1.heap.size, 0, none⟩ = some (.int .i64 xm) := carry hb4 (by go_simp)
  have x1_4 : w4.cell? ⟨w1.heap.size, 1, none⟩ = some (.int .i64 xe) := carry hb4 (by go_simp)
  have xz_4 : w1.heap.size < w4.heap.size := by have := hb4.size; first | omega | (simp at this; omega)
  have y0_4 : w4.cell? ⟨w2.heap.size, 0, none⟩ = some (.int .i64 ym) := carry hb4 (by go_simp)
  have y1_4 : w4.cell? ⟨w2.heap.size, 1, none⟩ = some (.int .i64 ye) := carry hb4 (by go_simp)
  have yz_4 : w2.heap.size < w4.heap.size := by have := hb4.size; first | omega | (simp at this; omega)
  have p0_4 : w4.cell? ⟨w3.heap.size, 0, none⟩ = some (.int .i64 pm) := carry hb4 (by go_simp)
  have p1_4 : w4.cell? ⟨w3.heap.size, 1, none⟩ = some (.int .i64 pe) := carry hb4 (by go_simp)
  have pz_4 : w3.heap.size < w4.heap.size := by have := hb4.size; first | omega | (simp at this; omega)
  have HB_4 := Lib.hid ((by repeat (first | exact HB_3.out | refine Below.drew ?_ | refine Below.setCell ?_ (by first | omega | (simp; done) | (simp; omega)) _ | refine Below.alloc ?_ (by first | omega | (simp; done) | (simp; omega)) _) : Below w.heap.size w _).trans (hb4.mono (by first | omega | (simp; done) | (simp; omega))))
  have nz_4 : w.heap.size ≤ w4.heap.size := HB_4.out.size
  clear hb4 x0_3 x1_3 y0_3 y1_3 HB_3
  go_wp2_with fail
  try rw [ht]
  refine (HP.out _).mono ?_
  rintro e w5 ⟨rfl, hb5⟩
  have x0_5 : w5.cell? ⟨w1.heap.size, 0, none⟩ = some (.int .i64 xm) := carry hb5 (by go_simp)
  have x1_5 : w5.cell? ⟨w1.heap.size, 1, none⟩ = some (.int .i64 xe) := carry hb5 (by go_simp)
  have xz_5 : w1.heap.size < w5.heap.size := by have := hb5.size; first | omega | (simp at this; omega)
  have y0_5 : w5.cell? ⟨w2.heap.size, 0, none⟩ = some (.int .i64 ym) := carry hb5 (by go_simp)
  have y1_5 : w5.cell? ⟨w2.heap.size, 1, none⟩ = some (.int .i64 ye) := carry hb5 (by go_simp)
  have yz_5 : w2.heap.size < w5.heap.size := by have := hb5.size; first | omega | (simp at this; omega)
  have p0_5 : w5.cell? ⟨w3.heap.size, 0, none⟩ = some (.int .i64 pm) := carry hb5 (by go_simp)
  have p1_5 : w5.cell? ⟨w3.heap.size, 1, none⟩ = some (.int .i64 pe) := carry hb5 (by go_simp)
  have pz_5 : w3.heap.size < w5.heap.size := by have := hb5.size; first | omega | (simp at this; omega)
  have HB_5 := Lib.hid ((by repeat (first | exact HB_4.out | refine Below.drew ?_ | refine Below.setCell ?_ (by first | omega | (simp; done) | (simp; omega)) _ | refine Below.alloc ?_ (by first | omega | (simp; done) | (simp; omega)) _) : Below w.heap.size w _).trans (hb5.mono (by first | omega | (simp; done) | (simp; omega))))
  have nz_5 : w.heap.size ≤ w5.heap.size := HB_5.out.size
  clear hb5 x0_4 x1_4 y0_4 y1_4 p0_4 p1_4 HB_4
  go_wp2_with fail
  generalize hW : w5.alloc _ = wk
  have kx0 : wk.cell? ⟨w1.heap.size, 0, none⟩ = some (.int .i64 xm) := by rw [← hW]; clear hW; go_simp
  have kx1 : wk.cell? ⟨w1.heap.size, 1, none⟩ = some (.int .i64 (xe)) := by rw [← hW]; clear hW; go_simp
  have kxz : w1.heap.size < wk.heap.size := by rw [← hW]; clear hW; simp <;> omega
  have ky0 : wk.cell? ⟨w2.heap.size, 0, none⟩ = some (.int .i64 (ym)) := by rw [← hW]; clear hW; go_simp
  have ky1 : wk.cell? ⟨w2.heap.size, 1, none⟩ = some (.int .i64 (ye)) := by rw [← hW]; clear hW; go_simp
  have kyz : w2.heap.size < wk.heap.size := by rw [← hW]; clear hW; simp <;> omega
  have kp0 : wk.cell? ⟨w3.heap.size, 0, none⟩ = some (.int .i64 (pm)) := by rw [← hW]; clear hW; go_simp
  have kp1 : wk.cell? ⟨w3.heap.size, 1, none⟩ = some (.int .i64 (pe)) := by rw [← hW]; clear hW; go_simp
  have kpz : w3.heap.size < wk.heap.size := by rw [← hW]; clear hW; simp <;> omega
  have kv0 : wk.cell? ⟨w5.heap.size, 0, none⟩ = some (.int .i64 (wm)) := by rw [← hW]; clear hW; go_simp
  have kv1 : wk.cell? ⟨w5.heap.size, 1, none⟩ = some (.int .i64 (we)) := by rw [← hW]; clear hW; go_simp
  have kvz : w5.heap.size < wk.heap.size := by rw [← hW]; clear hW; simp <;> omega
  have HBk := Lib.hid (show Below w.heap.size w wk from by rw [← hW]; exact HB_5.out.alloc HB_5.out.size _)
  clear hW x0_5 x1_5 y0_5 y1_5 p0_5 p1_5 HB_5 nz_1 nz_2 nz_3 nz_4 nz_5 xz_2 xz_3 xz_4 xz_5 yz_3 yz_4 yz_5 pz_4 pz_5
  try rw [hMN]
  have K0 := Lib.hid (Below.refl wk.heap.size wk)
  have SK := Lib.hid (show ∀ wx, Below wk.heap.size wk wx → wx.cell? ⟨w5.heap.size, 0, none⟩ = some (.int .i64 wm) ∧ wx.cell? ⟨w5.heap.size, 1, none⟩ = some (.int .i64 we) ∧ wk.heap.size ≤ wx.heap.size ∧ Below wk.heap.size wk wx from fun wx h => ⟨carry h kv0, carry h kv1, h.size, h⟩)
  go_region_held3 (fun wx => wx.cell? ⟨w5.heap.size, 0, none⟩ = some (.int .i64 wm) ∧ wx.cell? ⟨w5.heap.size, 1, none⟩ = some (.int .i64 we) ∧ wk.heap.size ≤ wx.heap.size ∧ Below wk.heap.size wk wx) (((try go_split_ands); exact SK.out _ (by repeat (first | with_reducible assumption | with_reducible exact K0.out | with_reducible refine Below.drew ?_ | with_reducible refine Below.setCell ?_ (by first | with_reducible exact Nat.le_refl _ | with_reducible assumption | (simp; done) | (simp <;> omega) | (have := hbq.size; simp at this ⊢; omega)) _ | with_reducible refine Below.alloc ?_ (by first | with_reducible exact Nat.le_refl _ | with_reducible assumption | (simp; done) | (simp <;> omega) | (have := hbq.size; simp at this ⊢; omega)) _))))
  (first
      | (go_at_call 9; ((with_reducible refine (HF2.out _).mono ?_); rintro r wF ⟨rfl, hbq⟩; have hbw : Below wk.heap.size wk wF := (by first | exact K0.out.drew.trans hbq | exact K0.out.trans hbq | exact (K0.out.alloc (Nat.le_refl _) _).drew.trans (hbq.mono (by simp)) | exact (K0.out.drew.alloc (Nat.le_refl _) _).trans (hbq.mono (by simp)) | exact (K0.out.alloc (Nat.le_refl _) _).trans (hbq.mono (by simp))); have hzw : wk.heap.size ≤ wF.heap.size := hbw.size; try (have qq := carry_two hbq; obtain ⟨q0, q1, t0, t1, tz⟩ := qq); try (have qq := carry_two' hbq; obtain ⟨q0, q1, t0, t1, tz⟩ := qq)))
      | (go_at_call 13; ((with_reducible refine (HM2.out _).mono ?_); rintro r wS ⟨rfl, hbq⟩; have qq := carry_two' hbq; obtain ⟨q0, q1, t0, t1, tz⟩ := qq; have hbv : Below wk.heap.size wk wS := (hbw.alloc hzw _).trans (hbq.mono (by simp <;> omega)); have hzv : wk.heap.size ≤ wS.heap.size := hbv.size))
      | (go_at_call 13; ((with_reducible refine (HM2.out _).mono ?_); rintro r wS ⟨rfl, hbq⟩; have p0 := carry hbq q0; have p1 := carry hbq q1; have s0 := carryF hbq q0 t0; have s1 := carryF hbq q1 t1; have sz := Nat.lt_of_lt_of_le tz hbq.size; have hbv : Below wk.heap.size wk wS := hbw.trans (hbq.mono hzw); have hzv : wk.heap.size ≤ wS.heap.size := hbv.size))
      | (go_at_call 13; ((with_reducible refine (HM2.out _).mono ?_); rintro r wS ⟨rfl, hbq⟩; have hbv : Below wk.heap.size wk wS := hbw.trans (hbq.mono hzw); have hzv : wk.heap.size ≤ wS.heap.size := hbv.size)))
  · have HBS := Lib.hid (HBk.out.trans (hbv.mono HBk.out.size))
    have hwk := HBk.out.size
    have hwS := HBS.out.size
    have hbB : wk.heap.size ≤ wS.heap.size := by omega
    have sx0 := carry hbv kx0
    have sx1 := carry hbv kx1
    have sxz : w1.heap.size < wS.heap.size := Nat.lt_of_lt_of_le kxz hzv
    have sxn : ¬ w1.heap.size = wS.heap.size := by omega
    have sxm : ¬ wS.heap.size = w1.heap.size := by omega
    have sy0 := carry hbv ky0
    have sy1 := carry hbv ky1
    have syz : w2.heap.size < wS.heap.size := Nat.lt_of_lt_of_le kyz hzv
    have syn : ¬ w2.heap.size = wS.heap.size := by omega
    have sym : ¬ wS.heap.size = w2.heap.size := by omega
    have sp0 := carry hbv kp0
    have sp1 := carry hbv kp1
    have spz : w3.heap.size < wS.heap.size := Nat.lt_of_lt_of_le kpz hzv
    have spn : ¬ w3.heap.size = wS.heap.size := by omega
    have spm : ¬ wS.heap.size = w3.heap.size := by omega
    generalize hW : wS.alloc _ = w9
    have x0_9 : w9.cell? ⟨w1.heap.size, 0, none⟩ = some (.int .i64 xm) := by rw [← hW]; clear hW; go_simp
    have x1_9 : w9.cell? ⟨w1.heap.size, 1, none⟩ = some (.int .i64 xe) := by rw [← hW]; clear hW; go_simp
    have xz_9 : w1.heap.size < w9.heap.size := by rw [← hW]; clear hW; simp <;> omega
    have y0_9 : w9.cell? ⟨w2.heap.size, 0, none⟩ = some (.int .i64 ym) := by rw [← hW]; clear hW; go_simp
    have y1_9 : w9.cell? ⟨w2.heap.size, 1, none⟩ = some (.int .i64 ye) := by rw [← hW]; clear hW; go_simp
    have yz_9 : w2.heap.size < w9.heap.size := by rw [← hW]; clear hW; simp <;> omega
    have p0_9 : w9.cell? ⟨w3.heap.size, 0, none⟩ = some (.int .i64 pm) := by rw [← hW]; clear hW; go_simp
    have p1_9 : w9.cell? ⟨w3.heap.size, 1, none⟩ = some (.int .i64 pe) := by rw [← hW]; clear hW; go_simp
    have pz_9 : w3.heap.size < w9.heap.size := by rw [← hW]; clear hW; simp <;> omega
    have d0 : w9.cell? ⟨wS.heap.size, 0, none⟩ = some (.int .i64 pm) := by rw [← hW]; clear hW; go_simp
    have d1 : w9.cell? ⟨wS.heap.size, 1, none⟩ = some (.int .i64 pe) := by rw [← hW]; clear hW; go_simp
    have zd : wS.heap.size < w9.heap.size := by rw [← hW]; clear hW; simp <;> omega
    have HBX := Lib.hid ((by rw [← hW]; clear hW; have HBB := HBS; repeat (first | with_reducible exact HBB.out | with_reducible exact Below.refl _ _ | with_reducible refine Below.drew ?_ | with_reducible refine belowN ?_ _ | with_reducible refine Below.setCell ?_ (by first | omega | (simp; done) | (simp; omega)) _ | with_reducible refine Below.alloc ?_ (by first | omega | (simp; done) | (simp; omega)) _)) : Below w.heap.size w w9)
    clear hW
    obtain ⟨b9, hb9⟩ : ∃ b, b = wS.heap.size := ⟨_, rfl⟩
    rw [← hb9] at d0 d1 zd ⊢
    clear hb9
    clear HBS hwk hwS hbB sx0 sx1 sxz sxn sxm kx0 kx1 kxz sy0 sy1 syz syn sym ky0 ky1 kyz sp0 sp1 spz spn spm kp0 kp1 kpz kv0 kv1 kvz HBk K0 SK
    go_wp2_with fail
    refine (HD.out _).mono ?_
    rintro r wd ⟨rfl, hbd⟩
    have x0d := carry hbd x0_9
    have x1d := carry hbd x1_9
    have xzd := Nat.lt_of_lt_of_le xz_9 hbd.size
    have HBd := Lib.hid (HBX.out.trans (hbd.mono HBX.out.size))
    clear hbd p0_9 p1_9 d0 d1 x0_9 x1_9 y0_9 y1_9
    go_wp2_with fail
    refine (HSan.out _ (HBd.out.alloc HBd.out.size _)).mono ?_
    rintro r wz ⟨rfl, hbz⟩
    have x0z : wz.cell? ⟨w1.heap.size, 0, none⟩ = some (.int .i64 xm) := carry hbz (by go_simp)
    have x1z : wz.cell? ⟨w1.heap.size, 1, none⟩ = some (.int .i64 xe) := carry hbz (by go_simp)
    have b0z : wz.cell? ⟨wd.heap.size, 0, none⟩ = some (.int .i64 xm) := carry hbz (by go_simp)
    have b1z : wz.cell? ⟨wd.heap.size, 1, none⟩ = some (.int .i64 xe) := carry hbz (by go_simp)
    have HBZ := Lib.hid ((HBd.out.alloc HBd.out.size _).trans (hbz.mono (by have := HBd.out.size; simp; omega)))
    clear hbz x0d x1d
    go_wp2_with fail
    go_ret
    exact ⟨rfl, HBZ.out⟩
  · have HBS := Lib.hid (HBk.out.trans (hbv.mono HBk.out.size))
    have hwk := HBk.out.size
    have hwS := HBS.out.size
    have hbB : wk.heap.size ≤ wF.heap.size := by omega
    have sx0 := carry hbv kx0
    have sx1 := carry hbv kx1
    have sxz : w1.heap.size < wS.heap.size := Nat.lt_of_lt_of_le kxz hzv
    have sxn : ¬ w1.heap.size = wF.heap.size := by omega
    have sxm : ¬ wF.heap.size = w1.heap.size := by omega
    have sy0 := carry hbv ky0
    have sy1 := carry hbv ky1
    have syz : w2.heap.size < wS.heap.size := Nat.lt_of_lt_of_le kyz hzv
    have syn : ¬ w2.heap.size = wF.heap.size := by omega
    have sym : ¬ wF.heap.size = w2.heap.size := by omega
    have sp0 := carry hbv kp0
    have sp1 := carry hbv kp1
    have spz : w3.heap.size < wS.heap.size := Nat.lt_of_lt_of_le kpz hzv
    have spn : ¬ w3.heap.size = wF.heap.size := by omega
    have spm : ¬ wF.heap.size = w3.heap.size := by omega
    generalize hW : (wS.setCell _ _).setCell _ _ = w9
    have x0_9 : w9.cell? ⟨w1.heap.size, 0, none⟩ = some (.int .i64 xm) := by rw [← hW]; clear hW; go_simp
    have x1_9 : w9.cell? ⟨w1.heap.size, 1, none⟩ = some (.int .i64 xe) := by rw [← hW]; clear hW; go_simp
    have xz_9 : w1.heap.size < w9.heap.size := by rw [← hW]; clear hW; simp <;> omega
    have y0_9 : w9.cell? ⟨w2.heap.size, 0, none⟩ = some (.int .i64 ym) := by rw [← hW]; clear hW; go_simp
    have y1_9 : w9.cell? ⟨w2.heap.size, 1, none⟩ = some (.int .i64 ye) := by rw [← hW]; clear hW; go_simp
    have yz_9 : w2.heap.size < w9.heap.size := by rw [← hW]; clear hW; simp <;> omega
    have p0_9 : w9.cell? ⟨w3.heap.size, 0, none⟩ = some (.int .i64 pm) := by rw [← hW]; clear hW; go_simp
    have p1_9 : w9.cell? ⟨w3.heap.size, 1, none⟩ = some (.int .i64 pe) := by rw [← hW]; clear hW; go_simp
    have pz_9 : w3.heap.size < w9.heap.size := by rw [← hW]; clear hW; simp <;> omega
    have d0 : w9.cell? ⟨wF.heap.size, 0, none⟩ = some (.int .i64 pm) := by rw [← hW]; clear hW; go_simp
    have d1 : w9.cell? ⟨wF.heap.size, 1, none⟩ = some (.int .i64 pe) := by rw [← hW]; clear hW; go_simp
    have zd : wF.heap.size < w9.heap.size := by rw [← hW]; clear hW; simp <;> omega
    have HBX := Lib.hid ((by rw [← hW]; clear hW; have HBB := HBS; repeat (first | with_reducible exact HBB.out | with_reducible exact Below.refl _ _ | with_reducible refine Below.drew ?_ | with_reducible refine belowN ?_ _ | with_reducible refine Below.setCell ?_ (by first | omega | (simp; done) | (simp; omega)) _ | with_reducible refine Below.alloc ?_ (by first | omega | (simp; done) | (simp; omega)) _)) : Below w.heap.size w w9)
    clear hW
    obtain ⟨b9, hb9⟩ : ∃ b, b = wF.heap.size := ⟨_, rfl⟩
    rw [← hb9] at d0 d1 zd ⊢
    clear hb9
    clear HBS hwk hwS hbB sx0 sx1 sxz sxn sxm kx0 kx1 kxz sy0 sy1 syz syn sym ky0 ky1 kyz sp0 sp1 spz spn spm kp0 kp1 kpz kv0 kv1 kvz HBk K0 SK
    go_wp2_with fail
    refine (HD.out _).mono ?_
    rintro r wd ⟨rfl, hbd⟩
    have x0d := carry hbd x0_9
    have x1d := carry hbd x1_9
    have xzd := Nat.lt_of_lt_of_le xz_9 hbd.size
    have HBd := Lib.hid (HBX.out.trans (hbd.mono HBX.out.size))
    clear hbd p0_9 p1_9 d0 d1 x0_9 x1_9 y0_9 y1_9
    go_wp2_with fail
    refine (HSan.out _ (HBd.out.alloc HBd.out.size _)).mono ?_
    rintro r wz ⟨rfl, hbz⟩
    have x0z : wz.cell? ⟨w1.heap.size, 0, none⟩ = some (.int .i64 xm) := carry hbz (by go_simp)
    have x1z : wz.cell? ⟨w1.heap.size, 1, none⟩ = some (.int .i64 xe) := carry hbz (by go_simp)
    have b0z : wz.cell? ⟨wd.heap.size, 0, none⟩ = some (.int .i64 xm) := carry hbz (by go_simp)
    have b1z : wz.cell? ⟨wd.heap.size, 1, none⟩ = some (.int .i64 xe) := carry hbz (by go_simp)
    have HBZ := Lib.hid ((HBd.out.alloc HBd.out.size _).trans (hbz.mono (by have := HBd.out.size; simp; omega)))
    clear hbz x0d x1d
    go_wp2_with fail
    go_ret
    exact ⟨rfl, HBZ.out⟩
  · have HBS := Lib.hid (HBk.out.trans (hbv.mono HBk.out.size))
    have hwk := HBk.out.size
    have hwS := HBS.out.size
    have hbB : wk.heap.size ≤ wk.heap.size := by omega
    have sx0 := carry hbv kx0
    have sx1 := carry hbv kx1
    have sxz : w1.heap.size < wS.heap.size := Nat.lt_of_lt_of_le kxz hzv
    have sxn : ¬ w1.heap.size = wk.heap.size := by omega
    have sxm : ¬ wk.heap.size = w1.heap.size := by omega
    have sy0 := carry hbv ky0
    have sy1 := carry hbv ky1
    have syz : w2.heap.size < wS.heap.size := Nat.lt_of_lt_of_le kyz hzv
    have syn : ¬ w2.heap.size = wk.heap.size := by omega
    have sym : ¬ wk.heap.size = w2.heap.size := by omega
    have sp0 := carry hbv kp0
    have sp1 := carry hbv kp1
    have spz : w3.heap.size < wS.heap.size := Nat.lt_of_lt_of_le kpz hzv
    have spn : ¬ w3.heap.size = wk.heap.size := by omega
    have spm : ¬ wk.heap.size = w3.heap.size := by omega
    generalize hW : (wS.setCell _ _).setCell _ _ = w9
    have x0_9 : w9.cell? ⟨w1.heap.size, 0, none⟩ = some (.int .i64 xm) := by rw [← hW]; clear hW; go_simp
    have x1_9 : w9.cell? ⟨w1.heap.size, 1, none⟩ = some (.int .i64 xe) := by rw [← hW]; clear hW; go_simp
    have xz_9 : w1.heap.size < w9.heap.size := by rw [← hW]; clear hW; simp <;> omega
    have y0_9 : w9.cell? ⟨w2.heap.size, 0, none⟩ = some (.int .i64 ym) := by rw [← hW]; clear hW; go_simp
    have y1_9 : w9.cell? ⟨w2.heap.size, 1, none⟩ = some (.int .i64 ye) := by rw [← hW]; clear hW; go_simp
    have yz_9 : w2.heap.size < w9.heap.size := by rw [← hW]; clear hW; simp <;> omega
    have p0_9 : w9.cell? ⟨w3.heap.size, 0, none⟩ = some (.int .i64 pm) := by rw [← hW]; clear hW; go_simp
    have p1_9 : w9.cell? ⟨w3.heap.size, 1, none⟩ = some (.int .i64 pe) := by rw [← hW]; clear hW; go_simp
    have pz_9 : w3.heap.size < w9.heap.size := by rw [← hW]; clear hW; simp <;> omega
    have d0 : w9.cell? ⟨wk.heap.size, 0, none⟩ = some (.int .i64 pm) := by rw [← hW]; clear hW; go_simp
    have d1 : w9.cell? ⟨wk.heap.size, 1, none⟩ = some (.int .i64 pe) := by rw [← hW]; clear hW; go_simp
    have zd : wk.heap.size < w9.heap.size := by rw [← hW]; clear hW; simp <;> omega
    have HBX := Lib.hid ((by rw [← hW]; clear hW; have HBB := HBS; repeat (first | with_reducible exact HBB.out | with_reducible exact Below.refl _ _ | with_reducible refine Below.drew ?_ | with_reducible refine belowN ?_ _ | with_reducible refine Below.setCell ?_ (by first | omega | (simp; done) | (simp; omega)) _ | with_reducible refine Below.alloc ?_ (by first | omega | (simp; done) | (simp; omega)) _)) : Below w.heap.size w w9)
    clear hW
    obtain ⟨b9, hb9⟩ : ∃ b, b = wk.heap.size := ⟨_, rfl⟩
    rw [← hb9] at d0 d1 zd ⊢
    clear hb9
    clear HBS hwk hwS hbB sx0 sx1 sxz sxn sxm kx0 kx1 kxz sy0 sy1 syz syn sym ky0 ky1 kyz sp0 sp1 spz spn spm kp0 kp1 kpz kv0 kv1 kvz HBk K0 SK
    go_wp2_with fail
    refine (HD.out _).mono ?_
    rintro r wd ⟨rfl, hbd⟩
    have x0d := carry hbd x0_9
    have x1d := carry hbd x1_9
    have xzd := Nat.lt_of_lt_of_le xz_9 hbd.size
    have HBd := Lib.hid (HBX.out.trans (hbd.mono HBX.out.size))
    clear hbd p0_9 p1_9 d0 d1 x0_9 x1_9 y0_9 y1_9
    go_wp2_with fail
    refine (HSan.out _ (HBd.out.alloc HBd.out.size _)).mono ?_
    rintro r wz ⟨rfl, hbz⟩
    have x0z : wz.cell? ⟨w1.heap.size, 0, none⟩ = some (.int .i64 xm) := carry hbz (by go_simp)
    have x1z : wz.cell? ⟨w1.heap.size, 1, none⟩ = some (.int .i64 xe) := carry hbz (by go_simp)
    have b0z : wz.cell? ⟨wd.heap.size, 0, none⟩ = some (.int .i64 xm) := carry hbz (by go_simp)
    have b1z : wz.cell? ⟨wd.heap.size, 1, none⟩ = some (.int .i64 xe) := carry hbz (by go_simp)
    have HBZ := Lib.hid ((HBd.out.alloc HBd.out.size _).trans (hbz.mono (by have := HBd.out.size; simp; omega)))
    clear hbz x0d x1d
    go_wp2_with fail
    go_ret
    exact ⟨rfl, HBZ.out⟩

end Go.Proofs.YtoofdihnflnaiaaGreatDoor.realExact
