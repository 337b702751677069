/-
  QUOTIENTS OF SPANS.
-/
import Derived.Test.YtnhieokegidibaaSpanOp
import Derived.Deep.RegionHeld3
import Derived.Deep.DeepCutAuto

namespace Go.Proofs.Ytnhieokegidibaa
open Go.RowKit

/-- quotients by the divisors below 0, and by those above 0 -/
def quoF (la ua lo hi : Int) (p q : Bool) : Int := (cond p ua la).tdiv (cond q hi lo)
theorem vspan_is {l u : Int} {b : Bool} (h : vsp l u = b) (w : World) :
    Calls Try.prog 9 #[spanV l u] w fun e w' => e = .returned (.bool b) ∧ Below w.heap.size w w' := by
  subst h
  exact vspan_any l u w

set_option maxRecDepth 100000 in
set_option maxHeartbeats 2000000 in
theorem opquo_any (x y : Int) (w : World) (h1 : -2147483647 ≤ x) (h2 : x ≤ 2147483647) (h3 : y ≠ 0) :
    Calls Try.prog 38 #[.int .i64 x, .int .i64 y] w fun e w' => e = .returned (.int .i64 (x.tdiv y)) ∧ w = w' := by
  have hz : (y == 0) = false := by simpa using h3
  have ⟨q1, q2⟩ := tdiv_bds (b := y) ⟨h1, h2⟩
  go_enter Try.func38, Try.ntmps38
  go_wp2
  go_ret
  exact ⟨rfl, rfl⟩

theorem extquo_any (la ua lo hi : Int) (w : World) (h1 : -2147483647 ≤ la ∧ la ≤ 2147483647) (h2 : -2147483647 ≤ ua ∧ ua ≤ 2147483647) (h3 : lo ≠ 0) (h4 : hi ≠ 0) :
    Calls Try.prog 40 #[spanV la ua, spanV lo hi, .func (.func 38) #[] #[]] w fun e w' => e = .returned (spanV (low4 (quoF la ua lo hi)) (high4 (quoF la ua lo hi))) ∧ Below w.heap.size w w' :=
  ext_any 38 (enters_of Try.func38 (by kernel_rfl) rfl) la ua lo hi (quoF la ua lo hi) w (fun p q w => opquo_any _ _ w (by cases p; exact h1.1; exact h2.1) (by cases p; exact h1.2; exact h2.2) (by cases q; exact h3; exact h4))

set_option maxRecDepth 100000 in
set_option maxHeartbeats 2000000 in
theorem squo_bad (la ua lb ub : Int) (w : World) (HB : Hid (bsp la ua lb ub = false)) :
    Calls Try.prog 17 #[spanV la ua, spanV lb ub] w fun e w' => e = .returned (opV 0 0 false 1) ∧ Below w.heap.size w w' := by
  go_enter Try.func17, Try.ntmps17
  go_wp2_with fail
  refine (bsp_any _ _ _ _ _).mono ?_
  rintro e w1 ⟨rfl, hb1⟩
  have a0_1 : w1.cell? ⟨w.heap.size, 0, none⟩ = some (.int .i64 la) := carry hb1 (by go_simp)
  have a1_1 : w1.cell? ⟨w.heap.size, 1, none⟩ = some (.int .i64 ua) := carry hb1 (by go_simp)
  have az_1 : w.heap.size < w1.heap.size := by have := hb1.size; first | omega | (simp at this; omega)
  have b0_1 : w1.cell? ⟨w.heap.size + 1, 0, none⟩ = some (.int .i64 lb) := carry hb1 (by go_simp)
  have b1_1 : w1.cell? ⟨w.heap.size + 1, 1, none⟩ = some (.int .i64 ub) := carry hb1 (by go_simp)
  have bz_1 : w.heap.size + 1 < w1.heap.size := by have := hb1.size; first | omega | (simp at this; omega)
  have r0_1 : w1.cell? ⟨w.heap.size + 1 + 1, 0, none⟩ = some (.int .i64 0) := carry hb1 (by go_simp)
  have rf0_1 : w1.frozen? ⟨w.heap.size + 1 + 1, 0, none⟩ = false := carryF hb1 (v := .int .i64 0) (by go_simp) (by go_simp)
  have r1_1 : w1.cell? ⟨w.heap.size + 1 + 1, 1, none⟩ = some (.int .i64 0) := carry hb1 (by go_simp)
  have rf1_1 : w1.frozen? ⟨w.heap.size + 1 + 1, 1, none⟩ = false := carryF hb1 (v := .int .i64 0) (by go_simp) (by go_simp)
  have rz_1 : w.heap.size + 1 + 1 < w1.heap.size := by have := hb1.size; first | omega | (simp at this; omega)
  have HB_1 := Lib.hid ((by repeat (first | exact Below.refl _ _ | refine Below.drew ?_ | refine Below.setCell ?_ (by first | omega | (simp; done) | (simp; omega)) _ | refine Below.alloc ?_ (by first | omega | (simp; done) | (simp; omega)) _) : Below w.heap.size w _).trans (hb1.mono (by first | omega | (simp; done) | (simp; omega))))
  have nz_1 : w.heap.size ≤ w1.heap.size := HB_1.out.size
  clear hb1
  rw [show (vsp la ua && vsp lb ub) = bsp la ua lb ub from rfl, HB.out]
  go_wp2_with fail
  all_goals refine bodyPost_ret (v := opV (0) (0) false 1) ?_ rfl ⟨rfl, ?_⟩
  all_goals first | (simp [results, Try.results17, go_sem, r0_1, r1_1]; done) | (repeat (first | exact HB_1.out | refine Below.drew ?_ | refine Below.setCell ?_ (by first | omega | (simp; done) | (simp; omega)) _ | refine Below.alloc ?_ (by first | omega | (simp; done) | (simp; omega)) _))

set_option maxRecDepth 100000 in
set_option maxHeartbeats 2000000 in
theorem squo_none (la ua : Int) (w : World) (HB : Hid (bsp la ua 0 0 = true)) :
    Calls Try.prog 17 #[spanV la ua, spanV 0 0] w fun e w' => e = .returned (opV 0 0 false 5) ∧ Below w.heap.size w w' := by
  have ⟨⟨⟨v1, v2⟩, ⟨v3, v4⟩, v5⟩, ⟨v6, v7⟩, ⟨v8, v9⟩, v10⟩ := bsp_iff.1 HB.out
  have KB := Lib.hid (show vsp 0 (-1) = false from by rw [Bool.eq_false_iff]; intro h; have := vsp_iff.1 h; omega)
  have KA := Lib.hid (show vsp 1 0 = false from by rw [Bool.eq_false_iff]; intro h; have := vsp_iff.1 h; omega)
  go_enter Try.func17, Try.ntmps17
  go_wp2_with fail
  refine (bsp_any _ _ _ _ _).mono ?_
  rintro e w1 ⟨rfl, hb1⟩
  have a0_1 : w1.cell? ⟨w.heap.size, 0, none⟩ = some (.int .i64 la) := carry hb1 (by go_simp)
  have a1_1 : w1.cell? ⟨w.heap.size, 1, none⟩ = some (.int .i64 ua) := carry hb1 (by go_simp)
  have az_1 : w.heap.size < w1.heap.size := by have := hb1.size; first | omega | (simp at this; omega)
  have b0_1 : w1.cell? ⟨w.heap.size + 1, 0, none⟩ = some (.int .i64 0) := carry hb1 (by go_simp)
  have b1_1 : w1.cell? ⟨w.heap.size + 1, 1, none⟩ = some (.int .i64 0) := carry hb1 (by go_simp)
  have bz_1 : w.heap.size + 1 < w1.heap.size := by have := hb1.size; first | omega | (simp at this; omega)
  have r0_1 : w1.cell? ⟨w.heap.size + 1 + 1, 0, none⟩ = some (.int .i64 0) := carry hb1 (by go_simp)
  have rf0_1 : w1.frozen? ⟨w.heap.size + 1 + 1, 0, none⟩ = false := carryF hb1 (v := .int .i64 0) (by go_simp) (by go_simp)
  have r1_1 : w1.cell? ⟨w.heap.size + 1 + 1, 1, none⟩ = some (.int .i64 0) := carry hb1 (by go_simp)
  have rf1_1 : w1.frozen? ⟨w.heap.size + 1 + 1, 1, none⟩ = false := carryF hb1 (v := .int .i64 0) (by go_simp) (by go_simp)
  have rz_1 : w.heap.size + 1 + 1 < w1.heap.size := by have := hb1.size; first | omega | (simp at this; omega)
  have HB_1 := Lib.hid ((by repeat (first | exact Below.refl _ _ | refine Below.drew ?_ | refine Below.setCell ?_ (by first | omega | (simp; done) | (simp; omega)) _ | refine Below.alloc ?_ (by first | omega | (simp; done) | (simp; omega)) _) : Below w.heap.size w _).trans (hb1.mono (by first | omega | (simp; done) | (simp; omega))))
  have nz_1 : w.heap.size ≤ w1.heap.size := HB_1.out.size
  clear hb1
  rw [show (vsp la ua && vsp 0 0) = bsp la ua 0 0 from rfl, HB.out]
  go_wp2_with fail
  refine (vspan_is KB.out _).mono ?_
  rintro e w2 ⟨rfl, hb2⟩
  have a0_2 : w2.cell? ⟨w.heap.size, 0, none⟩ = some (.int .i64 la) := carry hb2 (by go_simp)
  have a1_2 : w2.cell? ⟨w.heap.size, 1, none⟩ = some (.int .i64 ua) := carry hb2 (by go_simp)
  have az_2 : w.heap.size < w2.heap.size := by have := hb2.size; first | omega | (simp at this; omega)
  have b0_2 : w2.cell? ⟨w.heap.size + 1, 0, none⟩ = some (.int .i64 0) := carry hb2 (by go_simp)
  have b1_2 : w2.cell? ⟨w.heap.size + 1, 1, none⟩ = some (.int .i64 0) := carry hb2 (by go_simp)
  have bz_2 : w.heap.size + 1 < w2.heap.size := by have := hb2.size; first | omega | (simp at this; omega)
  have r0_2 : w2.cell? ⟨w.heap.size + 1 + 1, 0, none⟩ = some (.int .i64 0) := carry hb2 (by go_simp)
  have rf0_2 : w2.frozen? ⟨w.heap.size + 1 + 1, 0, none⟩ = false := carryF hb2 (v := .int .i64 0) (by go_simp) (by go_simp)
  have r1_2 : w2.cell? ⟨w.heap.size + 1 + 1, 1, none⟩ = some (.int .i64 0) := carry hb2 (by go_simp)
  have rf1_2 : w2.frozen? ⟨w.heap.size + 1 + 1, 1, none⟩ = false := carryF hb2 (v := .int .i64 0) (by go_simp) (by go_simp)
  have rz_2 : w.heap.size + 1 + 1 < w2.heap.size := by have := hb2.size; first | omega | (simp at this; omega)
  have x0_2 : w2.cell? ⟨w1.heap.size, 0, none⟩ = some (.int .i64 0) := carry hb2 (by go_simp)
  have x1_2 : w2.cell? ⟨w1.heap.size, 1, none⟩ = some (.int .i64 (-1)) := carry hb2 (by go_simp)
  have xz_2 : w1.heap.size < w2.heap.size := by have := hb2.size; first | omega | (simp at this; omega)
  have y0_2 : w2.cell? ⟨w1.heap.size + 1, 0, none⟩ = some (.int .i64 1) := carry hb2 (by go_simp)
  have y1_2 : w2.cell? ⟨w1.heap.size + 1, 1, none⟩ = some (.int .i64 0) := carry hb2 (by go_simp)
  have yz_2 : w1.heap.size + 1 < w2.heap.size := by have := hb2.size; first | omega | (simp at this; omega)
  have HB_2 := Lib.hid ((by repeat (first | exact HB_1.out | refine Below.drew ?_ | refine Below.setCell ?_ (by first | omega | (simp; done) | (simp; omega)) _ | refine Below.alloc ?_ (by first | omega | (simp; done) | (simp; omega)) _) : Below w.heap.size w _).trans (hb2.mono (by first | omega | (simp; done) | (simp; omega))))
  have nz_2 : w.heap.size ≤ w2.heap.size := HB_2.out.size
  clear hb2 a0_1 a1_1 b0_1 b1_1 r0_1 rf0_1 r1_1 rf1_1 HB_1
  go_wp2_with fail
  refine (vspan_is KB.out _).mono ?_
  rintro e w3 ⟨rfl, hb3⟩
  have a0_3 : w3.cell? ⟨w.heap.size, 0, none⟩ = some (.int .i64 la) := carry hb3 (by go_simp)
  have a1_3 : w3.cell? ⟨w.heap.size, 1, none⟩ = some (.int .i64 ua) := carry hb3 (by go_simp)
  have az_3 : w.heap.size < w3.heap.size := by have := hb3.size; first | omega | (simp at this; omega)
  have b0_3 : w3.cell? ⟨w.heap.size + 1, 0, none⟩ = some (.int .i64 0) := carry hb3 (by go_simp)
  have b1_3 : w3.cell? ⟨w.heap.size + 1, 1, none⟩ = some (.int .i64 0) := carry hb3 (by go_simp)
  have bz_3 : w.heap.size + 1 < w3.heap.size := by have := hb3.size; first | omega | (simp at this; omega)
  have r0_3 : w3.cell? ⟨w.heap.size + 1 + 1, 0, none⟩ = some (.int .i64 0) := carry hb3 (by go_simp)
  have rf0_3 : w3.frozen? ⟨w.heap.size + 1 + 1, 0, none⟩ = false := carryF hb3 (v := .int .i64 0) (by go_simp) (by go_simp)
  have r1_3 : w3.cell? ⟨w.heap.size + 1 + 1, 1, none⟩ = some (.int .i64 0) := carry hb3 (by go_simp)
  have rf1_3 : w3.frozen? ⟨w.heap.size + 1 + 1, 1, none⟩ = false := carryF hb3 (v := .int .i64 0) (by go_simp) (by go_simp)
  have rz_3 : w.heap.size + 1 + 1 < w3.heap.size := by have := hb3.size; first | omega | (simp at this; omega)
  have x0_3 : w3.cell? ⟨w1.heap.size, 0, none⟩ = some (.int .i64 0) := carry hb3 (by go_simp)
  have x1_3 : w3.cell? ⟨w1.heap.size, 1, none⟩ = some (.int .i64 (-1)) := carry hb3 (by go_simp)
  have xz_3 : w1.heap.size < w3.heap.size := by have := hb3.size; first | omega | (simp at this; omega)
  have y0_3 : w3.cell? ⟨w1.heap.size + 1, 0, none⟩ = some (.int .i64 1) := carry hb3 (by go_simp)
  have y1_3 : w3.cell? ⟨w1.heap.size + 1, 1, none⟩ = some (.int .i64 0) := carry hb3 (by go_simp)
  have yz_3 : w1.heap.size + 1 < w3.heap.size := by have := hb3.size; first | omega | (simp at this; omega)
  have HB_3 := Lib.hid ((by repeat (first | exact HB_2.out | refine Below.drew ?_ | refine Below.setCell ?_ (by first | omega | (simp; done) | (simp; omega)) _ | refine Below.alloc ?_ (by first | omega | (simp; done) | (simp; omega)) _) : Below w.heap.size w _).trans (hb3.mono (by first | omega | (simp; done) | (simp; omega))))
  have nz_3 : w.heap.size ≤ w3.heap.size := HB_3.out.size
  clear hb3 a0_2 a1_2 b0_2 b1_2 r0_2 rf0_2 r1_2 rf1_2 x0_2 x1_2 y0_2 y1_2 HB_2
  go_wp2_with fail
  refine (vspan_is KA.out _).mono ?_
  rintro e w4 ⟨rfl, hb4⟩
  have a0_4 : w4.cell? ⟨w.heap.size, 0, none⟩ = some (.int .i64 la) := carry hb4 (by go_simp)
  have a1_4 : w4.cell? ⟨w.heap.size, 1, none⟩ = some (.int .i64 ua) := carry hb4 (by go_simp)
  have az_4 : w.heap.size < w4.heap.size := by have := hb4.size; first | omega | (simp at this; omega)
  have b0_4 : w4.cell? ⟨w.heap.size + 1, 0, none⟩ = some (.int .i64 0) := carry hb4 (by go_simp)
  have b1_4 : w4.cell? ⟨w.heap.size + 1, 1, none⟩ = some (.int .i64 0) := carry hb4 (by go_simp)
  have bz_4 : w.heap.size + 1 < w4.heap.size := by have := hb4.size; first | omega | (simp at this; omega)
  have r0_4 : w4.cell? ⟨w.heap.size + 1 + 1, 0, none⟩ = some (.int .i64 0) := carry hb4 (by go_simp)
  have rf0_4 : w4.frozen? ⟨w.heap.size + 1 + 1, 0, none⟩ = false := carryF hb4 (v := .int .i64 0) (by go_simp) (by go_simp)
  have r1_4 : w4.cell? ⟨w.heap.size + 1 + 1, 1, none⟩ = some (.int .i64 0) := carry hb4 (by go_simp)
  have rf1_4 : w4.frozen? ⟨w.heap.size + 1 + 1, 1, none⟩ = false := carryF hb4 (v := .int .i64 0) (by go_simp) (by go_simp)
  have rz_4 : w.heap.size + 1 + 1 < w4.heap.size := by have := hb4.size; first | omega | (simp at this; omega)
  have x0_4 : w4.cell? ⟨w1.heap.size, 0, none⟩ = some (.int .i64 0) := carry hb4 (by go_simp)
  have x1_4 : w4.cell? ⟨w1.heap.size, 1, none⟩ = some (.int .i64 (-1)) := carry hb4 (by go_simp)
  have xz_4 : w1.heap.size < w4.heap.size := by have := hb4.size; first | omega | (simp at this; omega)
  have y0_4 : w4.cell? ⟨w1.heap.size + 1, 0, none⟩ = some (.int .i64 1) := carry hb4 (by go_simp)
  have y1_4 : w4.cell? ⟨w1.heap.size + 1, 1, none⟩ = some (.int .i64 0) := carry hb4 (by go_simp)
  have yz_4 : w1.heap.size + 1 < w4.heap.size := by have := hb4.size; first | omega | (simp at this; omega)
  have HB_4 := Lib.hid ((by repeat (first | exact HB_3.out | refine Below.drew ?_ | refine Below.setCell ?_ (by first | omega | (simp; done) | (simp; omega)) _ | refine Below.alloc ?_ (by first | omega | (simp; done) | (simp; omega)) _) : Below w.heap.size w _).trans (hb4.mono (by first | omega | (simp; done) | (simp; omega))))
  have nz_4 : w.heap.size ≤ w4.heap.size := HB_4.out.size
  clear hb4 a0_3 a1_3 b0_3 b1_3 r0_3 rf0_3 r1_3 rf1_3 x0_3 x1_3 y0_3 y1_3 HB_3
  go_wp2_with fail
  all_goals refine bodyPost_ret (v := opV (0) (0) false 5) ?_ rfl ⟨rfl, ?_⟩
  all_goals first | (simp [results, Try.results17, go_sem, r0_4, r1_4]; done) | (repeat (first | exact HB_4.out | refine Below.drew ?_ | refine Below.setCell ?_ (by first | omega | (simp; done) | (simp; omega)) _ | refine Below.alloc ?_ (by first | omega | (simp; done) | (simp; omega)) _))

set_option maxRecDepth 100000 in
set_option maxHeartbeats 2000000 in
theorem squo_neg (la ua lb ub : Int) (w : World) (HB : Hid (bsp la ua lb ub = true)) (hu : ub ≤ -1) :
    Calls Try.prog 17 #[spanV la ua, spanV lb ub] w fun e w' => e = .returned (opV (low4 (quoF la ua (lb) (ub))) (high4 (quoF la ua (lb) (ub))) false 0) ∧ Below w.heap.size w w' := by
  have ⟨⟨⟨v1, v2⟩, ⟨v3, v4⟩, v5⟩, ⟨v6, v7⟩, ⟨v8, v9⟩, v10⟩ := bsp_iff.1 HB.out
  have KB := Lib.hid (show vsp lb ub = true from by rw [vsp_iff]; omega)
  have KA := Lib.hid (show vsp 1 ub = false from by rw [Bool.eq_false_iff]; intro h; have := vsp_iff.1 h; omega)
  have : decide (lb ≤ 0) = true := by simp <;> omega
  have : decide (0 ≤ ub) = false := by simp <;> omega
  have e1 : ¬ -1 < ub := by omega
  have e2 : lb < 1 := by omega
  go_enter Try.func17, Try.ntmps17
  go_wp2_with fail
  refine (bsp_any _ _ _ _ _).mono ?_
  rintro e w1 ⟨rfl, hb1⟩
  have a0_1 : w1.cell? ⟨w.heap.size, 0, none⟩ = some (.int .i64 la) := carry hb1 (by go_simp)
  have a1_1 : w1.cell? ⟨w.heap.size, 1, none⟩ = some (.int .i64 ua) := carry hb1 (by go_simp)
  have az_1 : w.heap.size < w1.heap.size := by have := hb1.size; first | omega | (simp at this; omega)
  have b0_1 : w1.cell? ⟨w.heap.size + 1, 0, none⟩ = some (.int .i64 lb) := carry hb1 (by go_simp)
  have b1_1 : w1.cell? ⟨w.heap.size + 1, 1, none⟩ = some (.int .i64 ub) := carry hb1 (by go_simp)
  have bz_1 : w.heap.size + 1 < w1.heap.size := by have := hb1.size; first | omega | (simp at this; omega)
  have r0_1 : w1.cell? ⟨w.heap.size + 1 + 1, 0, none⟩ = some (.int .i64 0) := carry hb1 (by go_simp)
  have rf0_1 : w1.frozen? ⟨w.heap.size + 1 + 1, 0, none⟩ = false := carryF hb1 (v := .int .i64 0) (by go_simp) (by go_simp)
  have r1_1 : w1.cell? ⟨w.heap.size + 1 + 1, 1, none⟩ = some (.int .i64 0) := carry hb1 (by go_simp)
  have rf1_1 : w1.frozen? ⟨w.heap.size + 1 + 1, 1, none⟩ = false := carryF hb1 (v := .int .i64 0) (by go_simp) (by go_simp)
  have rz_1 : w.heap.size + 1 + 1 < w1.heap.size := by have := hb1.size; first | omega | (simp at this; omega)
  have HB_1 := Lib.hid ((by repeat (first | exact Below.refl _ _ | refine Below.drew ?_ | refine Below.setCell ?_ (by first | omega | (simp; done) | (simp; omega)) _ | refine Below.alloc ?_ (by first | omega | (simp; done) | (simp; omega)) _) : Below w.heap.size w _).trans (hb1.mono (by first | omega | (simp; done) | (simp; omega))))
  have nz_1 : w.heap.size ≤ w1.heap.size := HB_1.out.size
  clear hb1
  rw [show (vsp la ua && vsp lb ub) = bsp la ua lb ub from rfl, HB.out]
  go_wp2_with fail
  refine (vspan_is KB.out _).mono ?_
  rintro e w2 ⟨rfl, hb2⟩
  have a0_2 : w2.cell? ⟨w.heap.size, 0, none⟩ = some (.int .i64 la) := carry hb2 (by go_simp)
  have a1_2 : w2.cell? ⟨w.heap.size, 1, none⟩ = some (.int .i64 ua) := carry hb2 (by go_simp)
  have az_2 : w.heap.size < w2.heap.size := by have := hb2.size; first | omega | (simp at this; omega)
  have b0_2 : w2.cell? ⟨w.heap.size + 1, 0, none⟩ = some (.int .i64 lb) := carry hb2 (by go_simp)
  have b1_2 : w2.cell? ⟨w.heap.size + 1, 1, none⟩ = some (.int .i64 ub) := carry hb2 (by go_simp)
  have bz_2 : w.heap.size + 1 < w2.heap.size := by have := hb2.size; first | omega | (simp at this; omega)
  have r0_2 : w2.cell? ⟨w.heap.size + 1 + 1, 0, none⟩ = some (.int .i64 0) := carry hb2 (by go_simp)
  have rf0_2 : w2.frozen? ⟨w.heap.size + 1 + 1, 0, none⟩ = false := carryF hb2 (v := .int .i64 0) (by go_simp) (by go_simp)
  have r1_2 : w2.cell? ⟨w.heap.size + 1 + 1, 1, none⟩ = some (.int .i64 0) := carry hb2 (by go_simp)
  have rf1_2 : w2.frozen? ⟨w.heap.size + 1 + 1, 1, none⟩ = false := carryF hb2 (v := .int .i64 0) (by go_simp) (by go_simp)
  have rz_2 : w.heap.size + 1 + 1 < w2.heap.size := by have := hb2.size; first | omega | (simp at this; omega)
  have x0_2 : w2.cell? ⟨w1.heap.size, 0, none⟩ = some (.int .i64 lb) := carry hb2 (by go_simp)
  have x1_2 : w2.cell? ⟨w1.heap.size, 1, none⟩ = some (.int .i64 ub) := carry hb2 (by go_simp)
  have xz_2 : w1.heap.size < w2.heap.size := by have := hb2.size; first | omega | (simp at this; omega)
  have y0_2 : w2.cell? ⟨w1.heap.size + 1, 0, none⟩ = some (.int .i64 1) := carry hb2 (by go_simp)
  have y1_2 : w2.cell? ⟨w1.heap.size + 1, 1, none⟩ = some (.int .i64 ub) := carry hb2 (by go_simp)
  have yz_2 : w1.heap.size + 1 < w2.heap.size := by have := hb2.size; first | omega | (simp at this; omega)
  have HB_2 := Lib.hid ((by repeat (first | exact HB_1.out | refine Below.drew ?_ | refine Below.setCell ?_ (by first | omega | (simp; done) | (simp; omega)) _ | refine Below.alloc ?_ (by first | omega | (simp; done) | (simp; omega)) _) : Below w.heap.size w _).trans (hb2.mono (by first | omega | (simp; done) | (simp; omega))))
  have nz_2 : w.heap.size ≤ w2.heap.size := HB_2.out.size
  clear hb2 a0_1 a1_1 b0_1 b1_1 r0_1 rf0_1 r1_1 rf1_1 HB_1
  go_wp2_with fail
  refine (vspan_is KA.out _).mono ?_
  rintro e w3 ⟨rfl, hb3⟩
  have a0_3 : w3.cell? ⟨w.heap.size, 0, none⟩ = some (.int .i64 la) := carry hb3 (by go_simp)
  have a1_3 : w3.cell? ⟨w.heap.size, 1, none⟩ = some (.int .i64 ua) := carry hb3 (by go_simp)
  have az_3 : w.heap.size < w3.heap.size := by have := hb3.size; first | omega | (simp at this; omega)
  have b0_3 : w3.cell? ⟨w.heap.size + 1, 0, none⟩ = some (.int .i64 lb) := carry hb3 (by go_simp)
  have b1_3 : w3.cell? ⟨w.heap.size + 1, 1, none⟩ = some (.int .i64 ub) := carry hb3 (by go_simp)
  have bz_3 : w.heap.size + 1 < w3.heap.size := by have := hb3.size; first | omega | (simp at this; omega)
  have r0_3 : w3.cell? ⟨w.heap.size + 1 + 1, 0, none⟩ = some (.int .i64 0) := carry hb3 (by go_simp)
  have rf0_3 : w3.frozen? ⟨w.heap.size + 1 + 1, 0, none⟩ = false := carryF hb3 (v := .int .i64 0) (by go_simp) (by go_simp)
  have r1_3 : w3.cell? ⟨w.heap.size + 1 + 1, 1, none⟩ = some (.int .i64 0) := carry hb3 (by go_simp)
  have rf1_3 : w3.frozen? ⟨w.heap.size + 1 + 1, 1, none⟩ = false := carryF hb3 (v := .int .i64 0) (by go_simp) (by go_simp)
  have rz_3 : w.heap.size + 1 + 1 < w3.heap.size := by have := hb3.size; first | omega | (simp at this; omega)
  have x0_3 : w3.cell? ⟨w1.heap.size, 0, none⟩ = some (.int .i64 lb) := carry hb3 (by go_simp)
  have x1_3 : w3.cell? ⟨w1.heap.size, 1, none⟩ = some (.int .i64 ub) := carry hb3 (by go_simp)
  have xz_3 : w1.heap.size < w3.heap.size := by have := hb3.size; first | omega | (simp at this; omega)
  have y0_3 : w3.cell? ⟨w1.heap.size + 1, 0, none⟩ = some (.int .i64 1) := carry hb3 (by go_simp)
  have y1_3 : w3.cell? ⟨w1.heap.size + 1, 1, none⟩ = some (.int .i64 ub) := carry hb3 (by go_simp)
  have yz_3 : w1.heap.size + 1 < w3.heap.size := by have := hb3.size; first | omega | (simp at this; omega)
  have HB_3 := Lib.hid ((by repeat (first | exact HB_2.out | refine Below.drew ?_ | refine Below.setCell ?_ (by first | omega | (simp; done) | (simp; omega)) _ | refine Below.alloc ?_ (by first | omega | (simp; done) | (simp; omega)) _) : Below w.heap.size w _).trans (hb3.mono (by first | omega | (simp; done) | (simp; omega))))
  have nz_3 : w.heap.size ≤ w3.heap.size := HB_3.out.size
  clear hb3 a0_2 a1_2 b0_2 b1_2 r0_2 rf0_2 r1_2 rf1_2 x0_2 x1_2 y0_2 y1_2 HB_2
  go_wp2_with fail
  refine (vspan_is KB.out _).mono ?_
  rintro e w4 ⟨rfl, hb4⟩
  have a0_4 : w4.cell? ⟨w.heap.size, 0, none⟩ = some (.int .i64 la) := carry hb4 (by go_simp)
  have a1_4 : w4.cell? ⟨w.heap.size, 1, none⟩ = some (.int .i64 ua) := carry hb4 (by go_simp)
  have az_4 : w.heap.size < w4.heap.size := by have := hb4.size; first | omega | (simp at this; omega)
  have b0_4 : w4.cell? ⟨w.heap.size + 1, 0, none⟩ = some (.int .i64 lb) := carry hb4 (by go_simp)
  have b1_4 : w4.cell? ⟨w.heap.size + 1, 1, none⟩ = some (.int .i64 ub) := carry hb4 (by go_simp)
  have bz_4 : w.heap.size + 1 < w4.heap.size := by have := hb4.size; first | omega | (simp at this; omega)
  have r0_4 : w4.cell? ⟨w.heap.size + 1 + 1, 0, none⟩ = some (.int .i64 0) := carry hb4 (by go_simp)
  have rf0_4 : w4.frozen? ⟨w.heap.size + 1 + 1, 0, none⟩ = false := carryF hb4 (v := .int .i64 0) (by go_simp) (by go_simp)
  have r1_4 : w4.cell? ⟨w.heap.size + 1 + 1, 1, none⟩ = some (.int .i64 0) := carry hb4 (by go_simp)
  have rf1_4 : w4.frozen? ⟨w.heap.size + 1 + 1, 1, none⟩ = false := carryF hb4 (v := .int .i64 0) (by go_simp) (by go_simp)
  have rz_4 : w.heap.size + 1 + 1 < w4.heap.size := by have := hb4.size; first | omega | (simp at this; omega)
  have x0_4 : w4.cell? ⟨w1.heap.size, 0, none⟩ = some (.int .i64 lb) := carry hb4 (by go_simp)
  have x1_4 : w4.cell? ⟨w1.heap.size, 1, none⟩ = some (.int .i64 ub) := carry hb4 (by go_simp)
  have xz_4 : w1.heap.size < w4.heap.size := by have := hb4.size; first | omega | (simp at this; omega)
  have y0_4 : w4.cell? ⟨w1.heap.size + 1, 0, none⟩ = some (.int .i64 1) := carry hb4 (by go_simp)
  have y1_4 : w4.cell? ⟨w1.heap.size + 1, 1, none⟩ = some (.int .i64 ub) := carry hb4 (by go_simp)
  have yz_4 : w1.heap.size + 1 < w4.heap.size := by have := hb4.size; first | omega | (simp at this; omega)
  have HB_4 := Lib.hid ((by repeat (first | exact HB_3.out | refine Below.drew ?_ | refine Below.setCell ?_ (by first | omega | (simp; done) | (simp; omega)) _ | refine Below.alloc ?_ (by first | omega | (simp; done) | (simp; omega)) _) : Below w.heap.size w _).trans (hb4.mono (by first | omega | (simp; done) | (simp; omega))))
  have nz_4 : w.heap.size ≤ w4.heap.size := HB_4.out.size
  clear hb4 a0_3 a1_3 b0_3 b1_3 r0_3 rf0_3 r1_3 rf1_3 x0_3 x1_3 y0_3 y1_3 HB_3
  go_wp2_with fail
  refine (extquo_any la ua (lb) (ub) _ ⟨v1, v2⟩ ⟨v3, v4⟩ (by omega) (by omega)).mono ?_
  rintro e w5 ⟨rfl, hb5⟩
  have a0_5 : w5.cell? ⟨w.heap.size, 0, none⟩ = some (.int .i64 la) := carry hb5 (by go_simp)
  have a1_5 : w5.cell? ⟨w.heap.size, 1, none⟩ = some (.int .i64 ua) := carry hb5 (by go_simp)
  have az_5 : w.heap.size < w5.heap.size := by have := hb5.size; first | omega | (simp at this; omega)
  have b0_5 : w5.cell? ⟨w.heap.size + 1, 0, none⟩ = some (.int .i64 lb) := carry hb5 (by go_simp)
  have b1_5 : w5.cell? ⟨w.heap.size + 1, 1, none⟩ = some (.int .i64 ub) := carry hb5 (by go_simp)
  have bz_5 : w.heap.size + 1 < w5.heap.size := by have := hb5.size; first | omega | (simp at this; omega)
  have r0_5 : w5.cell? ⟨w.heap.size + 1 + 1, 0, none⟩ = some (.int .i64 0) := carry hb5 (by go_simp)
  have rf0_5 : w5.frozen? ⟨w.heap.size + 1 + 1, 0, none⟩ = false := carryF hb5 (v := .int .i64 0) (by go_simp) (by go_simp)
  have r1_5 : w5.cell? ⟨w.heap.size + 1 + 1, 1, none⟩ = some (.int .i64 0) := carry hb5 (by go_simp)
  have rf1_5 : w5.frozen? ⟨w.heap.size + 1 + 1, 1, none⟩ = false := carryF hb5 (v := .int .i64 0) (by go_simp) (by go_simp)
  have rz_5 : w.heap.size + 1 + 1 < w5.heap.size := by have := hb5.size; first | omega | (simp at this; omega)
  have x0_5 : w5.cell? ⟨w1.heap.size, 0, none⟩ = some (.int .i64 lb) := carry hb5 (by go_simp)
  have x1_5 : w5.cell? ⟨w1.heap.size, 1, none⟩ = some (.int .i64 ub) := carry hb5 (by go_simp)
  have xz_5 : w1.heap.size < w5.heap.size := by have := hb5.size; first | omega | (simp at this; omega)
  have y0_5 : w5.cell? ⟨w1.heap.size + 1, 0, none⟩ = some (.int .i64 1) := carry hb5 (by go_simp)
  have y1_5 : w5.cell? ⟨w1.heap.size + 1, 1, none⟩ = some (.int .i64 ub) := carry hb5 (by go_simp)
  have yz_5 : w1.heap.size + 1 < w5.heap.size := by have := hb5.size; first | omega | (simp at this; omega)
  have HB_5 := Lib.hid ((by repeat (first | exact HB_4.out | refine Below.drew ?_ | refine Below.setCell ?_ (by first | omega | (simp; done) | (simp; omega)) _ | refine Below.alloc ?_ (by first | omega | (simp; done) | (simp; omega)) _) : Below w.heap.size w _).trans (hb5.mono (by first | omega | (simp; done) | (simp; omega))))
  have nz_5 : w.heap.size ≤ w5.heap.size := HB_5.out.size
  clear hb5 a0_4 a1_4 b0_4 b1_4 r0_4 rf0_4 r1_4 rf1_4 x0_4 x1_4 y0_4 y1_4 HB_4
  go_upto_region 13 with fail
  have b0' : ((w5.setCell ⟨w.heap.size + 1 + 1, 0, none⟩ (.int .i64 (low4 (quoF la ua (lb) (ub))))).setCell ⟨w.heap.size + 1 + 1, 1, none⟩ (.int .i64 (high4 (quoF la ua (lb) (ub))))).cell? ⟨w.heap.size + 1, 0, none⟩ = some (.int .i64 lb) := by go_simp
  have b1' : ((w5.setCell ⟨w.heap.size + 1 + 1, 0, none⟩ (.int .i64 (low4 (quoF la ua (lb) (ub))))).setCell ⟨w.heap.size + 1 + 1, 1, none⟩ (.int .i64 (high4 (quoF la ua (lb) (ub))))).cell? ⟨w.heap.size + 1, 1, none⟩ = some (.int .i64 ub) := by go_simp
  have r0' : ((w5.setCell ⟨w.heap.size + 1 + 1, 0, none⟩ (.int .i64 (low4 (quoF la ua (lb) (ub))))).setCell ⟨w.heap.size + 1 + 1, 1, none⟩ (.int .i64 (high4 (quoF la ua (lb) (ub))))).cell? ⟨w.heap.size + 1 + 1, 0, none⟩ = some (.int .i64 (low4 (quoF la ua (lb) (ub)))) := by go_simp
  have r1' : ((w5.setCell ⟨w.heap.size + 1 + 1, 0, none⟩ (.int .i64 (low4 (quoF la ua (lb) (ub))))).setCell ⟨w.heap.size + 1 + 1, 1, none⟩ (.int .i64 (high4 (quoF la ua (lb) (ub))))).cell? ⟨w.heap.size + 1 + 1, 1, none⟩ = some (.int .i64 (high4 (quoF la ua (lb) (ub)))) := by go_simp
  have f0' : ((w5.setCell ⟨w.heap.size + 1 + 1, 0, none⟩ (.int .i64 (low4 (quoF la ua (lb) (ub))))).setCell ⟨w.heap.size + 1 + 1, 1, none⟩ (.int .i64 (high4 (quoF la ua (lb) (ub))))).frozen? ⟨w.heap.size + 1 + 1, 0, none⟩ = false := by go_simp
  have f1' : ((w5.setCell ⟨w.heap.size + 1 + 1, 0, none⟩ (.int .i64 (low4 (quoF la ua (lb) (ub))))).setCell ⟨w.heap.size + 1 + 1, 1, none⟩ (.int .i64 (high4 (quoF la ua (lb) (ub))))).frozen? ⟨w.heap.size + 1 + 1, 1, none⟩ = false := by go_simp
  have HBx := Lib.hid ((HB_5.out.setCell (p := ⟨w.heap.size + 1 + 1, 0, none⟩) (by show w.heap.size ≤ w.heap.size + 1 + 1; omega) (.int .i64 (low4 (quoF la ua (lb) (ub))))).setCell (p := ⟨w.heap.size + 1 + 1, 1, none⟩) (by show w.heap.size ≤ w.heap.size + 1 + 1; omega) (.int .i64 (high4 (quoF la ua (lb) (ub)))))
  generalize ((w5.setCell ⟨w.heap.size + 1 + 1, 0, none⟩ (.int .i64 (low4 (quoF la ua (lb) (ub))))).setCell ⟨w.heap.size + 1 + 1, 1, none⟩ (.int .i64 (high4 (quoF la ua (lb) (ub))))) = wz at *
  clear a0_5 a1_5 b0_5 b1_5 r0_5 rf0_5 r1_5 rf1_5 x0_5 x1_5 y0_5 y1_5
  skip
  have r0_z := r0'
  have r1_z := r1'
  go_wp2_with fail
  go_region
  all_goals go_wp2_with fail
  all_goals refine bodyPost_ret (v := opV (low4 (quoF la ua (lb) (ub))) (high4 (quoF la ua (lb) (ub))) false 0) ?_ rfl ⟨rfl, ?_⟩
  all_goals first | (simp [results, Try.results17, go_sem, r0_z, r1_z]; done) | (repeat (first | exact HBx.out | refine Below.drew ?_ | refine Below.setCell ?_ (by first | omega | (simp; done) | (simp; omega)) _ | refine Below.alloc ?_ (by first | omega | (simp; done) | (simp; omega)) _))

set_option maxRecDepth 100000 in
set_option maxHeartbeats 2000000 in
theorem squo_negz (la ua lb : Int) (w : World) (HB : Hid (bsp la ua lb 0 = true)) (hl : lb ≤ -1) :
    Calls Try.prog 17 #[spanV la ua, spanV lb 0] w fun e w' => e = .returned (opV (low4 (quoF la ua (lb) ((-1)))) (high4 (quoF la ua (lb) ((-1)))) true 0) ∧ Below w.heap.size w w' := by
  have ⟨⟨⟨v1, v2⟩, ⟨v3, v4⟩, v5⟩, ⟨v6, v7⟩, ⟨v8, v9⟩, v10⟩ := bsp_iff.1 HB.out
  have KB := Lib.hid (show vsp lb (-1) = true from by rw [vsp_iff]; omega)
  have KA := Lib.hid (show vsp 1 0 = false from by rw [Bool.eq_false_iff]; intro h; have := vsp_iff.1 h; omega)
  have : decide (lb ≤ 0) = true := by simp <;> omega
  have e2 : lb < 1 := by omega
  go_enter Try.func17, Try.ntmps17
  go_wp2_with fail
  refine (bsp_any _ _ _ _ _).mono ?_
  rintro e w1 ⟨rfl, hb1⟩
  have a0_1 : w1.cell? ⟨w.heap.size, 0, none⟩ = some (.int .i64 la) := carry hb1 (by go_simp)
  have a1_1 : w1.cell? ⟨w.heap.size, 1, none⟩ = some (.int .i64 ua) := carry hb1 (by go_simp)
  have az_1 : w.heap.size < w1.heap.size := by have := hb1.size; first | omega | (simp at this; omega)
  have b0_1 : w1.cell? ⟨w.heap.size + 1, 0, none⟩ = some (.int .i64 lb) := carry hb1 (by go_simp)
  have b1_1 : w1.cell? ⟨w.heap.size + 1, 1, none⟩ = some (.int .i64 0) := carry hb1 (by go_simp)
  have bz_1 : w.heap.size + 1 < w1.heap.size := by have := hb1.size; first | omega | (simp at this; omega)
  have r0_1 : w1.cell? ⟨w.heap.size + 1 + 1, 0, none⟩ = some (.int .i64 0) := carry hb1 (by go_simp)
  have rf0_1 : w1.frozen? ⟨w.heap.size + 1 + 1, 0, none⟩ = false := carryF hb1 (v := .int .i64 0) (by go_simp) (by go_simp)
  have r1_1 : w1.cell? ⟨w.heap.size + 1 + 1, 1, none⟩ = some (.int .i64 0) := carry hb1 (by go_simp)
  have rf1_1 : w1.frozen? ⟨w.heap.size + 1 + 1, 1, none⟩ = false := carryF hb1 (v := .int .i64 0) (by go_simp) (by go_simp)
  have rz_1 : w.heap.size + 1 + 1 < w1.heap.size := by have := hb1.size; first | omega | (simp at this; omega)
  have HB_1 := Lib.hid ((by repeat (first | exact Below.refl _ _ | refine Below.drew ?_ | refine Below.setCell ?_ (by first | omega | (simp; done) | (simp; omega)) _ | refine Below.alloc ?_ (by first | omega | (simp; done) | (simp; omega)) _) : Below w.heap.size w _).trans (hb1.mono (by first | omega | (simp; done) | (simp; omega))))
  have nz_1 : w.heap.size ≤ w1.heap.size := HB_1.out.size
  clear hb1
  rw [show (vsp la ua && vsp lb 0) = bsp la ua lb 0 from rfl, HB.out]
  go_wp2_with fail
  refine (vspan_is KB.out _).mono ?_
  rintro e w2 ⟨rfl, hb2⟩
  have a0_2 : w2.cell? ⟨w.heap.size, 0, none⟩ = some (.int .i64 la) := carry hb2 (by go_simp)
  have a1_2 : w2.cell? ⟨w.heap.size, 1, none⟩ = some (.int .i64 ua) := carry hb2 (by go_simp)
  have az_2 : w.heap.size < w2.heap.size := by have := hb2.size; first | omega | (simp at this; omega)
  have b0_2 : w2.cell? ⟨w.heap.size + 1, 0, none⟩ = some (.int .i64 lb) := carry hb2 (by go_simp)
  have b1_2 : w2.cell? ⟨w.heap.size + 1, 1, none⟩ = some (.int .i64 0) := carry hb2 (by go_simp)
  have bz_2 : w.heap.size + 1 < w2.heap.size := by have := hb2.size; first | omega | (simp at this; omega)
  have r0_2 : w2.cell? ⟨w.heap.size + 1 + 1, 0, none⟩ = some (.int .i64 0) := carry hb2 (by go_simp)
  have rf0_2 : w2.frozen? ⟨w.heap.size + 1 + 1, 0, none⟩ = false := carryF hb2 (v := .int .i64 0) (by go_simp) (by go_simp)
  have r1_2 : w2.cell? ⟨w.heap.size + 1 + 1, 1, none⟩ = some (.int .i64 0) := carry hb2 (by go_simp)
  have rf1_2 : w2.frozen? ⟨w.heap.size + 1 + 1, 1, none⟩ = false := carryF hb2 (v := .int .i64 0) (by go_simp) (by go_simp)
  have rz_2 : w.heap.size + 1 + 1 < w2.heap.size := by have := hb2.size; first | omega | (simp at this; omega)
  have x0_2 : w2.cell? ⟨w1.heap.size, 0, none⟩ = some (.int .i64 lb) := carry hb2 (by go_simp)
  have x1_2 : w2.cell? ⟨w1.heap.size, 1, none⟩ = some (.int .i64 (-1)) := carry hb2 (by go_simp)
  have xz_2 : w1.heap.size < w2.heap.size := by have := hb2.size; first | omega | (simp at this; omega)
  have y0_2 : w2.cell? ⟨w1.heap.size + 1, 0, none⟩ = some (.int .i64 1) := carry hb2 (by go_simp)
  have y1_2 : w2.cell? ⟨w1.heap.size + 1, 1, none⟩ = some (.int .i64 0) := carry hb2 (by go_simp)
  have yz_2 : w1.heap.size + 1 < w2.heap.size := by have := hb2.size; first | omega | (simp at this; omega)
  have HB_2 := Lib.hid ((by repeat (first | exact HB_1.out | refine Below.drew ?_ | refine Below.setCell ?_ (by first | omega | (simp; done) | (simp; omega)) _ | refine Below.alloc ?_ (by first | omega | (simp; done) | (simp; omega)) _) : Below w.heap.size w _).trans (hb2.mono (by first | omega | (simp; done) | (simp; omega))))
  have nz_2 : w.heap.size ≤ w2.heap.size := HB_2.out.size
  clear hb2 a0_1 a1_1 b0_1 b1_1 r0_1 rf0_1 r1_1 rf1_1 HB_1
  go_wp2_with fail
  refine (vspan_is KA.out _).mono ?_
  rintro e w3 ⟨rfl, hb3⟩
  have a0_3 : w3.cell? ⟨w.heap.size, 0, none⟩ = some (.int .i64 la) := carry hb3 (by go_simp)
  have a1_3 : w3.cell? ⟨w.heap.size, 1, none⟩ = some (.int .i64 ua) := carry hb3 (by go_simp)
  have az_3 : w.heap.size < w3.heap.size := by have := hb3.size; first | omega | (simp at this; omega)
  have b0_3 : w3.cell? ⟨w.heap.size + 1, 0, none⟩ = some (.int .i64 lb) := carry hb3 (by go_simp)
  have b1_3 : w3.cell? ⟨w.heap.size + 1, 1, none⟩ = some (.int .i64 0) := carry hb3 (by go_simp)
  have bz_3 : w.heap.size + 1 < w3.heap.size := by have := hb3.size; first | omega | (simp at this; omega)
  have r0_3 : w3.cell? ⟨w.heap.size + 1 + 1, 0, none⟩ = some (.int .i64 0) := carry hb3 (by go_simp)
  have rf0_3 : w3.frozen? ⟨w.heap.size + 1 + 1, 0, none⟩ = false := carryF hb3 (v := .int .i64 0) (by go_simp) (by go_simp)
  have r1_3 : w3.cell? ⟨w.heap.size + 1 + 1, 1, none⟩ = some (.int .i64 0) := carry hb3 (by go_simp)
  have rf1_3 : w3.frozen? ⟨w.heap.size + 1 + 1, 1, none⟩ = false := carryF hb3 (v := .int .i64 0) (by go_simp) (by go_simp)
  have rz_3 : w.heap.size + 1 + 1 < w3.heap.size := by have := hb3.size; first | omega | (simp at this; omega)
  have x0_3 : w3.cell? ⟨w1.heap.size, 0, none⟩ = some (.int .i64 lb) := carry hb3 (by go_simp)
  have x1_3 : w3.cell? ⟨w1.heap.size, 1, none⟩ = some (.int .i64 (-1)) := carry hb3 (by go_simp)
  have xz_3 : w1.heap.size < w3.heap.size := by have := hb3.size; first | omega | (simp at this; omega)
  have y0_3 : w3.cell? ⟨w1.heap.size + 1, 0, none⟩ = some (.int .i64 1) := carry hb3 (by go_simp)
  have y1_3 : w3.cell? ⟨w1.heap.size + 1, 1, none⟩ = some (.int .i64 0) := carry hb3 (by go_simp)
  have yz_3 : w1.heap.size + 1 < w3.heap.size := by have := hb3.size; first | omega | (simp at this; omega)
  have HB_3 := Lib.hid ((by repeat (first | exact HB_2.out | refine Below.drew ?_ | refine Below.setCell ?_ (by first | omega | (simp; done) | (simp; omega)) _ | refine Below.alloc ?_ (by first | omega | (simp; done) | (simp; omega)) _) : Below w.heap.size w _).trans (hb3.mono (by first | omega | (simp; done) | (simp; omega))))
  have nz_3 : w.heap.size ≤ w3.heap.size := HB_3.out.size
  clear hb3 a0_2 a1_2 b0_2 b1_2 r0_2 rf0_2 r1_2 rf1_2 x0_2 x1_2 y0_2 y1_2 HB_2
  go_wp2_with fail
  refine (vspan_is KB.out _).mono ?_
  rintro e w4 ⟨rfl, hb4⟩
  have a0_4 : w4.cell? ⟨w.heap.size, 0, none⟩ = some (.int .i64 la) := carry hb4 (by go_simp)
  have a1_4 : w4.cell? ⟨w.heap.size, 1, none⟩ = some (.int .i64 ua) := carry hb4 (by go_simp)
  have az_4 : w.heap.size < w4.heap.size := by have := hb4.size; first | omega | (simp at this; omega)
  have b0_4 : w4.cell? ⟨w.heap.size + 1, 0, none⟩ = some (.int .i64 lb) := carry hb4 (by go_simp)
  have b1_4 : w4.cell? ⟨w.heap.size + 1, 1, none⟩ = some (.int .i64 0) := carry hb4 (by go_simp)
  have bz_4 : w.heap.size + 1 < w4.heap.size := by have := hb4.size; first | omega | (simp at this; omega)
  have r0_4 : w4.cell? ⟨w.heap.size + 1 + 1, 0, none⟩ = some (.int .i64 0) := carry hb4 (by go_simp)
  have rf0_4 : w4.frozen? ⟨w.heap.size + 1 + 1, 0, none⟩ = false := carryF hb4 (v := .int .i64 0) (by go_simp) (by go_simp)
  have r1_4 : w4.cell? ⟨w.heap.size + 1 + 1, 1, none⟩ = some (.int .i64 0) := carry hb4 (by go_simp)
  have rf1_4 : w4.frozen? ⟨w.heap.size + 1 + 1, 1, none⟩ = false := carryF hb4 (v := .int .i64 0) (by go_simp) (by go_simp)
  have rz_4 : w.heap.size + 1 + 1 < w4.heap.size := by have := hb4.size; first | omega | (simp at this; omega)
  have x0_4 : w4.cell? ⟨w1.heap.size, 0, none⟩ = some (.int .i64 lb) := carry hb4 (by go_simp)
  have x1_4 : w4.cell? ⟨w1.heap.size, 1, none⟩ = some (.int .i64 (-1)) := carry hb4 (by go_simp)
  have xz_4 : w1.heap.size < w4.heap.size := by have := hb4.size; first | omega | (simp at this; omega)
  have y0_4 : w4.cell? ⟨w1.heap.size + 1, 0, none⟩ = some (.int .i64 1) := carry hb4 (by go_simp)
  have y1_4 : w4.cell? ⟨w1.heap.size + 1, 1, none⟩ = some (.int .i64 0) := carry hb4 (by go_simp)
  have yz_4 : w1.heap.size + 1 < w4.heap.size := by have := hb4.size; first | omega | (simp at this; omega)
  have HB_4 := Lib.hid ((by repeat (first | exact HB_3.out | refine Below.drew ?_ | refine Below.setCell ?_ (by first | omega | (simp; done) | (simp; omega)) _ | refine Below.alloc ?_ (by first | omega | (simp; done) | (simp; omega)) _) : Below w.heap.size w _).trans (hb4.mono (by first | omega | (simp; done) | (simp; omega))))
  have nz_4 : w.heap.size ≤ w4.heap.size := HB_4.out.size
  clear hb4 a0_3 a1_3 b0_3 b1_3 r0_3 rf0_3 r1_3 rf1_3 x0_3 x1_3 y0_3 y1_3 HB_3
  go_wp2_with fail
  refine (extquo_any la ua (lb) ((-1)) _ ⟨v1, v2⟩ ⟨v3, v4⟩ (by omega) (by omega)).mono ?_
  rintro e w5 ⟨rfl, hb5⟩
  have a0_5 : w5.cell? ⟨w.heap.size, 0, none⟩ = some (.int .i64 la) := carry hb5 (by go_simp)
  have a1_5 : w5.cell? ⟨w.heap.size, 1, none⟩ = some (.int .i64 ua) := carry hb5 (by go_simp)
  have az_5 : w.heap.size < w5.heap.size := by have := hb5.size; first | omega | (simp at this; omega)
  have b0_5 : w5.cell? ⟨w.heap.size + 1, 0, none⟩ = some (.int .i64 lb) := carry hb5 (by go_simp)
  have b1_5 : w5.cell? ⟨w.heap.size + 1, 1, none⟩ = some (.int .i64 0) := carry hb5 (by go_simp)
  have bz_5 : w.heap.size + 1 < w5.heap.size := by have := hb5.size; first | omega | (simp at this; omega)
  have r0_5 : w5.cell? ⟨w.heap.size + 1 + 1, 0, none⟩ = some (.int .i64 0) := carry hb5 (by go_simp)
  have rf0_5 : w5.frozen? ⟨w.heap.size + 1 + 1, 0, none⟩ = false := carryF hb5 (v := .int .i64 0) (by go_simp) (by go_simp)
  have r1_5 : w5.cell? ⟨w.heap.size + 1 + 1, 1, none⟩ = some (.int .i64 0) := carry hb5 (by go_simp)
  have rf1_5 : w5.frozen? ⟨w.heap.size + 1 + 1, 1, none⟩ = false := carryF hb5 (v := .int .i64 0) (by go_simp) (by go_simp)
  have rz_5 : w.heap.size + 1 + 1 < w5.heap.size := by have := hb5.size; first | omega | (simp at this; omega)
  have x0_5 : w5.cell? ⟨w1.heap.size, 0, none⟩ = some (.int .i64 lb) := carry hb5 (by go_simp)
  have x1_5 : w5.cell? ⟨w1.heap.size, 1, none⟩ = some (.int .i64 (-1)) := carry hb5 (by go_simp)
  have xz_5 : w1.heap.size < w5.heap.size := by have := hb5.size; first | omega | (simp at this; omega)
  have y0_5 : w5.cell? ⟨w1.heap.size + 1, 0, none⟩ = some (.int .i64 1) := carry hb5 (by go_simp)
  have y1_5 : w5.cell? ⟨w1.heap.size + 1, 1, none⟩ = some (.int .i64 0) := carry hb5 (by go_simp)
  have yz_5 : w1.heap.size + 1 < w5.heap.size := by have := hb5.size; first | omega | (simp at this; omega)
  have HB_5 := Lib.hid ((by repeat (first | exact HB_4.out | refine Below.drew ?_ | refine Below.setCell ?_ (by first | omega | (simp; done) | (simp; omega)) _ | refine Below.alloc ?_ (by first | omega | (simp; done) | (simp; omega)) _) : Below w.heap.size w _).trans (hb5.mono (by first | omega | (simp; done) | (simp; omega))))
  have nz_5 : w.heap.size ≤ w5.heap.size := HB_5.out.size
  clear hb5 a0_4 a1_4 b0_4 b1_4 r0_4 rf0_4 r1_4 rf1_4 x0_4 x1_4 y0_4 y1_4 HB_4
  go_upto_region 13 with fail
  have b0' : ((w5.setCell ⟨w.heap.size + 1 + 1, 0, none⟩ (.int .i64 (low4 (quoF la ua (lb) ((-1)))))).setCell ⟨w.heap.size + 1 + 1, 1, none⟩ (.int .i64 (high4 (quoF la ua (lb) ((-1)))))).cell? ⟨w.heap.size + 1, 0, none⟩ = some (.int .i64 lb) := by go_simp
  have b1' : ((w5.setCell ⟨w.heap.size + 1 + 1, 0, none⟩ (.int .i64 (low4 (quoF la ua (lb) ((-1)))))).setCell ⟨w.heap.size + 1 + 1, 1, none⟩ (.int .i64 (high4 (quoF la ua (lb) ((-1)))))).cell? ⟨w.heap.size + 1, 1, none⟩ = some (.int .i64 0) := by go_simp
  have r0' : ((w5.setCell ⟨w.heap.size + 1 + 1, 0, none⟩ (.int .i64 (low4 (quoF la ua (lb) ((-1)))))).setCell ⟨w.heap.size + 1 + 1, 1, none⟩ (.int .i64 (high4 (quoF la ua (lb) ((-1)))))).cell? ⟨w.heap.size + 1 + 1, 0, none⟩ = some (.int .i64 (low4 (quoF la ua (lb) ((-1))))) := by go_simp
  have r1' : ((w5.setCell ⟨w.heap.size + 1 + 1, 0, none⟩ (.int .i64 (low4 (quoF la ua (lb) ((-1)))))).setCell ⟨w.heap.size + 1 + 1, 1, none⟩ (.int .i64 (high4 (quoF la ua (lb) ((-1)))))).cell? ⟨w.heap.size + 1 + 1, 1, none⟩ = some (.int .i64 (high4 (quoF la ua (lb) ((-1))))) := by go_simp
  have f0' : ((w5.setCell ⟨w.heap.size + 1 + 1, 0, none⟩ (.int .i64 (low4 (quoF la ua (lb) ((-1)))))).setCell ⟨w.heap.size + 1 + 1, 1, none⟩ (.int .i64 (high4 (quoF la ua (lb) ((-1)))))).frozen? ⟨w.heap.size + 1 + 1, 0, none⟩ = false := by go_simp
  have f1' : ((w5.setCell ⟨w.heap.size + 1 + 1, 0, none⟩ (.int .i64 (low4 (quoF la ua (lb) ((-1)))))).setCell ⟨w.heap.size + 1 + 1, 1, none⟩ (.int .i64 (high4 (quoF la ua (lb) ((-1)))))).frozen? ⟨w.heap.size + 1 + 1, 1, none⟩ = false := by go_simp
  have HBx := Lib.hid ((HB_5.out.setCell (p := ⟨w.heap.size + 1 + 1, 0, none⟩) (by show w.heap.size ≤ w.heap.size + 1 + 1; omega) (.int .i64 (low4 (quoF la ua (lb) ((-1)))))).setCell (p := ⟨w.heap.size + 1 + 1, 1, none⟩) (by show w.heap.size ≤ w.heap.size + 1 + 1; omega) (.int .i64 (high4 (quoF la ua (lb) ((-1))))))
  generalize ((w5.setCell ⟨w.heap.size + 1 + 1, 0, none⟩ (.int .i64 (low4 (quoF la ua (lb) ((-1)))))).setCell ⟨w.heap.size + 1 + 1, 1, none⟩ (.int .i64 (high4 (quoF la ua (lb) ((-1)))))) = wz at *
  clear a0_5 a1_5 b0_5 b1_5 r0_5 rf0_5 r1_5 rf1_5 x0_5 x1_5 y0_5 y1_5
  skip
  have r0_z := r0'
  have r1_z := r1'
  go_wp2_with fail
  go_region
  all_goals go_wp2_with fail
  all_goals refine bodyPost_ret (v := opV (low4 (quoF la ua (lb) ((-1)))) (high4 (quoF la ua (lb) ((-1)))) true 0) ?_ rfl ⟨rfl, ?_⟩
  all_goals first | (simp [results, Try.results17, go_sem, r0_z, r1_z]; done) | (repeat (first | exact HBx.out | refine Below.drew ?_ | refine Below.setCell ?_ (by first | omega | (simp; done) | (simp; omega)) _ | refine Below.alloc ?_ (by first | omega | (simp; done) | (simp; omega)) _))

set_option maxRecDepth 100000 in
set_option maxHeartbeats 2000000 in
theorem squo_pos (la ua lb ub : Int) (w : World) (HB : Hid (bsp la ua lb ub = true)) (hl : 1 ≤ lb) :
    Calls Try.prog 17 #[spanV la ua, spanV lb ub] w fun e w' => e = .returned (opV (low4 (quoF la ua (lb) (ub))) (high4 (quoF la ua (lb) (ub))) false 0) ∧ Below w.heap.size w w' := by
  have ⟨⟨⟨v1, v2⟩, ⟨v3, v4⟩, v5⟩, ⟨v6, v7⟩, ⟨v8, v9⟩, v10⟩ := bsp_iff.1 HB.out
  have KB := Lib.hid (show vsp lb (-1) = false from by rw [Bool.eq_false_iff]; intro h; have := vsp_iff.1 h; omega)
  have KA := Lib.hid (show vsp lb ub = true from by rw [vsp_iff]; omega)
  have : decide (lb ≤ 0) = false := by simp <;> omega
  have : decide (0 ≤ ub) = true := by simp <;> omega
  have e1 : -1 < ub := by omega
  have e2 : ¬ lb < 1 := by omega
  go_enter Try.func17, Try.ntmps17
  go_wp2_with fail
  refine (bsp_any _ _ _ _ _).mono ?_
  rintro e w1 ⟨rfl, hb1⟩
  have a0_1 : w1.cell? ⟨w.heap.size, 0, none⟩ = some (.int .i64 la) := carry hb1 (by go_simp)
  have a1_1 : w1.cell? ⟨w.heap.size, 1, none⟩ = some (.int .i64 ua) := carry hb1 (by go_simp)
  have az_1 : w.heap.size < w1.heap.size := by have := hb1.size; first | omega | (simp at this; omega)
  have b0_1 : w1.cell? ⟨w.heap.size + 1, 0, none⟩ = some (.int .i64 lb) := carry hb1 (by go_simp)
  have b1_1 : w1.cell? ⟨w.heap.size + 1, 1, none⟩ = some (.int .i64 ub) := carry hb1 (by go_simp)
  have bz_1 : w.heap.size + 1 < w1.heap.size := by have := hb1.size; first | omega | (simp at this; omega)
  have r0_1 : w1.cell? ⟨w.heap.size + 1 + 1, 0, none⟩ = some (.int .i64 0) := carry hb1 (by go_simp)
  have rf0_1 : w1.frozen? ⟨w.heap.size + 1 + 1, 0, none⟩ = false := carryF hb1 (v := .int .i64 0) (by go_simp) (by go_simp)
  have r1_1 : w1.cell? ⟨w.heap.size + 1 + 1, 1, none⟩ = some (.int .i64 0) := carry hb1 (by go_simp)
  have rf1_1 : w1.frozen? ⟨w.heap.size + 1 + 1, 1, none⟩ = false := carryF hb1 (v := .int .i64 0) (by go_simp) (by go_simp)
  have rz_1 : w.heap.size + 1 + 1 < w1.heap.size := by have := hb1.size; first | omega | (simp at this; omega)
  have HB_1 := Lib.hid ((by repeat (first | exact Below.refl _ _ | refine Below.drew ?_ | refine Below.setCell ?_ (by first | omega | (simp; done) | (simp; omega)) _ | refine Below.alloc ?_ (by first | omega | (simp; done) | (simp; omega)) _) : Below w.heap.size w _).trans (hb1.mono (by first | omega | (simp; done) | (simp; omega))))
  have nz_1 : w.heap.size ≤ w1.heap.size := HB_1.out.size
  clear hb1
  rw [show (vsp la ua && vsp lb ub) = bsp la ua lb ub from rfl, HB.out]
  go_wp2_with fail
  refine (vspan_is KB.out _).mono ?_
  rintro e w2 ⟨rfl, hb2⟩
  have a0_2 : w2.cell? ⟨w.heap.size, 0, none⟩ = some (.int .i64 la) := carry hb2 (by go_simp)
  have a1_2 : w2.cell? ⟨w.heap.size, 1, none⟩ = some (.int .i64 ua) := carry hb2 (by go_simp)
  have az_2 : w.heap.size < w2.heap.size := by have := hb2.size; first | omega | (simp at this; omega)
  have b0_2 : w2.cell? ⟨w.heap.size + 1, 0, none⟩ = some (.int .i64 lb) := carry hb2 (by go_simp)
  have b1_2 : w2.cell? ⟨w.heap.size + 1, 1, none⟩ = some (.int .i64 ub) := carry hb2 (by go_simp)
  have bz_2 : w.heap.size + 1 < w2.heap.size := by have := hb2.size; first | omega | (simp at this; omega)
  have r0_2 : w2.cell? ⟨w.heap.size + 1 + 1, 0, none⟩ = some (.int .i64 0) := carry hb2 (by go_simp)
  have rf0_2 : w2.frozen? ⟨w.heap.size + 1 + 1, 0, none⟩ = false := carryF hb2 (v := .int .i64 0) (by go_simp) (by go_simp)
  have r1_2 : w2.cell? ⟨w.heap.size + 1 + 1, 1, none⟩ = some (.int .i64 0) := carry hb2 (by go_simp)
  have rf1_2 : w2.frozen? ⟨w.heap.size + 1 + 1, 1, none⟩ = false := carryF hb2 (v := .int .i64 0) (by go_simp) (by go_simp)
  have rz_2 : w.heap.size + 1 + 1 < w2.heap.size := by have := hb2.size; first | omega | (simp at this; omega)
  have x0_2 : w2.cell? ⟨w1.heap.size, 0, none⟩ = some (.int .i64 lb) := carry hb2 (by go_simp)
  have x1_2 : w2.cell? ⟨w1.heap.size, 1, none⟩ = some (.int .i64 (-1)) := carry hb2 (by go_simp)
  have xz_2 : w1.heap.size < w2.heap.size := by have := hb2.size; first | omega | (simp at this; omega)
  have y0_2 : w2.cell? ⟨w1.heap.size + 1, 0, none⟩ = some (.int .i64 lb) := carry hb2 (by go_simp)
  have y1_2 : w2.cell? ⟨w1.heap.size + 1, 1, none⟩ = some (.int .i64 ub) := carry hb2 (by go_simp)
  have yz_2 : w1.heap.size + 1 < w2.heap.size := by have := hb2.size; first | omega | (simp at this; omega)
  have HB_2 := Lib.hid ((by repeat (first | exact HB_1.out | refine Below.drew ?_ | refine Below.setCell ?_ (by first | omega | (simp; done) | (simp; omega)) _ | refine Below.alloc ?_ (by first | omega | (simp; done) | (simp; omega)) _) : Below w.heap.size w _).trans (hb2.mono (by first | omega | (simp; done) | (simp; omega))))
  have nz_2 : w.heap.size ≤ w2.heap.size := HB_2.out.size
  clear hb2 a0_1 a1_1 b0_1 b1_1 r0_1 rf0_1 r1_1 rf1_1 HB_1
  go_wp2_with fail
  refine (vspan_is KB.out _).mono ?_
  rintro e w3 ⟨rfl, hb3⟩
  have a0_3 : w3.cell? ⟨w.heap.size, 0, none⟩ = some (.int .i64 la) := carry hb3 (by go_simp)
  have a1_3 : w3.cell? ⟨w.heap.size, 1, none⟩ = some (.int .i64 ua) := carry hb3 (by go_simp)
  have az_3 : w.heap.size < w3.heap.size := by have := hb3.size; first | omega | (simp at this; omega)
  have b0_3 : w3.cell? ⟨w.heap.size + 1, 0, none⟩ = some (.int .i64 lb) := carry hb3 (by go_simp)
  have b1_3 : w3.cell? ⟨w.heap.size + 1, 1, none⟩ = some (.int .i64 ub) := carry hb3 (by go_simp)
  have bz_3 : w.heap.size + 1 < w3.heap.size := by have := hb3.size; first | omega | (simp at this; omega)
  have r0_3 : w3.cell? ⟨w.heap.size + 1 + 1, 0, none⟩ = some (.int .i64 0) := carry hb3 (by go_simp)
  have rf0_3 : w3.frozen? ⟨w.heap.size + 1 + 1, 0, none⟩ = false := carryF hb3 (v := .int .i64 0) (by go_simp) (by go_simp)
  have r1_3 : w3.cell? ⟨w.heap.size + 1 + 1, 1, none⟩ = some (.int .i64 0) := carry hb3 (by go_simp)
  have rf1_3 : w3.frozen? ⟨w.heap.size + 1 + 1, 1, none⟩ = false := carryF hb3 (v := .int .i64 0) (by go_simp) (by go_simp)
  have rz_3 : w.heap.size + 1 + 1 < w3.heap.size := by have := hb3.size; first | omega | (simp at this; omega)
  have x0_3 : w3.cell? ⟨w1.heap.size, 0, none⟩ = some (.int .i64 lb) := carry hb3 (by go_simp)
  have x1_3 : w3.cell? ⟨w1.heap.size, 1, none⟩ = some (.int .i64 (-1)) := carry hb3 (by go_simp)
  have xz_3 : w1.heap.size < w3.heap.size := by have := hb3.size; first | omega | (simp at this; omega)
  have y0_3 : w3.cell? ⟨w1.heap.size + 1, 0, none⟩ = some (.int .i64 lb) := carry hb3 (by go_simp)
  have y1_3 : w3.cell? ⟨w1.heap.size + 1, 1, none⟩ = some (.int .i64 ub) := carry hb3 (by go_simp)
  have yz_3 : w1.heap.size + 1 < w3.heap.size := by have := hb3.size; first | omega | (simp at this; omega)
  have HB_3 := Lib.hid ((by repeat (first | exact HB_2.out | refine Below.drew ?_ | refine Below.setCell ?_ (by first | omega | (simp; done) | (simp; omega)) _ | refine Below.alloc ?_ (by first | omega | (simp; done) | (simp; omega)) _) : Below w.heap.size w _).trans (hb3.mono (by first | omega | (simp; done) | (simp; omega))))
  have nz_3 : w.heap.size ≤ w3.heap.size := HB_3.out.size
  clear hb3 a0_2 a1_2 b0_2 b1_2 r0_2 rf0_2 r1_2 rf1_2 x0_2 x1_2 y0_2 y1_2 HB_2
  go_wp2_with fail
  refine (vspan_is KA.out _).mono ?_
  rintro e w4 ⟨rfl, hb4⟩
  have a0_4 : w4.cell? ⟨w.heap.size, 0, none⟩ = some (.int .i64 la) := carry hb4 (by go_simp)
  have a1_4 : w4.cell? ⟨w.heap.size, 1, none⟩ = some (.int .i64 ua) := carry hb4 (by go_simp)
  have az_4 : w.heap.size < w4.heap.size := by have := hb4.size; first | omega | (simp at this; omega)
  have b0_4 : w4.cell? ⟨w.heap.size + 1, 0, none⟩ = some (.int .i64 lb) := carry hb4 (by go_simp)
  have b1_4 : w4.cell? ⟨w.heap.size + 1, 1, none⟩ = some (.int .i64 ub) := carry hb4 (by go_simp)
  have bz_4 : w.heap.size + 1 < w4.heap.size := by have := hb4.size; first | omega | (simp at this; omega)
  have r0_4 : w4.cell? ⟨w.heap.size + 1 + 1, 0, none⟩ = some (.int .i64 0) := carry hb4 (by go_simp)
  have rf0_4 : w4.frozen? ⟨w.heap.size + 1 + 1, 0, none⟩ = false := carryF hb4 (v := .int .i64 0) (by go_simp) (by go_simp)
  have r1_4 : w4.cell? ⟨w.heap.size + 1 + 1, 1, none⟩ = some (.int .i64 0) := carry hb4 (by go_simp)
  have rf1_4 : w4.frozen? ⟨w.heap.size + 1 + 1, 1, none⟩ = false := carryF hb4 (v := .int .i64 0) (by go_simp) (by go_simp)
  have rz_4 : w.heap.size + 1 + 1 < w4.heap.size := by have := hb4.size; first | omega | (simp at this; omega)
  have x0_4 : w4.cell? ⟨w1.heap.size, 0, none⟩ = some (.int .i64 lb) := carry hb4 (by go_simp)
  have x1_4 : w4.cell? ⟨w1.heap.size, 1, none⟩ = some (.int .i64 (-1)) := carry hb4 (by go_simp)
  have xz_4 : w1.heap.size < w4.heap.size := by have := hb4.size; first | omega | (simp at this; omega)
  have y0_4 : w4.cell? ⟨w1.heap.size + 1, 0, none⟩ = some (.int .i64 lb) := carry hb4 (by go_simp)
  have y1_4 : w4.cell? ⟨w1.heap.size + 1, 1, none⟩ = some (.int .i64 ub) := carry hb4 (by go_simp)
  have yz_4 : w1.heap.size + 1 < w4.heap.size := by have := hb4.size; first | omega | (simp at this; omega)
  have HB_4 := Lib.hid ((by repeat (first | exact HB_3.out | refine Below.drew ?_ | refine Below.setCell ?_ (by first | omega | (simp; done) | (simp; omega)) _ | refine Below.alloc ?_ (by first | omega | (simp; done) | (simp; omega)) _) : Below w.heap.size w _).trans (hb4.mono (by first | omega | (simp; done) | (simp; omega))))
  have nz_4 : w.heap.size ≤ w4.heap.size := HB_4.out.size
  clear hb4 a0_3 a1_3 b0_3 b1_3 r0_3 rf0_3 r1_3 rf1_3 x0_3 x1_3 y0_3 y1_3 HB_3
  go_wp2_with fail
  refine (extquo_any la ua (lb) (ub) _ ⟨v1, v2⟩ ⟨v3, v4⟩ (by omega) (by omega)).mono ?_
  rintro e w5 ⟨rfl, hb5⟩
  have a0_5 : w5.cell? ⟨w.heap.size, 0, none⟩ = some (.int .i64 la) := carry hb5 (by go_simp)
  have a1_5 : w5.cell? ⟨w.heap.size, 1, none⟩ = some (.int .i64 ua) := carry hb5 (by go_simp)
  have az_5 : w.heap.size < w5.heap.size := by have := hb5.size; first | omega | (simp at this; omega)
  have b0_5 : w5.cell? ⟨w.heap.size + 1, 0, none⟩ = some (.int .i64 lb) := carry hb5 (by go_simp)
  have b1_5 : w5.cell? ⟨w.heap.size + 1, 1, none⟩ = some (.int .i64 ub) := carry hb5 (by go_simp)
  have bz_5 : w.heap.size + 1 < w5.heap.size := by have := hb5.size; first | omega | (simp at this; omega)
  have r0_5 : w5.cell? ⟨w.heap.size + 1 + 1, 0, none⟩ = some (.int .i64 0) := carry hb5 (by go_simp)
  have rf0_5 : w5.frozen? ⟨w.heap.size + 1 + 1, 0, none⟩ = false := carryF hb5 (v := .int .i64 0) (by go_simp) (by go_simp)
  have r1_5 : w5.cell? ⟨w.heap.size + 1 + 1, 1, none⟩ = some (.int .i64 0) := carry hb5 (by go_simp)
  have rf1_5 : w5.frozen? ⟨w.heap.size + 1 + 1, 1, none⟩ = false := carryF hb5 (v := .int .i64 0) (by go_simp) (by go_simp)
  have rz_5 : w.heap.size + 1 + 1 < w5.heap.size := by have := hb5.size; first | omega | (simp at this; omega)
  have x0_5 : w5.cell? ⟨w1.heap.size, 0, none⟩ = some (.int .i64 lb) := carry hb5 (by go_simp)
  have x1_5 : w5.cell? ⟨w1.heap.size, 1, none⟩ = some (.int .i64 (-1)) := carry hb5 (by go_simp)
  have xz_5 : w1.heap.size < w5.heap.size := by have := hb5.size; first | omega | (simp at this; omega)
  have y0_5 : w5.cell? ⟨w1.heap.size + 1, 0, none⟩ = some (.int .i64 lb) := carry hb5 (by go_simp)
  have y1_5 : w5.cell? ⟨w1.heap.size + 1, 1, none⟩ = some (.int .i64 ub) := carry hb5 (by go_simp)
  have yz_5 : w1.heap.size + 1 < w5.heap.size := by have := hb5.size; first | omega | (simp at this; omega)
  have HB_5 := Lib.hid ((by repeat (first | exact HB_4.out | refine Below.drew ?_ | refine Below.setCell ?_ (by first | omega | (simp; done) | (simp; omega)) _ | refine Below.alloc ?_ (by first | omega | (simp; done) | (simp; omega)) _) : Below w.heap.size w _).trans (hb5.mono (by first | omega | (simp; done) | (simp; omega))))
  have nz_5 : w.heap.size ≤ w5.heap.size := HB_5.out.size
  clear hb5 a0_4 a1_4 b0_4 b1_4 r0_4 rf0_4 r1_4 rf1_4 x0_4 x1_4 y0_4 y1_4 HB_4
  go_upto_region 13 with fail
  have b0' : ((w5.setCell ⟨w.heap.size + 1 + 1, 0, none⟩ (.int .i64 (low4 (quoF la ua (lb) (ub))))).setCell ⟨w.heap.size + 1 + 1, 1, none⟩ (.int .i64 (high4 (quoF la ua (lb) (ub))))).cell? ⟨w.heap.size + 1, 0, none⟩ = some (.int .i64 lb) := by go_simp
  have b1' : ((w5.setCell ⟨w.heap.size + 1 + 1, 0, none⟩ (.int .i64 (low4 (quoF la ua (lb) (ub))))).setCell ⟨w.heap.size + 1 + 1, 1, none⟩ (.int .i64 (high4 (quoF la ua (lb) (ub))))).cell? ⟨w.heap.size + 1, 1, none⟩ = some (.int .i64 ub) := by go_simp
  have r0' : ((w5.setCell ⟨w.heap.size + 1 + 1, 0, none⟩ (.int .i64 (low4 (quoF la ua (lb) (ub))))).setCell ⟨w.heap.size + 1 + 1, 1, none⟩ (.int .i64 (high4 (quoF la ua (lb) (ub))))).cell? ⟨w.heap.size + 1 + 1, 0, none⟩ = some (.int .i64 (low4 (quoF la ua (lb) (ub)))) := by go_simp
  have r1' : ((w5.setCell ⟨w.heap.size + 1 + 1, 0, none⟩ (.int .i64 (low4 (quoF la ua (lb) (ub))))).setCell ⟨w.heap.size + 1 + 1, 1, none⟩ (.int .i64 (high4 (quoF la ua (lb) (ub))))).cell? ⟨w.heap.size + 1 + 1, 1, none⟩ = some (.int .i64 (high4 (quoF la ua (lb) (ub)))) := by go_simp
  have f0' : ((w5.setCell ⟨w.heap.size + 1 + 1, 0, none⟩ (.int .i64 (low4 (quoF la ua (lb) (ub))))).setCell ⟨w.heap.size + 1 + 1, 1, none⟩ (.int .i64 (high4 (quoF la ua (lb) (ub))))).frozen? ⟨w.heap.size + 1 + 1, 0, none⟩ = false := by go_simp
  have f1' : ((w5.setCell ⟨w.heap.size + 1 + 1, 0, none⟩ (.int .i64 (low4 (quoF la ua (lb) (ub))))).setCell ⟨w.heap.size + 1 + 1, 1, none⟩ (.int .i64 (high4 (quoF la ua (lb) (ub))))).frozen? ⟨w.heap.size + 1 + 1, 1, none⟩ = false := by go_simp
  have HBx := Lib.hid ((HB_5.out.setCell (p := ⟨w.heap.size + 1 + 1, 0, none⟩) (by show w.heap.size ≤ w.heap.size + 1 + 1; omega) (.int .i64 (low4 (quoF la ua (lb) (ub))))).setCell (p := ⟨w.heap.size + 1 + 1, 1, none⟩) (by show w.heap.size ≤ w.heap.size + 1 + 1; omega) (.int .i64 (high4 (quoF la ua (lb) (ub)))))
  generalize ((w5.setCell ⟨w.heap.size + 1 + 1, 0, none⟩ (.int .i64 (low4 (quoF la ua (lb) (ub))))).setCell ⟨w.heap.size + 1 + 1, 1, none⟩ (.int .i64 (high4 (quoF la ua (lb) (ub))))) = wz at *
  clear a0_5 a1_5 b0_5 b1_5 r0_5 rf0_5 r1_5 rf1_5 x0_5 x1_5 y0_5 y1_5
  skip
  have r0_z := r0'
  have r1_z := r1'
  go_wp2_with fail
  go_region
  all_goals go_wp2_with fail
  all_goals refine bodyPost_ret (v := opV (low4 (quoF la ua (lb) (ub))) (high4 (quoF la ua (lb) (ub))) false 0) ?_ rfl ⟨rfl, ?_⟩
  all_goals first | (simp [results, Try.results17, go_sem, r0_z, r1_z]; done) | (repeat (first | exact HBx.out | refine Below.drew ?_ | refine Below.setCell ?_ (by first | omega | (simp; done) | (simp; omega)) _ | refine Below.alloc ?_ (by first | omega | (simp; done) | (simp; omega)) _))

set_option maxRecDepth 100000 in
set_option maxHeartbeats 2000000 in
theorem squo_posz (la ua ub : Int) (w : World) (HB : Hid (bsp la ua 0 ub = true)) (hu : 1 ≤ ub) :
    Calls Try.prog 17 #[spanV la ua, spanV 0 ub] w fun e w' => e = .returned (opV (low4 (quoF la ua (1) (ub))) (high4 (quoF la ua (1) (ub))) true 0) ∧ Below w.heap.size w w' := by
  have ⟨⟨⟨v1, v2⟩, ⟨v3, v4⟩, v5⟩, ⟨v6, v7⟩, ⟨v8, v9⟩, v10⟩ := bsp_iff.1 HB.out
  have KB := Lib.hid (show vsp 0 (-1) = false from by rw [Bool.eq_false_iff]; intro h; have := vsp_iff.1 h; omega)
  have KA := Lib.hid (show vsp 1 ub = true from by rw [vsp_iff]; omega)
  have : decide (0 ≤ ub) = true := by simp <;> omega
  have e1 : -1 < ub := by omega
  go_enter Try.func17, Try.ntmps17
  go_wp2_with fail
  refine (bsp_any _ _ _ _ _).mono ?_
  rintro e w1 ⟨rfl, hb1⟩
  have a0_1 : w1.cell? ⟨w.heap.size, 0, none⟩ = some (.int .i64 la) := carry hb1 (by go_simp)
  have a1_1 : w1.cell? ⟨w.heap.size, 1, none⟩ = some (.int .i64 ua) := carry hb1 (by go_simp)
  have az_1 : w.heap.size < w1.heap.size := by have := hb1.size; first | omega | (simp at this; omega)
  have b0_1 : w1.cell? ⟨w.heap.size + 1, 0, none⟩ = some (.int .i64 0) := carry hb1 (by go_simp)
  have b1_1 : w1.cell? ⟨w.heap.size + 1, 1, none⟩ = some (.int .i64 ub) := carry hb1 (by go_simp)
  have bz_1 : w.heap.size + 1 < w1.heap.size := by have := hb1.size; first | omega | (simp at this; omega)
  have r0_1 : w1.cell? ⟨w.heap.size + 1 + 1, 0, none⟩ = some (.int .i64 0) := carry hb1 (by go_simp)
  have rf0_1 : w1.frozen? ⟨w.heap.size + 1 + 1, 0, none⟩ = false := carryF hb1 (v := .int .i64 0) (by go_simp) (by go_simp)
  have r1_1 : w1.cell? ⟨w.heap.size + 1 + 1, 1, none⟩ = some (.int .i64 0) := carry hb1 (by go_simp)
  have rf1_1 : w1.frozen? ⟨w.heap.size + 1 + 1, 1, none⟩ = false := carryF hb1 (v := .int .i64 0) (by go_simp) (by go_simp)
  have rz_1 : w.heap.size + 1 + 1 < w1.heap.size := by have := hb1.size; first | omega | (simp at this; omega)
  have HB_1 := Lib.hid ((by repeat (first | exact Below.refl _ _ | refine Below.drew ?_ | refine Below.setCell ?_ (by first | omega | (simp; done) | (simp; omega)) _ | refine Below.alloc ?_ (by first | omega | (simp; done) | (simp; omega)) _) : Below w.heap.size w _).trans (hb1.mono (by first | omega | (simp; done) | (simp; omega))))
  have nz_1 : w.heap.size ≤ w1.heap.size := HB_1.out.size
  clear hb1
  rw [show (vsp la ua && vsp 0 ub) = bsp la ua 0 ub from rfl, HB.out]
  go_wp2_with fail
  refine (vspan_is KB.out _).mono ?_
  rintro e w2 ⟨rfl, hb2⟩
  have a0_2 : w2.cell? ⟨w.heap.size, 0, none⟩ = some (.int .i64 la) := carry hb2 (by go_simp)
  have a1_2 : w2.cell? ⟨w.heap.size, 1, none⟩ = some (.int .i64 ua) := carry hb2 (by go_simp)
  have az_2 : w.heap.size < w2.heap.size := by have := hb2.size; first | omega | (simp at this; omega)
  have b0_2 : w2.cell? ⟨w.heap.size + 1, 0, none⟩ = some (.int .i64 0) := carry hb2 (by go_simp)
  have b1_2 : w2.cell? ⟨w.heap.size + 1, 1, none⟩ = some (.int .i64 ub) := carry hb2 (by go_simp)
  have bz_2 : w.heap.size + 1 < w2.heap.size := by have := hb2.size; first | omega | (simp at this; omega)
  have r0_2 : w2.cell? ⟨w.heap.size + 1 + 1, 0, none⟩ = some (.int .i64 0) := carry hb2 (by go_simp)
  have rf0_2 : w2.frozen? ⟨w.heap.size + 1 + 1, 0, none⟩ = false := carryF hb2 (v := .int .i64 0) (by go_simp) (by go_simp)
  have r1_2 : w2.cell? ⟨w.heap.size + 1 + 1, 1, none⟩ = some (.int .i64 0) := carry hb2 (by go_simp)
  have rf1_2 : w2.frozen? ⟨w.heap.size + 1 + 1, 1, none⟩ = false := carryF hb2 (v := .int .i64 0) (by go_simp) (by go_simp)
  have rz_2 : w.heap.size + 1 + 1 < w2.heap.size := by have := hb2.size; first | omega | (simp at this; omega)
  have x0_2 : w2.cell? ⟨w1.heap.size, 0, none⟩ = some (.int .i64 0) := carry hb2 (by go_simp)
  have x1_2 : w2.cell? ⟨w1.heap.size, 1, none⟩ = some (.int .i64 (-1)) := carry hb2 (by go_simp)
  have xz_2 : w1.heap.size < w2.heap.size := by have := hb2.size; first | omega | (simp at this; omega)
  have y0_2 : w2.cell? ⟨w1.heap.size + 1, 0, none⟩ = some (.int .i64 1) := carry hb2 (by go_simp)
  have y1_2 : w2.cell? ⟨w1.heap.size + 1, 1, none⟩ = some (.int .i64 ub) := carry hb2 (by go_simp)
  have yz_2 : w1.heap.size + 1 < w2.heap.size := by have := hb2.size; first | omega | (simp at this; omega)
  have HB_2 := Lib.hid ((by repeat (first | exact HB_1.out | refine Below.drew ?_ | refine Below.setCell ?_ (by first | omega | (simp; done) | (simp; omega)) _ | refine Below.alloc ?_ (by first | omega | (simp; done) | (simp; omega)) _) : Below w.heap.size w _).trans (hb2.mono (by first | omega | (simp; done) | (simp; omega))))
  have nz_2 : w.heap.size ≤ w2.heap.size := HB_2.out.size
  clear hb2 a0_1 a1_1 b0_1 b1_1 r0_1 rf0_1 r1_1 rf1_1 HB_1
  go_wp2_with fail
  refine (vspan_is KB.out _).mono ?_
  rintro e w3 ⟨rfl, hb3⟩
  have a0_3 : w3.cell? ⟨w.heap.size, 0, none⟩ = some (.int .i64 la) := carry hb3 (by go_simp)
  have a1_3 : w3.cell? ⟨w.heap.size, 1, none⟩ = some (.int .i64 ua) := carry hb3 (by go_simp)
  have az_3 : w.heap.size < w3.heap.size := by have := hb3.size; first | omega | (simp at this; omega)
  have b0_3 : w3.cell? ⟨w.heap.size + 1, 0, none⟩ = some (.int .i64 0) := carry hb3 (by go_simp)
  have b1_3 : w3.cell? ⟨w.heap.size + 1, 1, none⟩ = some (.int .i64 ub) := carry hb3 (by go_simp)
  have bz_3 : w.heap.size + 1 < w3.heap.size := by have := hb3.size; first | omega | (simp at this; omega)
  have r0_3 : w3.cell? ⟨w.heap.size + 1 + 1, 0, none⟩ = some (.int .i64 0) := carry hb3 (by go_simp)
  have rf0_3 : w3.frozen? ⟨w.heap.size + 1 + 1, 0, none⟩ = false := carryF hb3 (v := .int .i64 0) (by go_simp) (by go_simp)
  have r1_3 : w3.cell? ⟨w.heap.size + 1 + 1, 1, none⟩ = some (.int .i64 0) := carry hb3 (by go_simp)
  have rf1_3 : w3.frozen? ⟨w.heap.size + 1 + 1, 1, none⟩ = false := carryF hb3 (v := .int .i64 0) (by go_simp) (by go_simp)
  have rz_3 : w.heap.size + 1 + 1 < w3.heap.size := by have := hb3.size; first | omega | (simp at this; omega)
  have x0_3 : w3.cell? ⟨w1.heap.size, 0, none⟩ = some (.int .i64 0) := carry hb3 (by go_simp)
  have x1_3 : w3.cell? ⟨w1.heap.size, 1, none⟩ = some (.int .i64 (-1)) := carry hb3 (by go_simp)
  have xz_3 : w1.heap.size < w3.heap.size := by have := hb3.size; first | omega | (simp at this; omega)
  have y0_3 : w3.cell? ⟨w1.heap.size + 1, 0, none⟩ = some (.int .i64 1) := carry hb3 (by go_simp)
  have y1_3 : w3.cell? ⟨w1.heap.size + 1, 1, none⟩ = some (.int .i64 ub) := carry hb3 (by go_simp)
  have yz_3 : w1.heap.size + 1 < w3.heap.size := by have := hb3.size; first | omega | (simp at this; omega)
  have HB_3 := Lib.hid ((by repeat (first | exact HB_2.out | refine Below.drew ?_ | refine Below.setCell ?_ (by first | omega | (simp; done) | (simp; omega)) _ | refine Below.alloc ?_ (by first | omega | (simp; done) | (simp; omega)) _) : Below w.heap.size w _).trans (hb3.mono (by first | omega | (simp; done) | (simp; omega))))
  have nz_3 : w.heap.size ≤ w3.heap.size := HB_3.out.size
  clear hb3 a0_2 a1_2 b0_2 b1_2 r0_2 rf0_2 r1_2 rf1_2 x0_2 x1_2 y0_2 y1_2 HB_2
  go_wp2_with fail
  refine (vspan_is KA.out _).mono ?_
  rintro e w4 ⟨rfl, hb4⟩
  have a0_4 : w4.cell? ⟨w.heap.size, 0, none⟩ = some (.int .i64 la) := carry hb4 (by go_simp)
  have a1_4 : w4.cell? ⟨w.heap.size, 1, none⟩ = some (.int .i64 ua) := carry hb4 (by go_simp)
  have az_4 : w.heap.size < w4.heap.size := by have := hb4.size; first | omega | (simp at this; omega)
  have b0_4 : w4.cell? ⟨w.heap.size + 1, 0, none⟩ = some (.int .i64 0) := carry hb4 (by go_simp)
  have b1_4 : w4.cell? ⟨w.heap.size + 1, 1, none⟩ = some (.int .i64 ub) := carry hb4 (by go_simp)
  have bz_4 : w.heap.size + 1 < w4.heap.size := by have := hb4.size; first | omega | (simp at this; omega)
  have r0_4 : w4.cell? ⟨w.heap.size + 1 + 1, 0, none⟩ = some (.int .i64 0) := carry hb4 (by go_simp)
  have rf0_4 : w4.frozen? ⟨w.heap.size + 1 + 1, 0, none⟩ = false := carryF hb4 (v := .int .i64 0) (by go_simp) (by go_simp)
  have r1_4 : w4.cell? ⟨w.heap.size + 1 + 1, 1, none⟩ = some (.int .i64 0) := carry hb4 (by go_simp)
  have rf1_4 : w4.frozen? ⟨w.heap.size + 1 + 1, 1, none⟩ = false := carryF hb4 (v := .int .i64 0) (by go_simp) (by go_simp)
  have rz_4 : w.heap.size + 1 + 1 < w4.heap.size := by have := hb4.size; first | omega | (simp at this; omega)
  have x0_4 : w4.cell? ⟨w1.heap.size, 0, none⟩ = some (.int .i64 0) := carry hb4 (by go_simp)
  have x1_4 : w4.cell? ⟨w1.heap.size, 1, none⟩ = some (.int .i64 (-1)) := carry hb4 (by go_simp)
  have xz_4 : w1.heap.size < w4.heap.size := by have := hb4.size; first | omega | (simp at this; omega)
  have y0_4 : w4.cell? ⟨w1.heap.size + 1, 0, none⟩ = some (.int .i64 1) := carry hb4 (by go_simp)
  have y1_4 : w4.cell? ⟨w1.heap.size + 1, 1, none⟩ = some (.int .i64 ub) := carry hb4 (by go_simp)
  have yz_4 : w1.heap.size + 1 < w4.heap.size := by have := hb4.size; first | omega | (simp at this; omega)
  have HB_4 := Lib.hid ((by repeat (first | exact HB_3.out | refine Below.drew ?_ | refine Below.setCell ?_ (by first | omega | (simp; done) | (simp; omega)) _ | refine Below.alloc ?_ (by first | omega | (simp; done) | (simp; omega)) _) : Below w.heap.size w _).trans (hb4.mono (by first | omega | (simp; done) | (simp; omega))))
  have nz_4 : w.heap.size ≤ w4.heap.size := HB_4.out.size
  clear hb4 a0_3 a1_3 b0_3 b1_3 r0_3 rf0_3 r1_3 rf1_3 x0_3 x1_3 y0_3 y1_3 HB_3
  go_wp2_with fail
  refine (extquo_any la ua (1) (ub) _ ⟨v1, v2⟩ ⟨v3, v4⟩ (by omega) (by omega)).mono ?_
  rintro e w5 ⟨rfl, hb5⟩
  have a0_5 : w5.cell? ⟨w.heap.size, 0, none⟩ = some (.int .i64 la) := carry hb5 (by go_simp)
  have a1_5 : w5.cell? ⟨w.heap.size, 1, none⟩ = some (.int .i64 ua) := carry hb5 (by go_simp)
  have az_5 : w.heap.size < w5.heap.size := by have := hb5.size; first | omega | (simp at this; omega)
  have b0_5 : w5.cell? ⟨w.heap.size + 1, 0, none⟩ = some (.int .i64 0) := carry hb5 (by go_simp)
  have b1_5 : w5.cell? ⟨w.heap.size + 1, 1, none⟩ = some (.int .i64 ub) := carry hb5 (by go_simp)
  have bz_5 : w.heap.size + 1 < w5.heap.size := by have := hb5.size; first | omega | (simp at this; omega)
  have r0_5 : w5.cell? ⟨w.heap.size + 1 + 1, 0, none⟩ = some (.int .i64 0) := carry hb5 (by go_simp)
  have rf0_5 : w5.frozen? ⟨w.heap.size + 1 + 1, 0, none⟩ = false := carryF hb5 (v := .int .i64 0) (by go_simp) (by go_simp)
  have r1_5 : w5.cell? ⟨w.heap.size + 1 + 1, 1, none⟩ = some (.int .i64 0) := carry hb5 (by go_simp)
  have rf1_5 : w5.frozen? ⟨w.heap.size + 1 + 1, 1, none⟩ = false := carryF hb5 (v := .int .i64 0) (by go_simp) (by go_simp)
  have rz_5 : w.heap.size + 1 + 1 < w5.heap.size := by have := hb5.size; first | omega | (simp at this; omega)
  have x0_5 : w5.cell? ⟨w1.heap.size, 0, none⟩ = some (.int .i64 0) := carry hb5 (by go_simp)
  have x1_5 : w5.cell? ⟨w1.heap.size, 1, none⟩ = some (.int .i64 (-1)) := carry hb5 (by go_simp)
  have xz_5 : w1.heap.size < w5.heap.size := by have := hb5.size; first | omega | (simp at this; omega)
  have y0_5 : w5.cell? ⟨w1.heap.size + 1, 0, none⟩ = some (.int .i64 1) := carry hb5 (by go_simp)
  have y1_5 : w5.cell? ⟨w1.heap.size + 1, 1, none⟩ = some (.int .i64 ub) := carry hb5 (by go_simp)
  have yz_5 : w1.heap.size + 1 < w5.heap.size := by have := hb5.size; first | omega | (simp at this; omega)
  have HB_5 := Lib.hid ((by repeat (first | exact HB_4.out | refine Below.drew ?_ | refine Below.setCell ?_ (by first | omega | (simp; done) | (simp; omega)) _ | refine Below.alloc ?_ (by first | omega | (simp; done) | (simp; omega)) _) : Below w.heap.size w _).trans (hb5.mono (by first | omega | (simp; done) | (simp; omega))))
  have nz_5 : w.heap.size ≤ w5.heap.size := HB_5.out.size
  clear hb5 a0_4 a1_4 b0_4 b1_4 r0_4 rf0_4 r1_4 rf1_4 x0_4 x1_4 y0_4 y1_4 HB_4
  go_upto_region 13 with fail
  have b0' : ((w5.setCell ⟨w.heap.size + 1 + 1, 0, none⟩ (.int .i64 (low4 (quoF la ua (1) (ub))))).setCell ⟨w.heap.size + 1 + 1, 1, none⟩ (.int .i64 (high4 (quoF la ua (1) (ub))))).cell? ⟨w.heap.size + 1, 0, none⟩ = some (.int .i64 0) := by go_simp
  have b1' : ((w5.setCell ⟨w.heap.size + 1 + 1, 0, none⟩ (.int .i64 (low4 (quoF la ua (1) (ub))))).setCell ⟨w.heap.size + 1 + 1, 1, none⟩ (.int .i64 (high4 (quoF la ua (1) (ub))))).cell? ⟨w.heap.size + 1, 1, none⟩ = some (.int .i64 ub) := by go_simp
  have r0' : ((w5.setCell ⟨w.heap.size + 1 + 1, 0, none⟩ (.int .i64 (low4 (quoF la ua (1) (ub))))).setCell ⟨w.heap.size + 1 + 1, 1, none⟩ (.int .i64 (high4 (quoF la ua (1) (ub))))).cell? ⟨w.heap.size + 1 + 1, 0, none⟩ = some (.int .i64 (low4 (quoF la ua (1) (ub)))) := by go_simp
  have r1' : ((w5.setCell ⟨w.heap.size + 1 + 1, 0, none⟩ (.int .i64 (low4 (quoF la ua (1) (ub))))).setCell ⟨w.heap.size + 1 + 1, 1, none⟩ (.int .i64 (high4 (quoF la ua (1) (ub))))).cell? ⟨w.heap.size + 1 + 1, 1, none⟩ = some (.int .i64 (high4 (quoF la ua (1) (ub)))) := by go_simp
  have f0' : ((w5.setCell ⟨w.heap.size + 1 + 1, 0, none⟩ (.int .i64 (low4 (quoF la ua (1) (ub))))).setCell ⟨w.heap.size + 1 + 1, 1, none⟩ (.int .i64 (high4 (quoF la ua (1) (ub))))).frozen? ⟨w.heap.size + 1 + 1, 0, none⟩ = false := by go_simp
  have f1' : ((w5.setCell ⟨w.heap.size + 1 + 1, 0, none⟩ (.int .i64 (low4 (quoF la ua (1) (ub))))).setCell ⟨w.heap.size + 1 + 1, 1, none⟩ (.int .i64 (high4 (quoF la ua (1) (ub))))).frozen? ⟨w.heap.size + 1 + 1, 1, none⟩ = false := by go_simp
  have HBx := Lib.hid ((HB_5.out.setCell (p := ⟨w.heap.size + 1 + 1, 0, none⟩) (by show w.heap.size ≤ w.heap.size + 1 + 1; omega) (.int .i64 (low4 (quoF la ua (1) (ub))))).setCell (p := ⟨w.heap.size + 1 + 1, 1, none⟩) (by show w.heap.size ≤ w.heap.size + 1 + 1; omega) (.int .i64 (high4 (quoF la ua (1) (ub)))))
  generalize ((w5.setCell ⟨w.heap.size + 1 + 1, 0, none⟩ (.int .i64 (low4 (quoF la ua (1) (ub))))).setCell ⟨w.heap.size + 1 + 1, 1, none⟩ (.int .i64 (high4 (quoF la ua (1) (ub))))) = wz at *
  clear a0_5 a1_5 b0_5 b1_5 r0_5 rf0_5 r1_5 rf1_5 x0_5 x1_5 y0_5 y1_5
  skip
  have r0_z := r0'
  have r1_z := r1'
  go_wp2_with fail
  go_region
  all_goals go_wp2_with fail
  all_goals refine bodyPost_ret (v := opV (low4 (quoF la ua (1) (ub))) (high4 (quoF la ua (1) (ub))) true 0) ?_ rfl ⟨rfl, ?_⟩
  all_goals first | (simp [results, Try.results17, go_sem, r0_z, r1_z]; done) | (repeat (first | exact HBx.out | refine Below.drew ?_ | refine Below.setCell ?_ (by first | omega | (simp; done) | (simp; omega)) _ | refine Below.alloc ?_ (by first | omega | (simp; done) | (simp; omega)) _))

end Go.Proofs.Ytnhieokegidibaa
