/- The walk of the statement IntegerSets. -/
import Derived.Test.YtfklicofohaccaaProg
import Derived.Test.YtfklicofohaccaaRSpan
import Derived.Test.YtfklicofohaccaaWide
import Derived.WalkKit
import Derived.Below
import Derived.Lib.Hide

namespace Go.Proofs.Ytfklicofohaccaa.integerSets
open Go.RowKit
set_option linter.unusedVariables false

set_option maxRecDepth 100000 in
set_option maxHeartbeats 2000000 in
theorem run (l0 u0 : Int) (l1 u1 : Int) (w : World) (wl0 : (Lit.int .i64 l0).wf = true) (wu0 : (Lit.int .i64 u0).wf = true) (wl1 : (Lit.int .i64 l1).wf = true) (wu1 : (Lit.int .i64 u1).wf = true) :
    Calls Try.prog 7 #[.agg #[.int .i64 l0, .int .i64 u0], .agg #[.int .i64 l1, .int .i64 u1]] w fun e w' => e = .returned (.bool true) ∧ Below w.heap.size w w' := by
  go_enter Try.func7, Try.ntmps7
  go_wp2_with fail
  refine (scmp_any _ _ _ _ _).mono ?_
  rintro e w1 ⟨rfl, hb1⟩
  have a0_1 : w1.cell? ⟨w.heap.size, 0, none⟩ = some (.int .i64 l0) := carry hb1 (by go_simp)
  have a1_1 : w1.cell? ⟨w.heap.size, 1, none⟩ = some (.int .i64 u0) := carry hb1 (by go_simp)
  have az_1 : w.heap.size < w1.heap.size := by have := hb1.size; simp at this; omega
  have b0_1 : w1.cell? ⟨w.heap.size + 1, 0, none⟩ = some (.int .i64 l1) := carry hb1 (by go_simp)
  have b1_1 : w1.cell? ⟨w.heap.size + 1, 1, none⟩ = some (.int .i64 u1) := carry hb1 (by go_simp)
  have bz_1 : w.heap.size + 1 < w1.heap.size := by have := hb1.size; simp at this; omega
  have HB_1 := Lib.hid ((by repeat (first | exact Below.refl _ _ | refine Below.drew ?_ | refine Below.setCell ?_ (by first | omega | (simp; done) | (simp; omega)) _ | refine Below.alloc ?_ (by first | omega | (simp; done) | (simp; omega)) _) : Below w.heap.size w _).trans (hb1.mono (by first | omega | (simp; done) | (simp; omega))))
  have nz_1 : w.heap.size ≤ w1.heap.size := HB_1.out.size
  clear hb1
  go_wp2_with fail
  refine (rscmp_any _ _ _ _ _).mono ?_
  rintro e w2 ⟨rfl, hb2⟩
  have a0_2 : w2.cell? ⟨w.heap.size, 0, none⟩ = some (.int .i64 l0) := carry hb2 (by go_simp)
  have a1_2 : w2.cell? ⟨w.heap.size, 1, none⟩ = some (.int .i64 u0) := carry hb2 (by go_simp)
  have az_2 : w.heap.size < w2.heap.size := by have := hb2.size; simp at this; omega
  have b0_2 : w2.cell? ⟨w.heap.size + 1, 0, none⟩ = some (.int .i64 l1) := carry hb2 (by go_simp)
  have b1_2 : w2.cell? ⟨w.heap.size + 1, 1, none⟩ = some (.int .i64 u1) := carry hb2 (by go_simp)
  have bz_2 : w.heap.size + 1 < w2.heap.size := by have := hb2.size; simp at this; omega
  have s0_2 : w2.cell? ⟨w1.heap.size, 0, none⟩ = some (.int .i64 (scmpL l0 u0 l1 u1)) := carry hb2 (by go_simp)
  have sf0_2 : w2.frozen? ⟨w1.heap.size, 0, none⟩ = false := carryF hb2 (v := .int .i64 (scmpL l0 u0 l1 u1)) (by go_simp) (by go_simp)
  have s1_2 : w2.cell? ⟨w1.heap.size, 1, none⟩ = some (.int .i64 (scmpH l0 u0 l1 u1)) := carry hb2 (by go_simp)
  have sf1_2 : w2.frozen? ⟨w1.heap.size, 1, none⟩ = false := carryF hb2 (v := .int .i64 (scmpH l0 u0 l1 u1)) (by go_simp) (by go_simp)
  have sz_2 : w1.heap.size < w2.heap.size := by have := hb2.size; simp at this; omega
  have HB_2 := Lib.hid ((by repeat (first | exact HB_1.out | refine Below.drew ?_ | refine Below.setCell ?_ (by first | omega | (simp; done) | (simp; omega)) _ | refine Below.alloc ?_ (by first | omega | (simp; done) | (simp; omega)) _) : Below w.heap.size w _).trans (hb2.mono (by first | omega | (simp; done) | (simp; omega))))
  have nz_2 : w.heap.size ≤ w2.heap.size := HB_2.out.size
  clear hb2 a0_1 a1_1 b0_1 b1_1 HB_1
  go_wp2_with fail
  refine (smeet_any _ _ _ _ _).mono ?_
  rintro e w3 ⟨rfl, hb3⟩
  have a0_3 : w3.cell? ⟨w.heap.size, 0, none⟩ = some (.int .i64 l0) := carry hb3 (by go_simp)
  have a1_3 : w3.cell? ⟨w.heap.size, 1, none⟩ = some (.int .i64 u0) := carry hb3 (by go_simp)
  have az_3 : w.heap.size < w3.heap.size := by have := hb3.size; simp at this; omega
  have b0_3 : w3.cell? ⟨w.heap.size + 1, 0, none⟩ = some (.int .i64 l1) := carry hb3 (by go_simp)
  have b1_3 : w3.cell? ⟨w.heap.size + 1, 1, none⟩ = some (.int .i64 u1) := carry hb3 (by go_simp)
  have bz_3 : w.heap.size + 1 < w3.heap.size := by have := hb3.size; simp at this; omega
  have s0_3 : w3.cell? ⟨w1.heap.size, 0, none⟩ = some (.int .i64 (scmpL l0 u0 l1 u1)) := carry hb3 (by go_simp)
  have sf0_3 : w3.frozen? ⟨w1.heap.size, 0, none⟩ = false := carryF hb3 (v := .int .i64 (scmpL l0 u0 l1 u1)) (by go_simp) (by go_simp)
  have s1_3 : w3.cell? ⟨w1.heap.size, 1, none⟩ = some (.int .i64 (scmpH l0 u0 l1 u1)) := carry hb3 (by go_simp)
  have sf1_3 : w3.frozen? ⟨w1.heap.size, 1, none⟩ = false := carryF hb3 (v := .int .i64 (scmpH l0 u0 l1 u1)) (by go_simp) (by go_simp)
  have sz_3 : w1.heap.size < w3.heap.size := by have := hb3.size; simp at this; omega
  have t0_3 : w3.cell? ⟨w2.heap.size, 0, none⟩ = some (.int .i64 (scmpL l0 u0 l1 u1)) := carry hb3 (by go_simp)
  have tf0_3 : w3.frozen? ⟨w2.heap.size, 0, none⟩ = false := carryF hb3 (v := .int .i64 (scmpL l0 u0 l1 u1)) (by go_simp) (by go_simp)
  have t1_3 : w3.cell? ⟨w2.heap.size, 1, none⟩ = some (.int .i64 (scmpH l0 u0 l1 u1)) := carry hb3 (by go_simp)
  have tf1_3 : w3.frozen? ⟨w2.heap.size, 1, none⟩ = false := carryF hb3 (v := .int .i64 (scmpH l0 u0 l1 u1)) (by go_simp) (by go_simp)
  have tz_3 : w2.heap.size < w3.heap.size := by have := hb3.size; simp at this; omega
  have HB_3 := Lib.hid ((by repeat (first | exact HB_2.out | refine Below.drew ?_ | refine Below.setCell ?_ (by first | omega | (simp; done) | (simp; omega)) _ | refine Below.alloc ?_ (by first | omega | (simp; done) | (simp; omega)) _) : Below w.heap.size w _).trans (hb3.mono (by first | omega | (simp; done) | (simp; omega))))
  have nz_3 : w.heap.size ≤ w3.heap.size := HB_3.out.size
  clear hb3 a0_2 a1_2 b0_2 b1_2 s0_2 sf0_2 s1_2 sf1_2 HB_2
  go_wp2_with fail
  refine (rsmeet_any _ _ _ _ _).mono ?_
  rintro e w4 ⟨rfl, hb4⟩
  have a0_4 : w4.cell? ⟨w.heap.size, 0, none⟩ = some (.int .i64 l0) := carry hb4 (by go_simp)
  have a1_4 : w4.cell? ⟨w.heap.size, 1, none⟩ = some (.int .i64 u0) := carry hb4 (by go_simp)
  have az_4 : w.heap.size < w4.heap.size := by have := hb4.size; simp at this; omega
  have b0_4 : w4.cell? ⟨w.heap.size + 1, 0, none⟩ = some (.int .i64 l1) := carry hb4 (by go_simp)
  have b1_4 : w4.cell? ⟨w.heap.size + 1, 1, none⟩ = some (.int .i64 u1) := carry hb4 (by go_simp)
  have bz_4 : w.heap.size + 1 < w4.heap.size := by have := hb4.size; simp at this; omega
  have s0_4 : w4.cell? ⟨w1.heap.size, 0, none⟩ = some (.int .i64 (meetL l0 u0 l1 u1)) := carry hb4 (by go_simp)
  have sf0_4 : w4.frozen? ⟨w1.heap.size, 0, none⟩ = false := carryF hb4 (v := .int .i64 (meetL l0 u0 l1 u1)) (by go_simp) (by go_simp)
  have s1_4 : w4.cell? ⟨w1.heap.size, 1, none⟩ = some (.int .i64 (meetH l0 u0 l1 u1)) := carry hb4 (by go_simp)
  have sf1_4 : w4.frozen? ⟨w1.heap.size, 1, none⟩ = false := carryF hb4 (v := .int .i64 (meetH l0 u0 l1 u1)) (by go_simp) (by go_simp)
  have sz_4 : w1.heap.size < w4.heap.size := by have := hb4.size; simp at this; omega
  have t0_4 : w4.cell? ⟨w2.heap.size, 0, none⟩ = some (.int .i64 (scmpL l0 u0 l1 u1)) := carry hb4 (by go_simp)
  have tf0_4 : w4.frozen? ⟨w2.heap.size, 0, none⟩ = false := carryF hb4 (v := .int .i64 (scmpL l0 u0 l1 u1)) (by go_simp) (by go_simp)
  have t1_4 : w4.cell? ⟨w2.heap.size, 1, none⟩ = some (.int .i64 (scmpH l0 u0 l1 u1)) := carry hb4 (by go_simp)
  have tf1_4 : w4.frozen? ⟨w2.heap.size, 1, none⟩ = false := carryF hb4 (v := .int .i64 (scmpH l0 u0 l1 u1)) (by go_simp) (by go_simp)
  have tz_4 : w2.heap.size < w4.heap.size := by have := hb4.size; simp at this; omega
  have HB_4 := Lib.hid ((by repeat (first | exact HB_3.out | refine Below.drew ?_ | refine Below.setCell ?_ (by first | omega | (simp; done) | (simp; omega)) _ | refine Below.alloc ?_ (by first | omega | (simp; done) | (simp; omega)) _) : Below w.heap.size w _).trans (hb4.mono (by first | omega | (simp; done) | (simp; omega))))
  have nz_4 : w.heap.size ≤ w4.heap.size := HB_4.out.size
  clear hb4 a0_3 a1_3 b0_3 b1_3 s0_3 sf0_3 s1_3 sf1_3 t0_3 tf0_3 t1_3 tf1_3 HB_3
  go_wp2_with fail
  refine (sjoin_any _ _ _ _ _).mono ?_
  rintro e w5 ⟨rfl, hb5⟩
  have a0_5 : w5.cell? ⟨w.heap.size, 0, none⟩ = some (.int .i64 l0) := carry hb5 (by go_simp)
  have a1_5 : w5.cell? ⟨w.heap.size, 1, none⟩ = some (.int .i64 u0) := carry hb5 (by go_simp)
  have az_5 : w.heap.size < w5.heap.size := by have := hb5.size; simp at this; omega
  have b0_5 : w5.cell? ⟨w.heap.size + 1, 0, none⟩ = some (.int .i64 l1) := carry hb5 (by go_simp)
  have b1_5 : w5.cell? ⟨w.heap.size + 1, 1, none⟩ = some (.int .i64 u1) := carry hb5 (by go_simp)
  have bz_5 : w.heap.size + 1 < w5.heap.size := by have := hb5.size; simp at this; omega
  have s0_5 : w5.cell? ⟨w1.heap.size, 0, none⟩ = some (.int .i64 (meetL l0 u0 l1 u1)) := carry hb5 (by go_simp)
  have sf0_5 : w5.frozen? ⟨w1.heap.size, 0, none⟩ = false := carryF hb5 (v := .int .i64 (meetL l0 u0 l1 u1)) (by go_simp) (by go_simp)
  have s1_5 : w5.cell? ⟨w1.heap.size, 1, none⟩ = some (.int .i64 (meetH l0 u0 l1 u1)) := carry hb5 (by go_simp)
  have sf1_5 : w5.frozen? ⟨w1.heap.size, 1, none⟩ = false := carryF hb5 (v := .int .i64 (meetH l0 u0 l1 u1)) (by go_simp) (by go_simp)
  have sz_5 : w1.heap.size < w5.heap.size := by have := hb5.size; simp at this; omega
  have t0_5 : w5.cell? ⟨w2.heap.size, 0, none⟩ = some (.int .i64 (meetL l0 u0 l1 u1)) := carry hb5 (by go_simp)
  have tf0_5 : w5.frozen? ⟨w2.heap.size, 0, none⟩ = false := carryF hb5 (v := .int .i64 (meetL l0 u0 l1 u1)) (by go_simp) (by go_simp)
  have t1_5 : w5.cell? ⟨w2.heap.size, 1, none⟩ = some (.int .i64 (meetH l0 u0 l1 u1)) := carry hb5 (by go_simp)
  have tf1_5 : w5.frozen? ⟨w2.heap.size, 1, none⟩ = false := carryF hb5 (v := .int .i64 (meetH l0 u0 l1 u1)) (by go_simp) (by go_simp)
  have tz_5 : w2.heap.size < w5.heap.size := by have := hb5.size; simp at this; omega
  have HB_5 := Lib.hid ((by repeat (first | exact HB_4.out | refine Below.drew ?_ | refine Below.setCell ?_ (by first | omega | (simp; done) | (simp; omega)) _ | refine Below.alloc ?_ (by first | omega | (simp; done) | (simp; omega)) _) : Below w.heap.size w _).trans (hb5.mono (by first | omega | (simp; done) | (simp; omega))))
  have nz_5 : w.heap.size ≤ w5.heap.size := HB_5.out.size
  clear hb5 a0_4 a1_4 b0_4 b1_4 s0_4 sf0_4 s1_4 sf1_4 t0_4 tf0_4 t1_4 tf1_4 HB_4
  go_wp2_with fail
  refine (rsjoin_any _ _ _ _ _).mono ?_
  rintro e w6 ⟨rfl, hb6⟩
  have a0_6 : w6.cell? ⟨w.heap.size, 0, none⟩ = some (.int .i64 l0) := carry hb6 (by go_simp)
  have a1_6 : w6.cell? ⟨w.heap.size, 1, none⟩ = some (.int .i64 u0) := carry hb6 (by go_simp)
  have az_6 : w.heap.size < w6.heap.size := by have := hb6.size; simp at this; omega
  have b0_6 : w6.cell? ⟨w.heap.size + 1, 0, none⟩ = some (.int .i64 l1) := carry hb6 (by go_simp)
  have b1_6 : w6.cell? ⟨w.heap.size + 1, 1, none⟩ = some (.int .i64 u1) := carry hb6 (by go_simp)
  have bz_6 : w.heap.size + 1 < w6.heap.size := by have := hb6.size; simp at this; omega
  have s0_6 : w6.cell? ⟨w1.heap.size, 0, none⟩ = some (.int .i64 (joinL l0 u0 l1 u1)) := carry hb6 (by go_simp)
  have sf0_6 : w6.frozen? ⟨w1.heap.size, 0, none⟩ = false := carryF hb6 (v := .int .i64 (joinL l0 u0 l1 u1)) (by go_simp) (by go_simp)
  have s1_6 : w6.cell? ⟨w1.heap.size, 1, none⟩ = some (.int .i64 (joinH l0 u0 l1 u1)) := carry hb6 (by go_simp)
  have sf1_6 : w6.frozen? ⟨w1.heap.size, 1, none⟩ = false := carryF hb6 (v := .int .i64 (joinH l0 u0 l1 u1)) (by go_simp) (by go_simp)
  have sz_6 : w1.heap.size < w6.heap.size := by have := hb6.size; simp at this; omega
  have t0_6 : w6.cell? ⟨w2.heap.size, 0, none⟩ = some (.int .i64 (meetL l0 u0 l1 u1)) := carry hb6 (by go_simp)
  have tf0_6 : w6.frozen? ⟨w2.heap.size, 0, none⟩ = false := carryF hb6 (v := .int .i64 (meetL l0 u0 l1 u1)) (by go_simp) (by go_simp)
  have t1_6 : w6.cell? ⟨w2.heap.size, 1, none⟩ = some (.int .i64 (meetH l0 u0 l1 u1)) := carry hb6 (by go_simp)
  have tf1_6 : w6.frozen? ⟨w2.heap.size, 1, none⟩ = false := carryF hb6 (v := .int .i64 (meetH l0 u0 l1 u1)) (by go_simp) (by go_simp)
  have tz_6 : w2.heap.size < w6.heap.size := by have := hb6.size; simp at this; omega
  have HB_6 := Lib.hid ((by repeat (first | exact HB_5.out | refine Below.drew ?_ | refine Below.setCell ?_ (by first | omega | (simp; done) | (simp; omega)) _ | refine Below.alloc ?_ (by first | omega | (simp; done) | (simp; omega)) _) : Below w.heap.size w _).trans (hb6.mono (by first | omega | (simp; done) | (simp; omega))))
  have nz_6 : w.heap.size ≤ w6.heap.size := HB_6.out.size
  clear hb6 a0_5 a1_5 b0_5 b1_5 s0_5 sf0_5 s1_5 sf1_5 t0_5 tf0_5 t1_5 tf1_5 HB_5
  go_wp2_with fail
  refine (wide_any _).mono ?_
  rintro e w7 ⟨rfl, hb7⟩
  have a0_7 : w7.cell? ⟨w.heap.size, 0, none⟩ = some (.int .i64 l0) := carry hb7 (by go_simp)
  have a1_7 : w7.cell? ⟨w.heap.size, 1, none⟩ = some (.int .i64 u0) := carry hb7 (by go_simp)
  have az_7 : w.heap.size < w7.heap.size := by have := hb7.size; simp at this; omega
  have b0_7 : w7.cell? ⟨w.heap.size + 1, 0, none⟩ = some (.int .i64 l1) := carry hb7 (by go_simp)
  have b1_7 : w7.cell? ⟨w.heap.size + 1, 1, none⟩ = some (.int .i64 u1) := carry hb7 (by go_simp)
  have bz_7 : w.heap.size + 1 < w7.heap.size := by have := hb7.size; simp at this; omega
  have s0_7 : w7.cell? ⟨w1.heap.size, 0, none⟩ = some (.int .i64 (joinL l0 u0 l1 u1)) := carry hb7 (by go_simp)
  have sf0_7 : w7.frozen? ⟨w1.heap.size, 0, none⟩ = false := carryF hb7 (v := .int .i64 (joinL l0 u0 l1 u1)) (by go_simp) (by go_simp)
  have s1_7 : w7.cell? ⟨w1.heap.size, 1, none⟩ = some (.int .i64 (joinH l0 u0 l1 u1)) := carry hb7 (by go_simp)
  have sf1_7 : w7.frozen? ⟨w1.heap.size, 1, none⟩ = false := carryF hb7 (v := .int .i64 (joinH l0 u0 l1 u1)) (by go_simp) (by go_simp)
  have sz_7 : w1.heap.size < w7.heap.size := by have := hb7.size; simp at this; omega
  have t0_7 : w7.cell? ⟨w2.heap.size, 0, none⟩ = some (.int .i64 (joinL l0 u0 l1 u1)) := carry hb7 (by go_simp)
  have tf0_7 : w7.frozen? ⟨w2.heap.size, 0, none⟩ = false := carryF hb7 (v := .int .i64 (joinL l0 u0 l1 u1)) (by go_simp) (by go_simp)
  have t1_7 : w7.cell? ⟨w2.heap.size, 1, none⟩ = some (.int .i64 (joinH l0 u0 l1 u1)) := carry hb7 (by go_simp)
  have tf1_7 : w7.frozen? ⟨w2.heap.size, 1, none⟩ = false := carryF hb7 (v := .int .i64 (joinH l0 u0 l1 u1)) (by go_simp) (by go_simp)
  have tz_7 : w2.heap.size < w7.heap.size := by have := hb7.size; simp at this; omega
  have HB_7 := Lib.hid ((by repeat (first | exact HB_6.out | refine Below.drew ?_ | refine Below.setCell ?_ (by first | omega | (simp; done) | (simp; omega)) _ | refine Below.alloc ?_ (by first | omega | (simp; done) | (simp; omega)) _) : Below w.heap.size w _).trans (hb7.mono (by first | omega | (simp; done) | (simp; omega))))
  have nz_7 : w.heap.size ≤ w7.heap.size := HB_7.out.size
  clear hb7 a0_6 a1_6 b0_6 b1_6 s0_6 sf0_6 s1_6 sf1_6 t0_6 tf0_6 t1_6 tf1_6 HB_6
  go_wp2_with fail
  go_ret
  exact ⟨rfl, by repeat (first | exact HB_7.out | refine Below.drew ?_ | refine Below.setCell ?_ (by first | omega | (simp; done) | (simp; omega)) _ | refine Below.alloc ?_ (by first | omega | (simp; done) | (simp; omega)) _)⟩

end Go.Proofs.Ytfklicofohaccaa.integerSets
