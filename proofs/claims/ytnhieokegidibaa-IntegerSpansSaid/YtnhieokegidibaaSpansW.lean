/- The walk of the statement IntegerSpans. -/
import Derived.Test.YtnhieokegidibaaProg
import Derived.Test.YtnhieokegidibaaRQuo
import Derived.Test.YtnhieokegidibaaWide
import Derived.Deep.DeepCutAuto
import Derived.Deep.RegionHeld3
import Derived.Deep.RegionWith
import Derived.Outline
import Derived.WalkKit
import Derived.Below
import Derived.Lib.Hide

namespace Go.Proofs.Ytnhieokegidibaa.integerSpans
open Go.RowKit
set_option linter.unusedVariables false

set_option maxRecDepth 100000 in
set_option maxHeartbeats 3000000 in
theorem run (l0 u0 : Int) (l1 u1 : Int) (w : World) (wl0 : (Lit.int .i64 l0).wf = true) (wu0 : (Lit.int .i64 u0).wf = true) (wl1 : (Lit.int .i64 l1).wf = true) (wu1 : (Lit.int .i64 u1).wf = true) :
    Calls Try.prog 3 #[.agg #[.int .i64 l0, .int .i64 u0], .agg #[.int .i64 l1, .int .i64 u1]] w fun e w' => e = .returned (.bool true) ∧ Below w.heap.size w w' := by
  go_enter Try.func3, Try.ntmps3
  go_wp2_with fail
  refine (sneg_any _ _ _).mono ?_
  rintro e w1 ⟨rfl, hb1⟩
  have a0_1 : w1.cell? ⟨w.heap.size, 0, none⟩ = some (.int .i64 l0) := carry hb1 (by go_simp)
  have a1_1 : w1.cell? ⟨w.heap.size, 1, none⟩ = some (.int .i64 u0) := carry hb1 (by go_simp)
  have az_1 : w.heap.size < w1.heap.size := by have := hb1.size; first | omega | (simp at this; omega)
  have b0_1 : w1.cell? ⟨w.heap.size + 1, 0, none⟩ = some (.int .i64 l1) := carry hb1 (by go_simp)
  have b1_1 : w1.cell? ⟨w.heap.size + 1, 1, none⟩ = some (.int .i64 u1) := carry hb1 (by go_simp)
  have bz_1 : w.heap.size + 1 < w1.heap.size := by have := hb1.size; first | omega | (simp at this; omega)
  have HB_1 := Lib.hid ((by repeat (first | exact Below.refl _ _ | refine Below.drew ?_ | refine Below.setCell ?_ (by first | omega | (simp; done) | (simp; omega)) _ | refine Below.alloc ?_ (by first | omega | (simp; done) | (simp; omega)) _) : Below w.heap.size w _).trans (hb1.mono (by first | omega | (simp; done) | (simp; omega))))
  have nz_1 : w.heap.size ≤ w1.heap.size := HB_1.out.size
  clear hb1
  go_wp2_with fail
  refine (rsneg_any _ _ _).mono ?_
  rintro e w2 ⟨rfl, hb2⟩
  have a0_2 : w2.cell? ⟨w.heap.size, 0, none⟩ = some (.int .i64 l0) := carry hb2 (by go_simp)
  have a1_2 : w2.cell? ⟨w.heap.size, 1, none⟩ = some (.int .i64 u0) := carry hb2 (by go_simp)
  have az_2 : w.heap.size < w2.heap.size := by have := hb2.size; first | omega | (simp at this; omega)
  have b0_2 : w2.cell? ⟨w.heap.size + 1, 0, none⟩ = some (.int .i64 l1) := carry hb2 (by go_simp)
  have b1_2 : w2.cell? ⟨w.heap.size + 1, 1, none⟩ = some (.int .i64 u1) := carry hb2 (by go_simp)
  have bz_2 : w.heap.size + 1 < w2.heap.size := by have := hb2.size; first | omega | (simp at this; omega)
  have s0_2 : w2.cell? ⟨w1.heap.size, 0, none⟩ = some (.int .i64 (negL l0 u0)) := carry hb2 (by go_simp)
  have sf0_2 : w2.frozen? ⟨w1.heap.size, 0, none⟩ = false := carryF hb2 (v := .int .i64 (negL l0 u0)) (by go_simp) (by go_simp)
  have s1_2 : w2.cell? ⟨w1.heap.size, 1, none⟩ = some (.int .i64 (negH l0 u0)) := carry hb2 (by go_simp)
  have sf1_2 : w2.frozen? ⟨w1.heap.size, 1, none⟩ = false := carryF hb2 (v := .int .i64 (negH l0 u0)) (by go_simp) (by go_simp)
  have sz_2 : w1.heap.size < w2.heap.size := by have := hb2.size; first | omega | (simp at this; omega)
  have HB_2 := Lib.hid ((by repeat (first | exact HB_1.out | refine Below.drew ?_ | refine Below.setCell ?_ (by first | omega | (simp; done) | (simp; omega)) _ | refine Below.alloc ?_ (by first | omega | (simp; done) | (simp; omega)) _) : Below w.heap.size w _).trans (hb2.mono (by first | omega | (simp; done) | (simp; omega))))
  have nz_2 : w.heap.size ≤ w2.heap.size := HB_2.out.size
  clear hb2 a0_1 a1_1 b0_1 b1_1 HB_1
  go_upto_region 3 with fail
  have hB0 := HB_2.out
  go_region_held3 (fun wx => wx.cell? ⟨w.heap.size, 0, none⟩ = some (.int .i64 l0) ∧ wx.cell? ⟨w.heap.size, 1, none⟩ = some (.int .i64 u0) ∧ w.heap.size < wx.heap.size ∧ wx.cell? ⟨w.heap.size + 1, 0, none⟩ = some (.int .i64 l1) ∧ wx.cell? ⟨w.heap.size + 1, 1, none⟩ = some (.int .i64 u1) ∧ w.heap.size + 1 < wx.heap.size ∧ wx.cell? ⟨w1.heap.size, 0, none⟩ = some (.int .i64 (negL l0 u0)) ∧ wx.frozen? ⟨w1.heap.size, 0, none⟩ = false ∧ wx.cell? ⟨w1.heap.size, 1, none⟩ = some (.int .i64 (negH l0 u0)) ∧ wx.frozen? ⟨w1.heap.size, 1, none⟩ = false ∧ w1.heap.size < wx.heap.size ∧ wx.cell? ⟨w2.heap.size, 0, none⟩ = some (.int .i64 (negL l0 u0)) ∧ wx.frozen? ⟨w2.heap.size, 0, none⟩ = false ∧ wx.cell? ⟨w2.heap.size, 1, none⟩ = some (.int .i64 (negH l0 u0)) ∧ wx.frozen? ⟨w2.heap.size, 1, none⟩ = false ∧ w2.heap.size < wx.heap.size ∧ Below w.heap.size w wx) (first | (go_keep; done) | ((try go_split_ands); (repeat' apply And.intro) <;> first | assumption | (go_simp; done) | (simp only [World.size_alloc, World.size_drew]; omega) | (go_keep; done) | (exact (hB0.alloc (by first | omega | (simp <;> omega)) _).drew) | (exact carry hbq (by first | assumption | go_simp)) | (exact carryF hbq (by first | assumption | go_simp) (by first | assumption | go_simp)) | (exact Nat.lt_of_lt_of_le (by first | assumption | (simp <;> omega)) hbq.size) | (simp <;> omega) | (exact Below.trans (by assumption) (hbq.mono (by first | omega | (simp <;> omega))))))
    (first
      | (go_at_call 9; ((with_reducible refine (vspan_any _ _ _).mono ?_); rintro e wq ⟨rfl, hbq⟩))
      | (go_at_call 10; ((with_reducible refine (rvspan_any _ _ _).mono ?_); rintro e wq ⟨rfl, hbq⟩)))
  have hS : wq.cell? ⟨w.heap.size, 0, none⟩ = some (.int .i64 l0) ∧ wq.cell? ⟨w.heap.size, 1, none⟩ = some (.int .i64 u0) ∧ w.heap.size < wq.heap.size ∧ wq.cell? ⟨w.heap.size + 1, 0, none⟩ = some (.int .i64 l1) ∧ wq.cell? ⟨w.heap.size + 1, 1, none⟩ = some (.int .i64 u1) ∧ w.heap.size + 1 < wq.heap.size ∧ wq.cell? ⟨w1.heap.size, 0, none⟩ = some (.int .i64 (negL l0 u0)) ∧ wq.frozen? ⟨w1.heap.size, 0, none⟩ = false ∧ wq.cell? ⟨w1.heap.size, 1, none⟩ = some (.int .i64 (negH l0 u0)) ∧ wq.frozen? ⟨w1.heap.size, 1, none⟩ = false ∧ w1.heap.size < wq.heap.size ∧ wq.cell? ⟨w2.heap.size, 0, none⟩ = some (.int .i64 (negL l0 u0)) ∧ wq.frozen? ⟨w2.heap.size, 0, none⟩ = false ∧ wq.cell? ⟨w2.heap.size, 1, none⟩ = some (.int .i64 (negH l0 u0)) ∧ wq.frozen? ⟨w2.heap.size, 1, none⟩ = false ∧ w2.heap.size < wq.heap.size ∧ Below w.heap.size w wq := by assumption
  clear hB0 a0_2 a1_2 b0_2 b1_2 s0_2 sf0_2 s1_2 sf1_2 HB_2
  obtain ⟨a0_q, a1_q, az_q, b0_q, b1_q, bz_q, s0_q, sf0_q, s1_q, sf1_q, sz_q, t0_q, tf0_q, t1_q, tf1_q, tz_q, hBq⟩ := hS
  have HBq := Lib.hid hBq
  clear hBq
  go_wp2_with fail
  refine (sadd_any _ _ _ _ _).mono ?_
  rintro e w3 ⟨rfl, hb3⟩
  have a0_3 : w3.cell? ⟨w.heap.size, 0, none⟩ = some (.int .i64 l0) := carry hb3 (by go_simp)
  have a1_3 : w3.cell? ⟨w.heap.size, 1, none⟩ = some (.int .i64 u0) := carry hb3 (by go_simp)
  have az_3 : w.heap.size < w3.heap.size := by have := hb3.size; first | omega | (simp at this; omega)
  have b0_3 : w3.cell? ⟨w.heap.size + 1, 0, none⟩ = some (.int .i64 l1) := carry hb3 (by go_simp)
  have b1_3 : w3.cell? ⟨w.heap.size + 1, 1, none⟩ = some (.int .i64 u1) := carry hb3 (by go_simp)
  have bz_3 : w.heap.size + 1 < w3.heap.size := by have := hb3.size; first | omega | (simp at this; omega)
  have s0_3 : w3.cell? ⟨w1.heap.size, 0, none⟩ = some (.int .i64 (negL l0 u0)) := carry hb3 (by go_simp)
  have sf0_3 : w3.frozen? ⟨w1.heap.size, 0, none⟩ = false := carryF hb3 (v := .int .i64 (negL l0 u0)) (by go_simp) (by go_simp)
  have s1_3 : w3.cell? ⟨w1.heap.size, 1, none⟩ = some (.int .i64 (negH l0 u0)) := carry hb3 (by go_simp)
  have sf1_3 : w3.frozen? ⟨w1.heap.size, 1, none⟩ = false := carryF hb3 (v := .int .i64 (negH l0 u0)) (by go_simp) (by go_simp)
  have sz_3 : w1.heap.size < w3.heap.size := by have := hb3.size; first | omega | (simp at this; omega)
  have t0_3 : w3.cell? ⟨w2.heap.size, 0, none⟩ = some (.int .i64 (negL l0 u0)) := carry hb3 (by go_simp)
  have tf0_3 : w3.frozen? ⟨w2.heap.size, 0, none⟩ = false := carryF hb3 (v := .int .i64 (negL l0 u0)) (by go_simp) (by go_simp)
  have t1_3 : w3.cell? ⟨w2.heap.size, 1, none⟩ = some (.int .i64 (negH l0 u0)) := carry hb3 (by go_simp)
  have tf1_3 : w3.frozen? ⟨w2.heap.size, 1, none⟩ = false := carryF hb3 (v := .int .i64 (negH l0 u0)) (by go_simp) (by go_simp)
  have tz_3 : w2.heap.size < w3.heap.size := by have := hb3.size; first | omega | (simp at this; omega)
  have HB_3 := Lib.hid ((by repeat (first | exact HBq.out | refine Below.drew ?_ | refine Below.setCell ?_ (by first | omega | (simp; done) | (simp; omega)) _ | refine Below.alloc ?_ (by first | omega | (simp; done) | (simp; omega)) _) : Below w.heap.size w _).trans (hb3.mono (by first | omega | (simp; done) | (simp; omega))))
  have nz_3 : w.heap.size ≤ w3.heap.size := HB_3.out.size
  clear hb3 a0_q a1_q b0_q b1_q s0_q sf0_q s1_q sf1_q t0_q tf0_q t1_q tf1_q HBq
  go_wp2_with fail
  refine (rsadd_any _ _ _ _ _).mono ?_
  rintro e w4 ⟨rfl, hb4⟩
  have a0_4 : w4.cell? ⟨w.heap.size, 0, none⟩ = some (.int .i64 l0) := carry hb4 (by go_simp)
  have a1_4 : w4.cell? ⟨w.heap.size, 1, none⟩ = some (.int .i64 u0) := carry hb4 (by go_simp)
  have az_4 : w.heap.size < w4.heap.size := by have := hb4.size; first | omega | (simp at this; omega)
  have b0_4 : w4.cell? ⟨w.heap.size + 1, 0, none⟩ = some (.int .i64 l1) := carry hb4 (by go_simp)
  have b1_4 : w4.cell? ⟨w.heap.size + 1, 1, none⟩ = some (.int .i64 u1) := carry hb4 (by go_simp)
  have bz_4 : w.heap.size + 1 < w4.heap.size := by have := hb4.size; first | omega | (simp at this; omega)
  have s0_4 : w4.cell? ⟨w1.heap.size, 0, none⟩ = some (.int .i64 (opL l0 u0 l1 u1 (addF l0 u0 l1 u1))) := carry hb4 (by go_simp)
  have sf0_4 : w4.frozen? ⟨w1.heap.size, 0, none⟩ = false := carryF hb4 (v := .int .i64 (opL l0 u0 l1 u1 (addF l0 u0 l1 u1))) (by go_simp) (by go_simp)
  have s1_4 : w4.cell? ⟨w1.heap.size, 1, none⟩ = some (.int .i64 (opH l0 u0 l1 u1 (addF l0 u0 l1 u1))) := carry hb4 (by go_simp)
  have sf1_4 : w4.frozen? ⟨w1.heap.size, 1, none⟩ = false := carryF hb4 (v := .int .i64 (opH l0 u0 l1 u1 (addF l0 u0 l1 u1))) (by go_simp) (by go_simp)
  have sz_4 : w1.heap.size < w4.heap.size := by have := hb4.size; first | omega | (simp at this; omega)
  have t0_4 : w4.cell? ⟨w2.heap.size, 0, none⟩ = some (.int .i64 (negL l0 u0)) := carry hb4 (by go_simp)
  have tf0_4 : w4.frozen? ⟨w2.heap.size, 0, none⟩ = false := carryF hb4 (v := .int .i64 (negL l0 u0)) (by go_simp) (by go_simp)
  have t1_4 : w4.cell? ⟨w2.heap.size, 1, none⟩ = some (.int .i64 (negH l0 u0)) := carry hb4 (by go_simp)
  have tf1_4 : w4.frozen? ⟨w2.heap.size, 1, none⟩ = false := carryF hb4 (v := .int .i64 (negH l0 u0)) (by go_simp) (by go_simp)
  have tz_4 : w2.heap.size < w4.heap.size := by have := hb4.size; first | omega | (simp at this; omega)
  have HB_4 := Lib.hid ((by repeat (first | exact HB_3.out | refine Below.drew ?_ | refine Below.setCell ?_ (by first | omega | (simp; done) | (simp; omega)) _ | refine Below.alloc ?_ (by first | omega | (simp; done) | (simp; omega)) _) : Below w.heap.size w _).trans (hb4.mono (by first | omega | (simp; done) | (simp; omega))))
  have nz_4 : w.heap.size ≤ w4.heap.size := HB_4.out.size
  clear hb4 a0_3 a1_3 b0_3 b1_3 s0_3 sf0_3 s1_3 sf1_3 t0_3 tf0_3 t1_3 tf1_3 HB_3
  go_wp2_with fail
  refine (ssub_any _ _ _ _ _).mono ?_
  rintro e w5 ⟨rfl, hb5⟩
  have a0_5 : w5.cell? ⟨w.heap.size, 0, none⟩ = some (.int .i64 l0) := carry hb5 (by go_simp)
  have a1_5 : w5.cell? ⟨w.heap.size, 1, none⟩ = some (.int .i64 u0) := carry hb5 (by go_simp)
  have az_5 : w.heap.size < w5.heap.size := by have := hb5.size; first | omega | (simp at this; omega)
  have b0_5 : w5.cell? ⟨w.heap.size + 1, 0, none⟩ = some (.int .i64 l1) := carry hb5 (by go_simp)
  have b1_5 : w5.cell? ⟨w.heap.size + 1, 1, none⟩ = some (.int .i64 u1) := carry hb5 (by go_simp)
  have bz_5 : w.heap.size + 1 < w5.heap.size := by have := hb5.size; first | omega | (simp at this; omega)
  have s0_5 : w5.cell? ⟨w1.heap.size, 0, none⟩ = some (.int .i64 (opL l0 u0 l1 u1 (addF l0 u0 l1 u1))) := carry hb5 (by go_simp)
  have sf0_5 : w5.frozen? ⟨w1.heap.size, 0, none⟩ = false := carryF hb5 (v := .int .i64 (opL l0 u0 l1 u1 (addF l0 u0 l1 u1))) (by go_simp) (by go_simp)
  have s1_5 : w5.cell? ⟨w1.heap.size, 1, none⟩ = some (.int .i64 (opH l0 u0 l1 u1 (addF l0 u0 l1 u1))) := carry hb5 (by go_simp)
  have sf1_5 : w5.frozen? ⟨w1.heap.size, 1, none⟩ = false := carryF hb5 (v := .int .i64 (opH l0 u0 l1 u1 (addF l0 u0 l1 u1))) (by go_simp) (by go_simp)
  have sz_5 : w1.heap.size < w5.heap.size := by have := hb5.size; first | omega | (simp at this; omega)
  have t0_5 : w5.cell? ⟨w2.heap.size, 0, none⟩ = some (.int .i64 (opL l0 u0 l1 u1 (addF l0 u0 l1 u1))) := carry hb5 (by go_simp)
  have tf0_5 : w5.frozen? ⟨w2.heap.size, 0, none⟩ = false := carryF hb5 (v := .int .i64 (opL l0 u0 l1 u1 (addF l0 u0 l1 u1))) (by go_simp) (by go_simp)
  have t1_5 : w5.cell? ⟨w2.heap.size, 1, none⟩ = some (.int .i64 (opH l0 u0 l1 u1 (addF l0 u0 l1 u1))) := carry hb5 (by go_simp)
  have tf1_5 : w5.frozen? ⟨w2.heap.size, 1, none⟩ = false := carryF hb5 (v := .int .i64 (opH l0 u0 l1 u1 (addF l0 u0 l1 u1))) (by go_simp) (by go_simp)
  have tz_5 : w2.heap.size < w5.heap.size := by have := hb5.size; first | omega | (simp at this; omega)
  have HB_5 := Lib.hid ((by repeat (first | exact HB_4.out | refine Below.drew ?_ | refine Below.setCell ?_ (by first | omega | (simp; done) | (simp; omega)) _ | refine Below.alloc ?_ (by first | omega | (simp; done) | (simp; omega)) _) : Below w.heap.size w _).trans (hb5.mono (by first | omega | (simp; done) | (simp; omega))))
  have nz_5 : w.heap.size ≤ w5.heap.size := HB_5.out.size
  clear hb5 a0_4 a1_4 b0_4 b1_4 s0_4 sf0_4 s1_4 sf1_4 t0_4 tf0_4 t1_4 tf1_4 HB_4
  go_wp2_with fail
  refine (rssub_any _ _ _ _ _).mono ?_
  rintro e w6 ⟨rfl, hb6⟩
  have a0_6 : w6.cell? ⟨w.heap.size, 0, none⟩ = some (.int .i64 l0) := carry hb6 (by go_simp)
  have a1_6 : w6.cell? ⟨w.heap.size, 1, none⟩ = some (.int .i64 u0) := carry hb6 (by go_simp)
  have az_6 : w.heap.size < w6.heap.size := by have := hb6.size; first | omega | (simp at this; omega)
  have b0_6 : w6.cell? ⟨w.heap.size + 1, 0, none⟩ = some (.int .i64 l1) := carry hb6 (by go_simp)
  have b1_6 : w6.cell? ⟨w.heap.size + 1, 1, none⟩ = some (.int .i64 u1) := carry hb6 (by go_simp)
  have bz_6 : w.heap.size + 1 < w6.heap.size := by have := hb6.size; first | omega | (simp at this; omega)
  have s0_6 : w6.cell? ⟨w1.heap.size, 0, none⟩ = some (.int .i64 (opL l0 u0 l1 u1 (subF l0 u0 l1 u1))) := carry hb6 (by go_simp)
  have sf0_6 : w6.frozen? ⟨w1.heap.size, 0, none⟩ = false := carryF hb6 (v := .int .i64 (opL l0 u0 l1 u1 (subF l0 u0 l1 u1))) (by go_simp) (by go_simp)
  have s1_6 : w6.cell? ⟨w1.heap.size, 1, none⟩ = some (.int .i64 (opH l0 u0 l1 u1 (subF l0 u0 l1 u1))) := carry hb6 (by go_simp)
  have sf1_6 : w6.frozen? ⟨w1.heap.size, 1, none⟩ = false := carryF hb6 (v := .int .i64 (opH l0 u0 l1 u1 (subF l0 u0 l1 u1))) (by go_simp) (by go_simp)
  have sz_6 : w1.heap.size < w6.heap.size := by have := hb6.size; first | omega | (simp at this; omega)
  have t0_6 : w6.cell? ⟨w2.heap.size, 0, none⟩ = some (.int .i64 (opL l0 u0 l1 u1 (addF l0 u0 l1 u1))) := carry hb6 (by go_simp)
  have tf0_6 : w6.frozen? ⟨w2.heap.size, 0, none⟩ = false := carryF hb6 (v := .int .i64 (opL l0 u0 l1 u1 (addF l0 u0 l1 u1))) (by go_simp) (by go_simp)
  have t1_6 : w6.cell? ⟨w2.heap.size, 1, none⟩ = some (.int .i64 (opH l0 u0 l1 u1 (addF l0 u0 l1 u1))) := carry hb6 (by go_simp)
  have tf1_6 : w6.frozen? ⟨w2.heap.size, 1, none⟩ = false := carryF hb6 (v := .int .i64 (opH l0 u0 l1 u1 (addF l0 u0 l1 u1))) (by go_simp) (by go_simp)
  have tz_6 : w2.heap.size < w6.heap.size := by have := hb6.size; first | omega | (simp at this; omega)
  have HB_6 := Lib.hid ((by repeat (first | exact HB_5.out | refine Below.drew ?_ | refine Below.setCell ?_ (by first | omega | (simp; done) | (simp; omega)) _ | refine Below.alloc ?_ (by first | omega | (simp; done) | (simp; omega)) _) : Below w.heap.size w _).trans (hb6.mono (by first | omega | (simp; done) | (simp; omega))))
  have nz_6 : w.heap.size ≤ w6.heap.size := HB_6.out.size
  clear hb6 a0_5 a1_5 b0_5 b1_5 s0_5 sf0_5 s1_5 sf1_5 t0_5 tf0_5 t1_5 tf1_5 HB_5
  go_wp2_with fail
  refine (smul_any _ _ _ _ _).mono ?_
  rintro e w7 ⟨rfl, hb7⟩
  have a0_7 : w7.cell? ⟨w.heap.size, 0, none⟩ = some (.int .i64 l0) := carry hb7 (by go_simp)
  have a1_7 : w7.cell? ⟨w.heap.size, 1, none⟩ = some (.int .i64 u0) := carry hb7 (by go_simp)
  have az_7 : w.heap.size < w7.heap.size := by have := hb7.size; first | omega | (simp at this; omega)
  have b0_7 : w7.cell? ⟨w.heap.size + 1, 0, none⟩ = some (.int .i64 l1) := carry hb7 (by go_simp)
  have b1_7 : w7.cell? ⟨w.heap.size + 1, 1, none⟩ = some (.int .i64 u1) := carry hb7 (by go_simp)
  have bz_7 : w.heap.size + 1 < w7.heap.size := by have := hb7.size; first | omega | (simp at this; omega)
  have s0_7 : w7.cell? ⟨w1.heap.size, 0, none⟩ = some (.int .i64 (opL l0 u0 l1 u1 (subF l0 u0 l1 u1))) := carry hb7 (by go_simp)
  have sf0_7 : w7.frozen? ⟨w1.heap.size, 0, none⟩ = false := carryF hb7 (v := .int .i64 (opL l0 u0 l1 u1 (subF l0 u0 l1 u1))) (by go_simp) (by go_simp)
  have s1_7 : w7.cell? ⟨w1.heap.size, 1, none⟩ = some (.int .i64 (opH l0 u0 l1 u1 (subF l0 u0 l1 u1))) := carry hb7 (by go_simp)
  have sf1_7 : w7.frozen? ⟨w1.heap.size, 1, none⟩ = false := carryF hb7 (v := .int .i64 (opH l0 u0 l1 u1 (subF l0 u0 l1 u1))) (by go_simp) (by go_simp)
  have sz_7 : w1.heap.size < w7.heap.size := by have := hb7.size; first | omega | (simp at this; omega)
  have t0_7 : w7.cell? ⟨w2.heap.size, 0, none⟩ = some (.int .i64 (opL l0 u0 l1 u1 (subF l0 u0 l1 u1))) := carry hb7 (by go_simp)
  have tf0_7 : w7.frozen? ⟨w2.heap.size, 0, none⟩ = false := carryF hb7 (v := .int .i64 (opL l0 u0 l1 u1 (subF l0 u0 l1 u1))) (by go_simp) (by go_simp)
  have t1_7 : w7.cell? ⟨w2.heap.size, 1, none⟩ = some (.int .i64 (opH l0 u0 l1 u1 (subF l0 u0 l1 u1))) := carry hb7 (by go_simp)
  have tf1_7 : w7.frozen? ⟨w2.heap.size, 1, none⟩ = false := carryF hb7 (v := .int .i64 (opH l0 u0 l1 u1 (subF l0 u0 l1 u1))) (by go_simp) (by go_simp)
  have tz_7 : w2.heap.size < w7.heap.size := by have := hb7.size; first | omega | (simp at this; omega)
  have HB_7 := Lib.hid ((by repeat (first | exact HB_6.out | refine Below.drew ?_ | refine Below.setCell ?_ (by first | omega | (simp; done) | (simp; omega)) _ | refine Below.alloc ?_ (by first | omega | (simp; done) | (simp; omega)) _) : Below w.heap.size w _).trans (hb7.mono (by first | omega | (simp; done) | (simp; omega))))
  have nz_7 : w.heap.size ≤ w7.heap.size := HB_7.out.size
  clear hb7 a0_6 a1_6 b0_6 b1_6 s0_6 sf0_6 s1_6 sf1_6 t0_6 tf0_6 t1_6 tf1_6 HB_6
  go_wp2_with fail
  refine (rsmul_any _ _ _ _ _).mono ?_
  rintro e w8 ⟨rfl, hb8⟩
  have a0_8 : w8.cell? ⟨w.heap.size, 0, none⟩ = some (.int .i64 l0) := carry hb8 (by go_simp)
  have a1_8 : w8.cell? ⟨w.heap.size, 1, none⟩ = some (.int .i64 u0) := carry hb8 (by go_simp)
  have az_8 : w.heap.size < w8.heap.size := by have := hb8.size; first | omega | (simp at this; omega)
  have b0_8 : w8.cell? ⟨w.heap.size + 1, 0, none⟩ = some (.int .i64 l1) := carry hb8 (by go_simp)
  have b1_8 : w8.cell? ⟨w.heap.size + 1, 1, none⟩ = some (.int .i64 u1) := carry hb8 (by go_simp)
  have bz_8 : w.heap.size + 1 < w8.heap.size := by have := hb8.size; first | omega | (simp at this; omega)
  have s0_8 : w8.cell? ⟨w1.heap.size, 0, none⟩ = some (.int .i64 (opL l0 u0 l1 u1 (mulF l0 u0 l1 u1))) := carry hb8 (by go_simp)
  have sf0_8 : w8.frozen? ⟨w1.heap.size, 0, none⟩ = false := carryF hb8 (v := .int .i64 (opL l0 u0 l1 u1 (mulF l0 u0 l1 u1))) (by go_simp) (by go_simp)
  have s1_8 : w8.cell? ⟨w1.heap.size, 1, none⟩ = some (.int .i64 (opH l0 u0 l1 u1 (mulF l0 u0 l1 u1))) := carry hb8 (by go_simp)
  have sf1_8 : w8.frozen? ⟨w1.heap.size, 1, none⟩ = false := carryF hb8 (v := .int .i64 (opH l0 u0 l1 u1 (mulF l0 u0 l1 u1))) (by go_simp) (by go_simp)
  have sz_8 : w1.heap.size < w8.heap.size := by have := hb8.size; first | omega | (simp at this; omega)
  have t0_8 : w8.cell? ⟨w2.heap.size, 0, none⟩ = some (.int .i64 (opL l0 u0 l1 u1 (subF l0 u0 l1 u1))) := carry hb8 (by go_simp)
  have tf0_8 : w8.frozen? ⟨w2.heap.size, 0, none⟩ = false := carryF hb8 (v := .int .i64 (opL l0 u0 l1 u1 (subF l0 u0 l1 u1))) (by go_simp) (by go_simp)
  have t1_8 : w8.cell? ⟨w2.heap.size, 1, none⟩ = some (.int .i64 (opH l0 u0 l1 u1 (subF l0 u0 l1 u1))) := carry hb8 (by go_simp)
  have tf1_8 : w8.frozen? ⟨w2.heap.size, 1, none⟩ = false := carryF hb8 (v := .int .i64 (opH l0 u0 l1 u1 (subF l0 u0 l1 u1))) (by go_simp) (by go_simp)
  have tz_8 : w2.heap.size < w8.heap.size := by have := hb8.size; first | omega | (simp at this; omega)
  have HB_8 := Lib.hid ((by repeat (first | exact HB_7.out | refine Below.drew ?_ | refine Below.setCell ?_ (by first | omega | (simp; done) | (simp; omega)) _ | refine Below.alloc ?_ (by first | omega | (simp; done) | (simp; omega)) _) : Below w.heap.size w _).trans (hb8.mono (by first | omega | (simp; done) | (simp; omega))))
  have nz_8 : w.heap.size ≤ w8.heap.size := HB_8.out.size
  clear hb8 a0_7 a1_7 b0_7 b1_7 s0_7 sf0_7 s1_7 sf1_7 t0_7 tf0_7 t1_7 tf1_7 HB_7
  go_wp2_with fail
  refine (squo_all _ _ _ _ _).mono ?_
  rintro e w9 ⟨rfl, hb9⟩
  have a0_9 : w9.cell? ⟨w.heap.size, 0, none⟩ = some (.int .i64 l0) := carry hb9 (by go_simp)
  have a1_9 : w9.cell? ⟨w.heap.size, 1, none⟩ = some (.int .i64 u0) := carry hb9 (by go_simp)
  have az_9 : w.heap.size < w9.heap.size := by have := hb9.size; first | omega | (simp at this; omega)
  have b0_9 : w9.cell? ⟨w.heap.size + 1, 0, none⟩ = some (.int .i64 l1) := carry hb9 (by go_simp)
  have b1_9 : w9.cell? ⟨w.heap.size + 1, 1, none⟩ = some (.int .i64 u1) := carry hb9 (by go_simp)
  have bz_9 : w.heap.size + 1 < w9.heap.size := by have := hb9.size; first | omega | (simp at this; omega)
  have s0_9 : w9.cell? ⟨w1.heap.size, 0, none⟩ = some (.int .i64 (opL l0 u0 l1 u1 (mulF l0 u0 l1 u1))) := carry hb9 (by go_simp)
  have sf0_9 : w9.frozen? ⟨w1.heap.size, 0, none⟩ = false := carryF hb9 (v := .int .i64 (opL l0 u0 l1 u1 (mulF l0 u0 l1 u1))) (by go_simp) (by go_simp)
  have s1_9 : w9.cell? ⟨w1.heap.size, 1, none⟩ = some (.int .i64 (opH l0 u0 l1 u1 (mulF l0 u0 l1 u1))) := carry hb9 (by go_simp)
  have sf1_9 : w9.frozen? ⟨w1.heap.size, 1, none⟩ = false := carryF hb9 (v := .int .i64 (opH l0 u0 l1 u1 (mulF l0 u0 l1 u1))) (by go_simp) (by go_simp)
  have sz_9 : w1.heap.size < w9.heap.size := by have := hb9.size; first | omega | (simp at this; omega)
  have t0_9 : w9.cell? ⟨w2.heap.size, 0, none⟩ = some (.int .i64 (opL l0 u0 l1 u1 (mulF l0 u0 l1 u1))) := carry hb9 (by go_simp)
  have tf0_9 : w9.frozen? ⟨w2.heap.size, 0, none⟩ = false := carryF hb9 (v := .int .i64 (opL l0 u0 l1 u1 (mulF l0 u0 l1 u1))) (by go_simp) (by go_simp)
  have t1_9 : w9.cell? ⟨w2.heap.size, 1, none⟩ = some (.int .i64 (opH l0 u0 l1 u1 (mulF l0 u0 l1 u1))) := carry hb9 (by go_simp)
  have tf1_9 : w9.frozen? ⟨w2.heap.size, 1, none⟩ = false := carryF hb9 (v := .int .i64 (opH l0 u0 l1 u1 (mulF l0 u0 l1 u1))) (by go_simp) (by go_simp)
  have tz_9 : w2.heap.size < w9.heap.size := by have := hb9.size; first | omega | (simp at this; omega)
  have HB_9 := Lib.hid ((by repeat (first | exact HB_8.out | refine Below.drew ?_ | refine Below.setCell ?_ (by first | omega | (simp; done) | (simp; omega)) _ | refine Below.alloc ?_ (by first | omega | (simp; done) | (simp; omega)) _) : Below w.heap.size w _).trans (hb9.mono (by first | omega | (simp; done) | (simp; omega))))
  have nz_9 : w.heap.size ≤ w9.heap.size := HB_9.out.size
  clear hb9 a0_8 a1_8 b0_8 b1_8 s0_8 sf0_8 s1_8 sf1_8 t0_8 tf0_8 t1_8 tf1_8 HB_8
  go_wp2_with fail
  refine (rsquo_any _ _ _ _ _).mono ?_
  rintro e w10 ⟨rfl, hb10⟩
  have a0_10 : w10.cell? ⟨w.heap.size, 0, none⟩ = some (.int .i64 l0) := carry hb10 (by go_simp)
  have a1_10 : w10.cell? ⟨w.heap.size, 1, none⟩ = some (.int .i64 u0) := carry hb10 (by go_simp)
  have az_10 : w.heap.size < w10.heap.size := by have := hb10.size; first | omega | (simp at this; omega)
  have b0_10 : w10.cell? ⟨w.heap.size + 1, 0, none⟩ = some (.int .i64 l1) := carry hb10 (by go_simp)
  have b1_10 : w10.cell? ⟨w.heap.size + 1, 1, none⟩ = some (.int .i64 u1) := carry hb10 (by go_simp)
  have bz_10 : w.heap.size + 1 < w10.heap.size := by have := hb10.size; first | omega | (simp at this; omega)
  have s0_10 : w10.cell? ⟨w1.heap.size, 0, none⟩ = some (.int .i64 (qL l0 u0 l1 u1)) := carry hb10 (by go_simp)
  have sf0_10 : w10.frozen? ⟨w1.heap.size, 0, none⟩ = false := carryF hb10 (v := .int .i64 (qL l0 u0 l1 u1)) (by go_simp) (by go_simp)
  have s1_10 : w10.cell? ⟨w1.heap.size, 1, none⟩ = some (.int .i64 (qH l0 u0 l1 u1)) := carry hb10 (by go_simp)
  have sf1_10 : w10.frozen? ⟨w1.heap.size, 1, none⟩ = false := carryF hb10 (v := .int .i64 (qH l0 u0 l1 u1)) (by go_simp) (by go_simp)
  have sz_10 : w1.heap.size < w10.heap.size := by have := hb10.size; first | omega | (simp at this; omega)
  have t0_10 : w10.cell? ⟨w2.heap.size, 0, none⟩ = some (.int .i64 (opL l0 u0 l1 u1 (mulF l0 u0 l1 u1))) := carry hb10 (by go_simp)
  have tf0_10 : w10.frozen? ⟨w2.heap.size, 0, none⟩ = false := carryF hb10 (v := .int .i64 (opL l0 u0 l1 u1 (mulF l0 u0 l1 u1))) (by go_simp) (by go_simp)
  have t1_10 : w10.cell? ⟨w2.heap.size, 1, none⟩ = some (.int .i64 (opH l0 u0 l1 u1 (mulF l0 u0 l1 u1))) := carry hb10 (by go_simp)
  have tf1_10 : w10.frozen? ⟨w2.heap.size, 1, none⟩ = false := carryF hb10 (v := .int .i64 (opH l0 u0 l1 u1 (mulF l0 u0 l1 u1))) (by go_simp) (by go_simp)
  have tz_10 : w2.heap.size < w10.heap.size := by have := hb10.size; first | omega | (simp at this; omega)
  have HB_10 := Lib.hid ((by repeat (first | exact HB_9.out | refine Below.drew ?_ | refine Below.setCell ?_ (by first | omega | (simp; done) | (simp; omega)) _ | refine Below.alloc ?_ (by first | omega | (simp; done) | (simp; omega)) _) : Below w.heap.size w _).trans (hb10.mono (by first | omega | (simp; done) | (simp; omega))))
  have nz_10 : w.heap.size ≤ w10.heap.size := HB_10.out.size
  clear hb10 a0_9 a1_9 b0_9 b1_9 s0_9 sf0_9 s1_9 sf1_9 t0_9 tf0_9 t1_9 tf1_9 HB_9
  go_wp2_with fail
  refine (wide_any _).mono ?_
  rintro e w11 ⟨rfl, hb11⟩
  have a0_11 : w11.cell? ⟨w.heap.size, 0, none⟩ = some (.int .i64 l0) := carry hb11 (by go_simp)
  have a1_11 : w11.cell? ⟨w.heap.size, 1, none⟩ = some (.int .i64 u0) := carry hb11 (by go_simp)
  have az_11 : w.heap.size < w11.heap.size := by have := hb11.size; first | omega | (simp at this; omega)
  have b0_11 : w11.cell? ⟨w.heap.size + 1, 0, none⟩ = some (.int .i64 l1) := carry hb11 (by go_simp)
  have b1_11 : w11.cell? ⟨w.heap.size + 1, 1, none⟩ = some (.int .i64 u1) := carry hb11 (by go_simp)
  have bz_11 : w.heap.size + 1 < w11.heap.size := by have := hb11.size; first | omega | (simp at this; omega)
  have s0_11 : w11.cell? ⟨w1.heap.size, 0, none⟩ = some (.int .i64 (qL l0 u0 l1 u1)) := carry hb11 (by go_simp)
  have sf0_11 : w11.frozen? ⟨w1.heap.size, 0, none⟩ = false := carryF hb11 (v := .int .i64 (qL l0 u0 l1 u1)) (by go_simp) (by go_simp)
  have s1_11 : w11.cell? ⟨w1.heap.size, 1, none⟩ = some (.int .i64 (qH l0 u0 l1 u1)) := carry hb11 (by go_simp)
  have sf1_11 : w11.frozen? ⟨w1.heap.size, 1, none⟩ = false := carryF hb11 (v := .int .i64 (qH l0 u0 l1 u1)) (by go_simp) (by go_simp)
  have sz_11 : w1.heap.size < w11.heap.size := by have := hb11.size; first | omega | (simp at this; omega)
  have t0_11 : w11.cell? ⟨w2.heap.size, 0, none⟩ = some (.int .i64 (qL l0 u0 l1 u1)) := carry hb11 (by go_simp)
  have tf0_11 : w11.frozen? ⟨w2.heap.size, 0, none⟩ = false := carryF hb11 (v := .int .i64 (qL l0 u0 l1 u1)) (by go_simp) (by go_simp)
  have t1_11 : w11.cell? ⟨w2.heap.size, 1, none⟩ = some (.int .i64 (qH l0 u0 l1 u1)) := carry hb11 (by go_simp)
  have tf1_11 : w11.frozen? ⟨w2.heap.size, 1, none⟩ = false := carryF hb11 (v := .int .i64 (qH l0 u0 l1 u1)) (by go_simp) (by go_simp)
  have tz_11 : w2.heap.size < w11.heap.size := by have := hb11.size; first | omega | (simp at this; omega)
  have HB_11 := Lib.hid ((by repeat (first | exact HB_10.out | refine Below.drew ?_ | refine Below.setCell ?_ (by first | omega | (simp; done) | (simp; omega)) _ | refine Below.alloc ?_ (by first | omega | (simp; done) | (simp; omega)) _) : Below w.heap.size w _).trans (hb11.mono (by first | omega | (simp; done) | (simp; omega))))
  have nz_11 : w.heap.size ≤ w11.heap.size := HB_11.out.size
  clear hb11 a0_10 a1_10 b0_10 b1_10 s0_10 sf0_10 s1_10 sf1_10 t0_10 tf0_10 t1_10 tf1_10 HB_10
  go_wp2_with fail
  go_ret
  exact ⟨rfl, by repeat (first | exact HB_11.out | refine Below.drew ?_ | refine Below.setCell ?_ (by first | omega | (simp; done) | (simp; omega)) _ | refine Below.alloc ?_ (by first | omega | (simp; done) | (simp; omega)) _)⟩

end Go.Proofs.Ytnhieokegidibaa.integerSpans
