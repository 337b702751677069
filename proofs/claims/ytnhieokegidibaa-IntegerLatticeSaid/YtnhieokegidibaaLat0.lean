/-
  IntegerLattice: the walk.
-/
import Derived.Test.YtnhieokegidibaaWide
import Derived.Test.YtnhieokegidibaaQuo
import Derived.Deep.DeepCutAuto
import Derived.Deep.RegionHeld3
import Derived.Deep.RegionWith
import Derived.Outline

namespace Go.Proofs.Ytnhieokegidibaa.integerLattice
open Go.RowKit
set_option linter.unusedVariables false
set_option linter.unusedSimpArgs false

theorem rin_is {n l u : Int} {b : Bool} (h : (decide (l ≤ n) && decide (n ≤ u)) = b) (w : World) :
    Calls Try.prog 23 #[.int .i64 n, spanV l u] w fun e w' => e = .returned (.bool b) ∧ Below w.heap.size w w' := by
  subst h
  exact rin_any n l u w
theorem within_is {la ua lb ub : Int} {b : Bool} (h : (decide (lb ≤ la) && decide (ua ≤ ub)) = b) (w : World) :
    Calls Try.prog 29 #[spanV la ua, spanV lb ub] w fun e w' => e = .returned (.bool b) ∧ Below w.heap.size w w' := by
  subst h
  exact within_any la ua lb ub w
theorem smeet_is {la ua lb ub l u e : Int} (h : meetL la ua lb ub = l ∧ meetH la ua lb ub = u ∧ meetE la ua lb ub = e) (w : World) :
    Calls Try.prog 27 #[spanV la ua, spanV lb ub] w fun e' w' => e' = .returned (spE l u e) ∧ Below w.heap.size w w' := by
  obtain ⟨rfl, rfl, rfl⟩ := h
  exact smeet_any la ua lb ub w
theorem sjoin_is {la ua lb ub l u e : Int} (h : joinL la ua lb ub = l ∧ joinH la ua lb ub = u ∧ joinE la ua lb ub = e) (w : World) :
    Calls Try.prog 28 #[spanV la ua, spanV lb ub] w fun e' w' => e' = .returned (spE l u e) ∧ Below w.heap.size w w' := by
  obtain ⟨rfl, rfl, rfl⟩ := h
  exact sjoin_any la ua lb ub w

set_option maxRecDepth 100000 in
set_option maxHeartbeats 8000000 in
theorem bad1 (l0 u0 l1 u1 l2 u2 n : Int) (w : World)  (HA : Hid (vsp l0 u0 = false)) :
    Calls Try.prog 6 #[spanV l0 u0, spanV l1 u1, spanV l2 u2, .int .i64 n] w fun e w' => e = .returned (.bool true) ∧ Below w.heap.size w w' := by
  go_enter Try.func6, Try.ntmps6
  go_wp2_with fail
  refine (wide_any _).mono ?_
  rintro e w1 ⟨rfl, hb1⟩
  have a0_1 : w1.cell? ⟨w.heap.size, 0, none⟩ = some (.int .i64 l0) := carry hb1 (by go_simp)
  have a1_1 : w1.cell? ⟨w.heap.size, 1, none⟩ = some (.int .i64 u0) := carry hb1 (by go_simp)
  have az_1 : w.heap.size < w1.heap.size := by have := hb1.size; first | omega | (simp at this; omega)
  have b0_1 : w1.cell? ⟨w.heap.size + 1, 0, none⟩ = some (.int .i64 l1) := carry hb1 (by go_simp)
  have b1_1 : w1.cell? ⟨w.heap.size + 1, 1, none⟩ = some (.int .i64 u1) := carry hb1 (by go_simp)
  have bz_1 : w.heap.size + 1 < w1.heap.size := by have := hb1.size; first | omega | (simp at this; omega)
  have c0_1 : w1.cell? ⟨w.heap.size + 1 + 1, 0, none⟩ = some (.int .i64 l2) := carry hb1 (by go_simp)
  have c1_1 : w1.cell? ⟨w.heap.size + 1 + 1, 1, none⟩ = some (.int .i64 u2) := carry hb1 (by go_simp)
  have cz_1 : w.heap.size + 1 + 1 < w1.heap.size := by have := hb1.size; first | omega | (simp at this; omega)
  have HB_1 := Lib.hid ((by repeat (first | exact Below.refl _ _ | refine Below.drew ?_ | refine Below.setCell ?_ (by first | omega | (simp; done) | (simp; omega)) _ | refine Below.alloc ?_ (by first | omega | (simp; done) | (simp; omega)) _) : Below w.heap.size w _).trans (hb1.mono (by first | omega | (simp; done) | (simp; omega))))
  have nz_1 : w.heap.size ≤ w1.heap.size := HB_1.out.size
  clear hb1
  go_wp2_with fail
  refine (vspan_is HA.out _).mono ?_
  rintro e w2 ⟨rfl, hb2⟩
  have a0_2 : w2.cell? ⟨w.heap.size, 0, none⟩ = some (.int .i64 l0) := carry hb2 (by go_simp)
  have a1_2 : w2.cell? ⟨w.heap.size, 1, none⟩ = some (.int .i64 u0) := carry hb2 (by go_simp)
  have az_2 : w.heap.size < w2.heap.size := by have := hb2.size; first | omega | (simp at this; omega)
  have b0_2 : w2.cell? ⟨w.heap.size + 1, 0, none⟩ = some (.int .i64 l1) := carry hb2 (by go_simp)
  have b1_2 : w2.cell? ⟨w.heap.size + 1, 1, none⟩ = some (.int .i64 u1) := carry hb2 (by go_simp)
  have bz_2 : w.heap.size + 1 < w2.heap.size := by have := hb2.size; first | omega | (simp at this; omega)
  have c0_2 : w2.cell? ⟨w.heap.size + 1 + 1, 0, none⟩ = some (.int .i64 l2) := carry hb2 (by go_simp)
  have c1_2 : w2.cell? ⟨w.heap.size + 1 + 1, 1, none⟩ = some (.int .i64 u2) := carry hb2 (by go_simp)
  have cz_2 : w.heap.size + 1 + 1 < w2.heap.size := by have := hb2.size; first | omega | (simp at this; omega)
  have HB_2 := Lib.hid ((by repeat (first | exact HB_1.out | refine Below.drew ?_ | refine Below.setCell ?_ (by first | omega | (simp; done) | (simp; omega)) _ | refine Below.alloc ?_ (by first | omega | (simp; done) | (simp; omega)) _) : Below w.heap.size w _).trans (hb2.mono (by first | omega | (simp; done) | (simp; omega))))
  have nz_2 : w.heap.size ≤ w2.heap.size := HB_2.out.size
  clear hb2 a0_1 a1_1 b0_1 b1_1 c0_1 c1_1 HB_1
  go_wp2_with fail
  go_ret
  exact ⟨rfl, by repeat (first | exact HB_2.out | refine Below.drew ?_ | refine Below.setCell ?_ (by first | omega | (simp; done) | (simp; omega)) _ | refine Below.alloc ?_ (by first | omega | (simp; done) | (simp; omega)) _)⟩

set_option maxRecDepth 100000 in
set_option maxHeartbeats 8000000 in
theorem bad2 (l0 u0 l1 u1 l2 u2 n : Int) (w : World) (HA : Hid (vsp l0 u0 = true)) (HB : Hid (vsp l1 u1 = false)) :
    Calls Try.prog 6 #[spanV l0 u0, spanV l1 u1, spanV l2 u2, .int .i64 n] w fun e w' => e = .returned (.bool true) ∧ Below w.heap.size w w' := by
  go_enter Try.func6, Try.ntmps6
  go_wp2_with fail
  refine (wide_any _).mono ?_
  rintro e w1 ⟨rfl, hb1⟩
  have a0_1 : w1.cell? ⟨w.heap.size, 0, none⟩ = some (.int .i64 l0) := carry hb1 (by go_simp)
  have a1_1 : w1.cell? ⟨w.heap.size, 1, none⟩ = some (.int .i64 u0) := carry hb1 (by go_simp)
  have az_1 : w.heap.size < w1.heap.size := by have := hb1.size; first | omega | (simp at this; omega)
  have b0_1 : w1.cell? ⟨w.heap.size + 1, 0, none⟩ = some (.int .i64 l1) := carry hb1 (by go_simp)
  have b1_1 : w1.cell? ⟨w.heap.size + 1, 1, none⟩ = some (.int .i64 u1) := carry hb1 (by go_simp)
  have bz_1 : w.heap.size + 1 < w1.heap.size := by have := hb1.size; first | omega | (simp at this; omega)
  have c0_1 : w1.cell? ⟨w.heap.size + 1 + 1, 0, none⟩ = some (.int .i64 l2) := carry hb1 (by go_simp)
  have c1_1 : w1.cell? ⟨w.heap.size + 1 + 1, 1, none⟩ = some (.int .i64 u2) := carry hb1 (by go_simp)
  have cz_1 : w.heap.size + 1 + 1 < w1.heap.size := by have := hb1.size; first | omega | (simp at this; omega)
  have HB_1 := Lib.hid ((by repeat (first | exact Below.refl _ _ | refine Below.drew ?_ | refine Below.setCell ?_ (by first | omega | (simp; done) | (simp; omega)) _ | refine Below.alloc ?_ (by first | omega | (simp; done) | (simp; omega)) _) : Below w.heap.size w _).trans (hb1.mono (by first | omega | (simp; done) | (simp; omega))))
  have nz_1 : w.heap.size ≤ w1.heap.size := HB_1.out.size
  clear hb1
  go_wp2_with fail
  refine (vspan_is HA.out _).mono ?_
  rintro e w2 ⟨rfl, hb2⟩
  have a0_2 : w2.cell? ⟨w.heap.size, 0, none⟩ = some (.int .i64 l0) := carry hb2 (by go_simp)
  have a1_2 : w2.cell? ⟨w.heap.size, 1, none⟩ = some (.int .i64 u0) := carry hb2 (by go_simp)
  have az_2 : w.heap.size < w2.heap.size := by have := hb2.size; first | omega | (simp at this; omega)
  have b0_2 : w2.cell? ⟨w.heap.size + 1, 0, none⟩ = some (.int .i64 l1) := carry hb2 (by go_simp)
  have b1_2 : w2.cell? ⟨w.heap.size + 1, 1, none⟩ = some (.int .i64 u1) := carry hb2 (by go_simp)
  have bz_2 : w.heap.size + 1 < w2.heap.size := by have := hb2.size; first | omega | (simp at this; omega)
  have c0_2 : w2.cell? ⟨w.heap.size + 1 + 1, 0, none⟩ = some (.int .i64 l2) := carry hb2 (by go_simp)
  have c1_2 : w2.cell? ⟨w.heap.size + 1 + 1, 1, none⟩ = some (.int .i64 u2) := carry hb2 (by go_simp)
  have cz_2 : w.heap.size + 1 + 1 < w2.heap.size := by have := hb2.size; first | omega | (simp at this; omega)
  have HB_2 := Lib.hid ((by repeat (first | exact HB_1.out | refine Below.drew ?_ | refine Below.setCell ?_ (by first | omega | (simp; done) | (simp; omega)) _ | refine Below.alloc ?_ (by first | omega | (simp; done) | (simp; omega)) _) : Below w.heap.size w _).trans (hb2.mono (by first | omega | (simp; done) | (simp; omega))))
  have nz_2 : w.heap.size ≤ w2.heap.size := HB_2.out.size
  clear hb2 a0_1 a1_1 b0_1 b1_1 c0_1 c1_1 HB_1
  go_wp2_with fail
  refine (vspan_is HB.out _).mono ?_
  rintro e w3 ⟨rfl, hb3⟩
  have a0_3 : w3.cell? ⟨w.heap.size, 0, none⟩ = some (.int .i64 l0) := carry hb3 (by go_simp)
  have a1_3 : w3.cell? ⟨w.heap.size, 1, none⟩ = some (.int .i64 u0) := carry hb3 (by go_simp)
  have az_3 : w.heap.size < w3.heap.size := by have := hb3.size; first | omega | (simp at this; omega)
  have b0_3 : w3.cell? ⟨w.heap.size + 1, 0, none⟩ = some (.int .i64 l1) := carry hb3 (by go_simp)
  have b1_3 : w3.cell? ⟨w.heap.size + 1, 1, none⟩ = some (.int .i64 u1) := carry hb3 (by go_simp)
  have bz_3 : w.heap.size + 1 < w3.heap.size := by have := hb3.size; first | omega | (simp at this; omega)
  have c0_3 : w3.cell? ⟨w.heap.size + 1 + 1, 0, none⟩ = some (.int .i64 l2) := carry hb3 (by go_simp)
  have c1_3 : w3.cell? ⟨w.heap.size + 1 + 1, 1, none⟩ = some (.int .i64 u2) := carry hb3 (by go_simp)
  have cz_3 : w.heap.size + 1 + 1 < w3.heap.size := by have := hb3.size; first | omega | (simp at this; omega)
  have HB_3 := Lib.hid ((by repeat (first | exact HB_2.out | refine Below.drew ?_ | refine Below.setCell ?_ (by first | omega | (simp; done) | (simp; omega)) _ | refine Below.alloc ?_ (by first | omega | (simp; done) | (simp; omega)) _) : Below w.heap.size w _).trans (hb3.mono (by first | omega | (simp; done) | (simp; omega))))
  have nz_3 : w.heap.size ≤ w3.heap.size := HB_3.out.size
  clear hb3 a0_2 a1_2 b0_2 b1_2 c0_2 c1_2 HB_2
  go_wp2_with fail
  go_ret
  exact ⟨rfl, by repeat (first | exact HB_3.out | refine Below.drew ?_ | refine Below.setCell ?_ (by first | omega | (simp; done) | (simp; omega)) _ | refine Below.alloc ?_ (by first | omega | (simp; done) | (simp; omega)) _)⟩

set_option maxRecDepth 100000 in
set_option maxHeartbeats 8000000 in
theorem bad3 (l0 u0 l1 u1 l2 u2 n : Int) (w : World) (HA : Hid (vsp l0 u0 = true)) (HB : Hid (vsp l1 u1 = true)) (HC : Hid (vsp l2 u2 = false)) :
    Calls Try.prog 6 #[spanV l0 u0, spanV l1 u1, spanV l2 u2, .int .i64 n] w fun e w' => e = .returned (.bool true) ∧ Below w.heap.size w w' := by
  go_enter Try.func6, Try.ntmps6
  go_wp2_with fail
  refine (wide_any _).mono ?_
  rintro e w1 ⟨rfl, hb1⟩
  have a0_1 : w1.cell? ⟨w.heap.size, 0, none⟩ = some (.int .i64 l0) := carry hb1 (by go_simp)
  have a1_1 : w1.cell? ⟨w.heap.size, 1, none⟩ = some (.int .i64 u0) := carry hb1 (by go_simp)
  have az_1 : w.heap.size < w1.heap.size := by have := hb1.size; first | omega | (simp at this; omega)
  have b0_1 : w1.cell? ⟨w.heap.size + 1, 0, none⟩ = some (.int .i64 l1) := carry hb1 (by go_simp)
  have b1_1 : w1.cell? ⟨w.heap.size + 1, 1, none⟩ = some (.int .i64 u1) := carry hb1 (by go_simp)
  have bz_1 : w.heap.size + 1 < w1.heap.size := by have := hb1.size; first | omega | (simp at this; omega)
  have c0_1 : w1.cell? ⟨w.heap.size + 1 + 1, 0, none⟩ = some (.int .i64 l2) := carry hb1 (by go_simp)
  have c1_1 : w1.cell? ⟨w.heap.size + 1 + 1, 1, none⟩ = some (.int .i64 u2) := carry hb1 (by go_simp)
  have cz_1 : w.heap.size + 1 + 1 < w1.heap.size := by have := hb1.size; first | omega | (simp at this; omega)
  have HB_1 := Lib.hid ((by repeat (first | exact Below.refl _ _ | refine Below.drew ?_ | refine Below.setCell ?_ (by first | omega | (simp; done) | (simp; omega)) _ | refine Below.alloc ?_ (by first | omega | (simp; done) | (simp; omega)) _) : Below w.heap.size w _).trans (hb1.mono (by first | omega | (simp; done) | (simp; omega))))
  have nz_1 : w.heap.size ≤ w1.heap.size := HB_1.out.size
  clear hb1
  go_wp2_with fail
  refine (vspan_is HA.out _).mono ?_
  rintro e w2 ⟨rfl, hb2⟩
  have a0_2 : w2.cell? ⟨w.heap.size, 0, none⟩ = some (.int .i64 l0) := carry hb2 (by go_simp)
  have a1_2 : w2.cell? ⟨w.heap.size, 1, none⟩ = some (.int .i64 u0) := carry hb2 (by go_simp)
  have az_2 : w.heap.size < w2.heap.size := by have := hb2.size; first | omega | (simp at this; omega)
  have b0_2 : w2.cell? ⟨w.heap.size + 1, 0, none⟩ = some (.int .i64 l1) := carry hb2 (by go_simp)
  have b1_2 : w2.cell? ⟨w.heap.size + 1, 1, none⟩ = some (.int .i64 u1) := carry hb2 (by go_simp)
  have bz_2 : w.heap.size + 1 < w2.heap.size := by have := hb2.size; first | omega | (simp at this; omega)
  have c0_2 : w2.cell? ⟨w.heap.size + 1 + 1, 0, none⟩ = some (.int .i64 l2) := carry hb2 (by go_simp)
  have c1_2 : w2.cell? ⟨w.heap.size + 1 + 1, 1, none⟩ = some (.int .i64 u2) := carry hb2 (by go_simp)
  have cz_2 : w.heap.size + 1 + 1 < w2.heap.size := by have := hb2.size; first | omega | (simp at this; omega)
  have HB_2 := Lib.hid ((by repeat (first | exact HB_1.out | refine Below.drew ?_ | refine Below.setCell ?_ (by first | omega | (simp; done) | (simp; omega)) _ | refine Below.alloc ?_ (by first | omega | (simp; done) | (simp; omega)) _) : Below w.heap.size w _).trans (hb2.mono (by first | omega | (simp; done) | (simp; omega))))
  have nz_2 : w.heap.size ≤ w2.heap.size := HB_2.out.size
  clear hb2 a0_1 a1_1 b0_1 b1_1 c0_1 c1_1 HB_1
  go_wp2_with fail
  refine (vspan_is HB.out _).mono ?_
  rintro e w3 ⟨rfl, hb3⟩
  have a0_3 : w3.cell? ⟨w.heap.size, 0, none⟩ = some (.int .i64 l0) := carry hb3 (by go_simp)
  have a1_3 : w3.cell? ⟨w.heap.size, 1, none⟩ = some (.int .i64 u0) := carry hb3 (by go_simp)
  have az_3 : w.heap.size < w3.heap.size := by have := hb3.size; first | omega | (simp at this; omega)
  have b0_3 : w3.cell? ⟨w.heap.size + 1, 0, none⟩ = some (.int .i64 l1) := carry hb3 (by go_simp)
  have b1_3 : w3.cell? ⟨w.heap.size + 1, 1, none⟩ = some (.int .i64 u1) := carry hb3 (by go_simp)
  have bz_3 : w.heap.size + 1 < w3.heap.size := by have := hb3.size; first | omega | (simp at this; omega)
  have c0_3 : w3.cell? ⟨w.heap.size + 1 + 1, 0, none⟩ = some (.int .i64 l2) := carry hb3 (by go_simp)
  have c1_3 : w3.cell? ⟨w.heap.size + 1 + 1, 1, none⟩ = some (.int .i64 u2) := carry hb3 (by go_simp)
  have cz_3 : w.heap.size + 1 + 1 < w3.heap.size := by have := hb3.size; first | omega | (simp at this; omega)
  have HB_3 := Lib.hid ((by repeat (first | exact HB_2.out | refine Below.drew ?_ | refine Below.setCell ?_ (by first | omega | (simp; done) | (simp; omega)) _ | refine Below.alloc ?_ (by first | omega | (simp; done) | (simp; omega)) _) : Below w.heap.size w _).trans (hb3.mono (by first | omega | (simp; done) | (simp; omega))))
  have nz_3 : w.heap.size ≤ w3.heap.size := HB_3.out.size
  clear hb3 a0_2 a1_2 b0_2 b1_2 c0_2 c1_2 HB_2
  go_wp2_with fail
  refine (vspan_is HC.out _).mono ?_
  rintro e w4 ⟨rfl, hb4⟩
  have a0_4 : w4.cell? ⟨w.heap.size, 0, none⟩ = some (.int .i64 l0) := carry hb4 (by go_simp)
  have a1_4 : w4.cell? ⟨w.heap.size, 1, none⟩ = some (.int .i64 u0) := carry hb4 (by go_simp)
  have az_4 : w.heap.size < w4.heap.size := by have := hb4.size; first | omega | (simp at this; omega)
  have b0_4 : w4.cell? ⟨w.heap.size + 1, 0, none⟩ = some (.int .i64 l1) := carry hb4 (by go_simp)
  have b1_4 : w4.cell? ⟨w.heap.size + 1, 1, none⟩ = some (.int .i64 u1) := carry hb4 (by go_simp)
  have bz_4 : w.heap.size + 1 < w4.heap.size := by have := hb4.size; first | omega | (simp at this; omega)
  have c0_4 : w4.cell? ⟨w.heap.size + 1 + 1, 0, none⟩ = some (.int .i64 l2) := carry hb4 (by go_simp)
  have c1_4 : w4.cell? ⟨w.heap.size + 1 + 1, 1, none⟩ = some (.int .i64 u2) := carry hb4 (by go_simp)
  have cz_4 : w.heap.size + 1 + 1 < w4.heap.size := by have := hb4.size; first | omega | (simp at this; omega)
  have HB_4 := Lib.hid ((by repeat (first | exact HB_3.out | refine Below.drew ?_ | refine Below.setCell ?_ (by first | omega | (simp; done) | (simp; omega)) _ | refine Below.alloc ?_ (by first | omega | (simp; done) | (simp; omega)) _) : Below w.heap.size w _).trans (hb4.mono (by first | omega | (simp; done) | (simp; omega))))
  have nz_4 : w.heap.size ≤ w4.heap.size := HB_4.out.size
  clear hb4 a0_3 a1_3 b0_3 b1_3 c0_3 c1_3 HB_3
  go_wp2_with fail
  go_ret
  exact ⟨rfl, by repeat (first | exact HB_4.out | refine Below.drew ?_ | refine Below.setCell ?_ (by first | omega | (simp; done) | (simp; omega)) _ | refine Below.alloc ?_ (by first | omega | (simp; done) | (simp; omega)) _)⟩

end Go.Proofs.Ytnhieokegidibaa.integerLattice
