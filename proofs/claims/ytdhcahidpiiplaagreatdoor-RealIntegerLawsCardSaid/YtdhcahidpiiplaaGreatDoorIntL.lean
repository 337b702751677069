/-
  RealIntegerLaws: the ways.
-/
import Derived.Test.YtdhcahidpiiplaaGreatDoorValA
import Derived.Deep.RegionHeld3
import Derived.Test.YtdhcahidpiiplaaGreatDoorOrderR
import Derived.Test.YtdhcahidpiiplaaGreatDoorSanH

namespace Go.Proofs.YtdhcahidpiiplaaGreatDoor.realIntegerLaws
open Go.RowKit
set_option linter.unusedVariables false

set_option maxRecDepth 100000 in
set_option maxHeartbeats 1600000 in
theorem lat_all (i j : Int) (w : World) (hj : i.tmod 2533359616 = j) (h1 : -2533359615 ≤ j) (h2 : j ≤ 2533359615) :
    Calls Tryz.prog 12 #[.int .i64 i] w fun r w' => r = .returned (realV (aM j) (aE j)) ∧ Below w.heap.size w w' := by
  have HA := Lib.hid (at_ok j)
  go_enter Tryz.func12, Tryz.ntmps12
  go_wp2_with fail

  refine (HA.out _ h1 h2).mono ?_
  rintro r w1 ⟨rfl, hb1⟩
  have hz1 : w.heap.size < w1.heap.size := by have := hb1.size; first | omega | (simp at this; omega)
  have f0 : w1.frozen? ⟨w.heap.size, 0, none⟩ = false := carryF hb1 (v := .int .i64 0) (by first | assumption | go_simp) (by first | assumption | go_simp)
  have f1 : w1.frozen? ⟨w.heap.size, 1, none⟩ = false := carryF hb1 (v := .int .i64 0) (by first | assumption | go_simp) (by first | assumption | go_simp)
  have r0 : w1.cell? ⟨w.heap.size, 0, none⟩ = some (.int .i64 0) := carry hb1 (by first | assumption | go_simp)
  have r1 : w1.cell? ⟨w.heap.size, 1, none⟩ = some (.int .i64 0) := carry hb1 (by first | assumption | go_simp)
  have HBB := Lib.hid ((by repeat (first | exact Below.refl _ _ | refine Below.setCell ?_ (by first | omega | (simp; done) | (simp; omega)) _ | refine Below.alloc ?_ (by first | omega | (simp; done) | (simp; omega)) _) : Below w.heap.size w _).trans (hb1.mono (by first | omega | (simp; done) | (simp; omega))))
  clear hb1
  generalize hm : aM j = am
  generalize he : aE j = ae
  have HQ := Lib.hid (And.intro hm he)
  clear hm he hj
  go_wp2_with fail
  refine bodyPost_ret (v := realV am ae) (by simp [results, Tryz.results12, go_sem, r0, r1, hz1]) rfl ⟨by rw [HQ.out.1, HQ.out.2], by repeat (first | with_reducible exact HBB.out | with_reducible exact Below.refl _ _ | with_reducible refine Below.drew ?_ | with_reducible refine belowN ?_ _ | with_reducible refine Below.setCell ?_ (by first | omega | (simp; done) | (simp; omega)) _ | with_reducible refine Below.alloc ?_ (by first | omega | (simp; done) | (simp; omega)) _)⟩

theorem carry_two {wa wq : World} {T : TypeId} (h : Below (wa.alloc (.cells #[.int .i64 0, .int .i64 0] T)).drew.heap.size (wa.alloc (.cells #[.int .i64 0, .int .i64 0] T)).drew wq) :
    wq.cell? ⟨wa.heap.size, 0, none⟩ = some (.int .i64 0) ∧ wq.cell? ⟨wa.heap.size, 1, none⟩ = some (.int .i64 0) ∧ wq.frozen? ⟨wa.heap.size, 0, none⟩ = false ∧ wq.frozen? ⟨wa.heap.size, 1, none⟩ = false ∧ wa.heap.size < wq.heap.size :=
  ⟨carry h (by go_simp), carry h (by go_simp), carryF h (v := .int .i64 0) (by go_simp) (by go_simp), carryF h (v := .int .i64 0) (by go_simp) (by go_simp), by have := h.size; simp at this; omega⟩

theorem carry_two' {wa wq : World} {T : TypeId} (h : Below (wa.alloc (.cells #[.int .i64 0, .int .i64 0] T)).heap.size (wa.alloc (.cells #[.int .i64 0, .int .i64 0] T)) wq) :
    wq.cell? ⟨wa.heap.size, 0, none⟩ = some (.int .i64 0) ∧ wq.cell? ⟨wa.heap.size, 1, none⟩ = some (.int .i64 0) ∧ wq.frozen? ⟨wa.heap.size, 0, none⟩ = false ∧ wq.frozen? ⟨wa.heap.size, 1, none⟩ = false ∧ wa.heap.size < wq.heap.size :=
  ⟨carry h (by go_simp), carry h (by go_simp), carryF h (v := .int .i64 0) (by go_simp) (by go_simp), carryF h (v := .int .i64 0) (by go_simp) (by go_simp), by have := h.size; simp at this; omega⟩

set_option maxRecDepth 100000 in
set_option maxHeartbeats 8000000 in
theorem eA (n0 i0 n k f m e mm p s u v : Int) (w : World) (hn : n0.tmod 16777217 = n) (HF1 : Hid (∀ W : World, Calls Tryz.prog 19 #[.int .i64 n] W fun r w' => r = .returned (realV k f) ∧ Below W.heap.size W w')) (HE1 : Hid (∀ W : World, Calls Tryz.prog 18 #[realV k f] W fun r w' => r = .returned (iE n 0) ∧ Below W.heap.size W w')) (HA : Hid (∀ W : World, Calls Tryz.prog 12 #[.int .i64 i0] W fun r w' => r = .returned (realV m e) ∧ Below W.heap.size W w')) (HE : Hid (∀ W : World, Calls Tryz.prog 18 #[realV m e] W fun r w' => r = .returned (iE p 3) ∧ Below W.heap.size W w')) (HR : Hid (∀ W : World, Calls Tryz.prog 20 #[realV m e] W fun r w' => r = .returned (iE s 0) ∧ Below W.heap.size W w')) (HN : Hid (∀ W : World, Calls Tryz.prog 21 #[realV m e] W fun r w' => r = .returned (rE mm e 0) ∧ Below W.heap.size W w')) (HC : Hid (∀ W : World, Calls Tryz.prog 20 #[realV mm e] W fun r w' => r = .returned (iE u v) ∧ Below W.heap.size W w')) (HSan : Hid (∀ W, Below w.heap.size w W → Calls Tryz.prog 17 #[] W fun r W' => r = .returned (.bool true) ∧ Below W.heap.size W W'))  :
    Calls Tryz.prog 4 #[.int .i64 i0, .int .i64 n0] w fun r w' => r = .returned (.bool true) ∧ Below w.heap.size w w' := by
  go_enter Tryz.func4, Tryz.ntmps4
  go_wp2_with fail
  clear hn
  refine (HF1.out _).mono ?_
  rintro e w1 ⟨rfl, hb1⟩
  have HB_1 := Lib.hid ((by repeat (first | exact Below.refl _ _ | refine Below.drew ?_ | refine Below.setCell ?_ (by first | omega | (simp; done) | (simp; omega)) _ | refine Below.alloc ?_ (by first | omega | (simp; done) | (simp; omega)) _) : Below w.heap.size w _).trans (hb1.mono (by first | omega | (simp; done) | (simp; omega))))
  have nz_1 : w.heap.size ≤ w1.heap.size := HB_1.out.size
  clear hb1
  go_wp2_with fail
  refine (HE1.out _).mono ?_
  rintro e w2 ⟨rfl, hb2⟩
  have HB_2 := Lib.hid ((by repeat (first | exact HB_1.out | refine Below.drew ?_ | refine Below.setCell ?_ (by first | omega | (simp; done) | (simp; omega)) _ | refine Below.alloc ?_ (by first | omega | (simp; done) | (simp; omega)) _) : Below w.heap.size w _).trans (hb2.mono (by first | omega | (simp; done) | (simp; omega))))
  have nz_2 : w.heap.size ≤ w2.heap.size := HB_2.out.size
  clear hb2 HB_1
  go_wp2_with fail
  refine (HA.out _).mono ?_
  rintro e w3 ⟨rfl, hb3⟩
  have HB_3 := Lib.hid ((by repeat (first | exact HB_2.out | refine Below.drew ?_ | refine Below.setCell ?_ (by first | omega | (simp; done) | (simp; omega)) _ | refine Below.alloc ?_ (by first | omega | (simp; done) | (simp; omega)) _) : Below w.heap.size w _).trans (hb3.mono (by first | omega | (simp; done) | (simp; omega))))
  have nz_3 : w.heap.size ≤ w3.heap.size := HB_3.out.size
  clear hb3 HB_2
  go_wp2_with fail
  refine (HE.out _).mono ?_
  rintro e w4 ⟨rfl, hb4⟩
  have x0_4 : w4.cell? ⟨w3.heap.size, 0, none⟩ = some (.int .i64 m) := carry hb4 (by go_simp)
  have x1_4 : w4.cell? ⟨w3.heap.size, 1, none⟩ = some (.int .i64 e) := carry hb4 (by go_simp)
  have xz_4 : w3.heap.size < w4.heap.size := by have := hb4.size; first | omega | (simp at this; omega)
  have HB_4 := Lib.hid ((by repeat (first | exact HB_3.out | refine Below.drew ?_ | refine Below.setCell ?_ (by first | omega | (simp; done) | (simp; omega)) _ | refine Below.alloc ?_ (by first | omega | (simp; done) | (simp; omega)) _) : Below w.heap.size w _).trans (hb4.mono (by first | omega | (simp; done) | (simp; omega))))
  have nz_4 : w.heap.size ≤ w4.heap.size := HB_4.out.size
  clear hb4 HB_3
  go_wp2_with fail
  refine (HR.out _).mono ?_
  rintro e w5 ⟨rfl, hb5⟩
  have x0_5 : w5.cell? ⟨w3.heap.size, 0, none⟩ = some (.int .i64 m) := carry hb5 (by go_simp)
  have x1_5 : w5.cell? ⟨w3.heap.size, 1, none⟩ = some (.int .i64 e) := carry hb5 (by go_simp)
  have xz_5 : w3.heap.size < w5.heap.size := by have := hb5.size; first | omega | (simp at this; omega)
  have HB_5 := Lib.hid ((by repeat (first | exact HB_4.out | refine Below.drew ?_ | refine Below.setCell ?_ (by first | omega | (simp; done) | (simp; omega)) _ | refine Below.alloc ?_ (by first | omega | (simp; done) | (simp; omega)) _) : Below w.heap.size w _).trans (hb5.mono (by first | omega | (simp; done) | (simp; omega))))
  have nz_5 : w.heap.size ≤ w5.heap.size := HB_5.out.size
  clear hb5 x0_4 x1_4 HB_4
  go_wp2_with fail
  refine (HN.out _).mono ?_
  rintro e w6 ⟨rfl, hb6⟩
  have x0_6 : w6.cell? ⟨w3.heap.size, 0, none⟩ = some (.int .i64 m) := carry hb6 (by go_simp)
  have x1_6 : w6.cell? ⟨w3.heap.size, 1, none⟩ = some (.int .i64 e) := carry hb6 (by go_simp)
  have xz_6 : w3.heap.size < w6.heap.size := by have := hb6.size; first | omega | (simp at this; omega)
  have HB_6 := Lib.hid ((by repeat (first | exact HB_5.out | refine Below.drew ?_ | refine Below.setCell ?_ (by first | omega | (simp; done) | (simp; omega)) _ | refine Below.alloc ?_ (by first | omega | (simp; done) | (simp; omega)) _) : Below w.heap.size w _).trans (hb6.mono (by first | omega | (simp; done) | (simp; omega))))
  have nz_6 : w.heap.size ≤ w6.heap.size := HB_6.out.size
  clear hb6 x0_5 x1_5 HB_5
  go_wp2_with fail
  refine (HC.out _).mono ?_
  rintro e w7 ⟨rfl, hb7⟩
  have x0_7 : w7.cell? ⟨w3.heap.size, 0, none⟩ = some (.int .i64 m) := carry hb7 (by go_simp)
  have x1_7 : w7.cell? ⟨w3.heap.size, 1, none⟩ = some (.int .i64 e) := carry hb7 (by go_simp)
  have xz_7 : w3.heap.size < w7.heap.size := by have := hb7.size; first | omega | (simp at this; omega)
  have y0_7 : w7.cell? ⟨w6.heap.size, 0, none⟩ = some (.int .i64 mm) := carry hb7 (by go_simp)
  have y1_7 : w7.cell? ⟨w6.heap.size, 1, none⟩ = some (.int .i64 e) := carry hb7 (by go_simp)
  have yz_7 : w6.heap.size < w7.heap.size := by have := hb7.size; first | omega | (simp at this; omega)
  have HB_7 := Lib.hid ((by repeat (first | exact HB_6.out | refine Below.drew ?_ | refine Below.setCell ?_ (by first | omega | (simp; done) | (simp; omega)) _ | refine Below.alloc ?_ (by first | omega | (simp; done) | (simp; omega)) _) : Below w.heap.size w _).trans (hb7.mono (by first | omega | (simp; done) | (simp; omega))))
  have nz_7 : w.heap.size ≤ w7.heap.size := HB_7.out.size
  clear hb7 x0_6 x1_6 HB_6
  go_wp2_with fail
  refine (HSan.out _ (by repeat (first | exact HB_7.out | refine Below.drew ?_ | refine Below.setCell ?_ (by first | omega | (simp; done) | (simp; omega)) _ | refine Below.alloc ?_ (by first | omega | (simp; done) | (simp; omega)) _))).mono ?_
  rintro e w8 ⟨rfl, hb8⟩
  have x0_8 : w8.cell? ⟨w3.heap.size, 0, none⟩ = some (.int .i64 m) := carry hb8 (by go_simp)
  have x1_8 : w8.cell? ⟨w3.heap.size, 1, none⟩ = some (.int .i64 e) := carry hb8 (by go_simp)
  have xz_8 : w3.heap.size < w8.heap.size := by have := hb8.size; first | omega | (simp at this; omega)
  have y0_8 : w8.cell? ⟨w6.heap.size, 0, none⟩ = some (.int .i64 mm) := carry hb8 (by go_simp)
  have y1_8 : w8.cell? ⟨w6.heap.size, 1, none⟩ = some (.int .i64 e) := carry hb8 (by go_simp)
  have yz_8 : w6.heap.size < w8.heap.size := by have := hb8.size; first | omega | (simp at this; omega)
  have HB_8 := Lib.hid ((by repeat (first | exact HB_7.out | refine Below.drew ?_ | refine Below.setCell ?_ (by first | omega | (simp; done) | (simp; omega)) _ | refine Below.alloc ?_ (by first | omega | (simp; done) | (simp; omega)) _) : Below w.heap.size w _).trans (hb8.mono (by first | omega | (simp; done) | (simp; omega))))
  have nz_8 : w.heap.size ≤ w8.heap.size := HB_8.out.size
  clear hb8 x0_7 x1_7 y0_7 y1_7 HB_7
  go_wp2_with fail
  go_ret
  exact ⟨rfl, by repeat (first | exact HB_8.out | refine Below.drew ?_ | refine Below.setCell ?_ (by first | omega | (simp; done) | (simp; omega)) _ | refine Below.alloc ?_ (by first | omega | (simp; done) | (simp; omega)) _)⟩

set_option maxRecDepth 100000 in
set_option maxHeartbeats 8000000 in
theorem eB (n0 i0 n k f m e mm p s u v : Int) (w : World) (hn : n0.tmod 16777217 = n) (HF1 : Hid (∀ W : World, Calls Tryz.prog 19 #[.int .i64 n] W fun r w' => r = .returned (realV k f) ∧ Below W.heap.size W w')) (HE1 : Hid (∀ W : World, Calls Tryz.prog 18 #[realV k f] W fun r w' => r = .returned (iE n 0) ∧ Below W.heap.size W w')) (HA : Hid (∀ W : World, Calls Tryz.prog 12 #[.int .i64 i0] W fun r w' => r = .returned (realV m e) ∧ Below W.heap.size W w')) (HE : Hid (∀ W : World, Calls Tryz.prog 18 #[realV m e] W fun r w' => r = .returned (iE p 0) ∧ Below W.heap.size W w')) (HR : Hid (∀ W : World, Calls Tryz.prog 20 #[realV m e] W fun r w' => r = .returned (iE s 3) ∧ Below W.heap.size W w')) (HN : Hid (∀ W : World, Calls Tryz.prog 21 #[realV m e] W fun r w' => r = .returned (rE mm e 0) ∧ Below W.heap.size W w')) (HC : Hid (∀ W : World, Calls Tryz.prog 20 #[realV mm e] W fun r w' => r = .returned (iE u v) ∧ Below W.heap.size W w')) (HSan : Hid (∀ W, Below w.heap.size w W → Calls Tryz.prog 17 #[] W fun r W' => r = .returned (.bool true) ∧ Below W.heap.size W W'))  :
    Calls Tryz.prog 4 #[.int .i64 i0, .int .i64 n0] w fun r w' => r = .returned (.bool true) ∧ Below w.heap.size w w' := by
  go_enter Tryz.func4, Tryz.ntmps4
  go_wp2_with fail
  clear hn
  refine (HF1.out _).mono ?_
  rintro e w1 ⟨rfl, hb1⟩
  have HB_1 := Lib.hid ((by repeat (first | exact Below.refl _ _ | refine Below.drew ?_ | refine Below.setCell ?_ (by first | omega | (simp; done) | (simp; omega)) _ | refine Below.alloc ?_ (by first | omega | (simp; done) | (simp; omega)) _) : Below w.heap.size w _).trans (hb1.mono (by first | omega | (simp; done) | (simp; omega))))
  have nz_1 : w.heap.size ≤ w1.heap.size := HB_1.out.size
  clear hb1
  go_wp2_with fail
  refine (HE1.out _).mono ?_
  rintro e w2 ⟨rfl, hb2⟩
  have HB_2 := Lib.hid ((by repeat (first | exact HB_1.out | refine Below.drew ?_ | refine Below.setCell ?_ (by first | omega | (simp; done) | (simp; omega)) _ | refine Below.alloc ?_ (by first | omega | (simp; done) | (simp; omega)) _) : Below w.heap.size w _).trans (hb2.mono (by first | omega | (simp; done) | (simp; omega))))
  have nz_2 : w.heap.size ≤ w2.heap.size := HB_2.out.size
  clear hb2 HB_1
  go_wp2_with fail
  refine (HA.out _).mono ?_
  rintro e w3 ⟨rfl, hb3⟩
  have HB_3 := Lib.hid ((by repeat (first | exact HB_2.out | refine Below.drew ?_ | refine Below.setCell ?_ (by first | omega | (simp; done) | (simp; omega)) _ | refine Below.alloc ?_ (by first | omega | (simp; done) | (simp; omega)) _) : Below w.heap.size w _).trans (hb3.mono (by first | omega | (simp; done) | (simp; omega))))
  have nz_3 : w.heap.size ≤ w3.heap.size := HB_3.out.size
  clear hb3 HB_2
  go_wp2_with fail
  refine (HE.out _).mono ?_
  rintro e w4 ⟨rfl, hb4⟩
  have x0_4 : w4.cell? ⟨w3.heap.size, 0, none⟩ = some (.int .i64 m) := carry hb4 (by go_simp)
  have x1_4 : w4.cell? ⟨w3.heap.size, 1, none⟩ = some (.int .i64 e) := carry hb4 (by go_simp)
  have xz_4 : w3.heap.size < w4.heap.size := by have := hb4.size; first | omega | (simp at this; omega)
  have HB_4 := Lib.hid ((by repeat (first | exact HB_3.out | refine Below.drew ?_ | refine Below.setCell ?_ (by first | omega | (simp; done) | (simp; omega)) _ | refine Below.alloc ?_ (by first | omega | (simp; done) | (simp; omega)) _) : Below w.heap.size w _).trans (hb4.mono (by first | omega | (simp; done) | (simp; omega))))
  have nz_4 : w.heap.size ≤ w4.heap.size := HB_4.out.size
  clear hb4 HB_3
  go_wp2_with fail
  refine (HR.out _).mono ?_
  rintro e w5 ⟨rfl, hb5⟩
  have x0_5 : w5.cell? ⟨w3.heap.size, 0, none⟩ = some (.int .i64 m) := carry hb5 (by go_simp)
  have x1_5 : w5.cell? ⟨w3.heap.size, 1, none⟩ = some (.int .i64 e) := carry hb5 (by go_simp)
  have xz_5 : w3.heap.size < w5.heap.size := by have := hb5.size; first | omega | (simp at this; omega)
  have HB_5 := Lib.hid ((by repeat (first | exact HB_4.out | refine Below.drew ?_ | refine Below.setCell ?_ (by first | omega | (simp; done) | (simp; omega)) _ | refine Below.alloc ?_ (by first | omega | (simp; done) | (simp; omega)) _) : Below w.heap.size w _).trans (hb5.mono (by first | omega | (simp; done) | (simp; omega))))
  have nz_5 : w.heap.size ≤ w5.heap.size := HB_5.out.size
  clear hb5 x0_4 x1_4 HB_4
  go_wp2_with fail
  refine (HN.out _).mono ?_
  rintro e w6 ⟨rfl, hb6⟩
  have x0_6 : w6.cell? ⟨w3.heap.size, 0, none⟩ = some (.int .i64 m) := carry hb6 (by go_simp)
  have x1_6 : w6.cell? ⟨w3.heap.size, 1, none⟩ = some (.int .i64 e) := carry hb6 (by go_simp)
  have xz_6 : w3.heap.size < w6.heap.size := by have := hb6.size; first | omega | (simp at this; omega)
  have HB_6 := Lib.hid ((by repeat (first | exact HB_5.out | refine Below.drew ?_ | refine Below.setCell ?_ (by first | omega | (simp; done) | (simp; omega)) _ | refine Below.alloc ?_ (by first | omega | (simp; done) | (simp; omega)) _) : Below w.heap.size w _).trans (hb6.mono (by first | omega | (simp; done) | (simp; omega))))
  have nz_6 : w.heap.size ≤ w6.heap.size := HB_6.out.size
  clear hb6 x0_5 x1_5 HB_5
  go_wp2_with fail
  refine (HC.out _).mono ?_
  rintro e w7 ⟨rfl, hb7⟩
  have x0_7 : w7.cell? ⟨w3.heap.size, 0, none⟩ = some (.int .i64 m) := carry hb7 (by go_simp)
  have x1_7 : w7.cell? ⟨w3.heap.size, 1, none⟩ = some (.int .i64 e) := carry hb7 (by go_simp)
  have xz_7 : w3.heap.size < w7.heap.size := by have := hb7.size; first | omega | (simp at this; omega)
  have y0_7 : w7.cell? ⟨w6.heap.size, 0, none⟩ = some (.int .i64 mm) := carry hb7 (by go_simp)
  have y1_7 : w7.cell? ⟨w6.heap.size, 1, none⟩ = some (.int .i64 e) := carry hb7 (by go_simp)
  have yz_7 : w6.heap.size < w7.heap.size := by have := hb7.size; first | omega | (simp at this; omega)
  have HB_7 := Lib.hid ((by repeat (first | exact HB_6.out | refine Below.drew ?_ | refine Below.setCell ?_ (by first | omega | (simp; done) | (simp; omega)) _ | refine Below.alloc ?_ (by first | omega | (simp; done) | (simp; omega)) _) : Below w.heap.size w _).trans (hb7.mono (by first | omega | (simp; done) | (simp; omega))))
  have nz_7 : w.heap.size ≤ w7.heap.size := HB_7.out.size
  clear hb7 x0_6 x1_6 HB_6
  go_wp2_with fail
  refine (HSan.out _ (by repeat (first | exact HB_7.out | refine Below.drew ?_ | refine Below.setCell ?_ (by first | omega | (simp; done) | (simp; omega)) _ | refine Below.alloc ?_ (by first | omega | (simp; done) | (simp; omega)) _))).mono ?_
  rintro e w8 ⟨rfl, hb8⟩
  have x0_8 : w8.cell? ⟨w3.heap.size, 0, none⟩ = some (.int .i64 m) := carry hb8 (by go_simp)
  have x1_8 : w8.cell? ⟨w3.heap.size, 1, none⟩ = some (.int .i64 e) := carry hb8 (by go_simp)
  have xz_8 : w3.heap.size < w8.heap.size := by have := hb8.size; first | omega | (simp at this; omega)
  have y0_8 : w8.cell? ⟨w6.heap.size, 0, none⟩ = some (.int .i64 mm) := carry hb8 (by go_simp)
  have y1_8 : w8.cell? ⟨w6.heap.size, 1, none⟩ = some (.int .i64 e) := carry hb8 (by go_simp)
  have yz_8 : w6.heap.size < w8.heap.size := by have := hb8.size; first | omega | (simp at this; omega)
  have HB_8 := Lib.hid ((by repeat (first | exact HB_7.out | refine Below.drew ?_ | refine Below.setCell ?_ (by first | omega | (simp; done) | (simp; omega)) _ | refine Below.alloc ?_ (by first | omega | (simp; done) | (simp; omega)) _) : Below w.heap.size w _).trans (hb8.mono (by first | omega | (simp; done) | (simp; omega))))
  have nz_8 : w.heap.size ≤ w8.heap.size := HB_8.out.size
  clear hb8 x0_7 x1_7 y0_7 y1_7 HB_7
  go_wp2_with fail
  go_ret
  exact ⟨rfl, by repeat (first | exact HB_8.out | refine Below.drew ?_ | refine Below.setCell ?_ (by first | omega | (simp; done) | (simp; omega)) _ | refine Below.alloc ?_ (by first | omega | (simp; done) | (simp; omega)) _)⟩

set_option maxRecDepth 100000 in
set_option maxHeartbeats 8000000 in
theorem eC (n0 i0 n k f m e mm p s u v : Int) (w : World) (hn : n0.tmod 16777217 = n) (HF1 : Hid (∀ W : World, Calls Tryz.prog 19 #[.int .i64 n] W fun r w' => r = .returned (realV k f) ∧ Below W.heap.size W w')) (HE1 : Hid (∀ W : World, Calls Tryz.prog 18 #[realV k f] W fun r w' => r = .returned (iE n 0) ∧ Below W.heap.size W w')) (HA : Hid (∀ W : World, Calls Tryz.prog 12 #[.int .i64 i0] W fun r w' => r = .returned (realV m e) ∧ Below W.heap.size W w')) (HE : Hid (∀ W : World, Calls Tryz.prog 18 #[realV m e] W fun r w' => r = .returned (iE p 3) ∧ Below W.heap.size W w')) (HR : Hid (∀ W : World, Calls Tryz.prog 20 #[realV m e] W fun r w' => r = .returned (iE s 3) ∧ Below W.heap.size W w')) (HN : Hid (∀ W : World, Calls Tryz.prog 21 #[realV m e] W fun r w' => r = .returned (rE mm e 0) ∧ Below W.heap.size W w')) (HC : Hid (∀ W : World, Calls Tryz.prog 20 #[realV mm e] W fun r w' => r = .returned (iE u v) ∧ Below W.heap.size W w')) (HSan : Hid (∀ W, Below w.heap.size w W → Calls Tryz.prog 17 #[] W fun r W' => r = .returned (.bool true) ∧ Below W.heap.size W W'))  :
    Calls Tryz.prog 4 #[.int .i64 i0, .int .i64 n0] w fun r w' => r = .returned (.bool true) ∧ Below w.heap.size w w' := by
  go_enter Tryz.func4, Tryz.ntmps4
  go_wp2_with fail
  clear hn
  refine (HF1.out _).mono ?_
  rintro e w1 ⟨rfl, hb1⟩
  have HB_1 := Lib.hid ((by repeat (first | exact Below.refl _ _ | refine Below.drew ?_ | refine Below.setCell ?_ (by first | omega | (simp; done) | (simp; omega)) _ | refine Below.alloc ?_ (by first | omega | (simp; done) | (simp; omega)) _) : Below w.heap.size w _).trans (hb1.mono (by first | omega | (simp; done) | (simp; omega))))
  have nz_1 : w.heap.size ≤ w1.heap.size := HB_1.out.size
  clear hb1
  go_wp2_with fail
  refine (HE1.out _).mono ?_
  rintro e w2 ⟨rfl, hb2⟩
  have HB_2 := Lib.hid ((by repeat (first | exact HB_1.out | refine Below.drew ?_ | refine Below.setCell ?_ (by first | omega | (simp; done) | (simp; omega)) _ | refine Below.alloc ?_ (by first | omega | (simp; done) | (simp; omega)) _) : Below w.heap.size w _).trans (hb2.mono (by first | omega | (simp; done) | (simp; omega))))
  have nz_2 : w.heap.size ≤ w2.heap.size := HB_2.out.size
  clear hb2 HB_1
  go_wp2_with fail
  refine (HA.out _).mono ?_
  rintro e w3 ⟨rfl, hb3⟩
  have HB_3 := Lib.hid ((by repeat (first | exact HB_2.out | refine Below.drew ?_ | refine Below.setCell ?_ (by first | omega | (simp; done) | (simp; omega)) _ | refine Below.alloc ?_ (by first | omega | (simp; done) | (simp; omega)) _) : Below w.heap.size w _).trans (hb3.mono (by first | omega | (simp; done) | (simp; omega))))
  have nz_3 : w.heap.size ≤ w3.heap.size := HB_3.out.size
  clear hb3 HB_2
  go_wp2_with fail
  refine (HE.out _).mono ?_
  rintro e w4 ⟨rfl, hb4⟩
  have x0_4 : w4.cell? ⟨w3.heap.size, 0, none⟩ = some (.int .i64 m) := carry hb4 (by go_simp)
  have x1_4 : w4.cell? ⟨w3.heap.size, 1, none⟩ = some (.int .i64 e) := carry hb4 (by go_simp)
  have xz_4 : w3.heap.size < w4.heap.size := by have := hb4.size; first | omega | (simp at this; omega)
  have HB_4 := Lib.hid ((by repeat (first | exact HB_3.out | refine Below.drew ?_ | refine Below.setCell ?_ (by first | omega | (simp; done) | (simp; omega)) _ | refine Below.alloc ?_ (by first | omega | (simp; done) | (simp; omega)) _) : Below w.heap.size w _).trans (hb4.mono (by first | omega | (simp; done) | (simp; omega))))
  have nz_4 : w.heap.size ≤ w4.heap.size := HB_4.out.size
  clear hb4 HB_3
  go_wp2_with fail
  refine (HR.out _).mono ?_
  rintro e w5 ⟨rfl, hb5⟩
  have x0_5 : w5.cell? ⟨w3.heap.size, 0, none⟩ = some (.int .i64 m) := carry hb5 (by go_simp)
  have x1_5 : w5.cell? ⟨w3.heap.size, 1, none⟩ = some (.int .i64 e) := carry hb5 (by go_simp)
  have xz_5 : w3.heap.size < w5.heap.size := by have := hb5.size; first | omega | (simp at this; omega)
  have HB_5 := Lib.hid ((by repeat (first | exact HB_4.out | refine Below.drew ?_ | refine Below.setCell ?_ (by first | omega | (simp; done) | (simp; omega)) _ | refine Below.alloc ?_ (by first | omega | (simp; done) | (simp; omega)) _) : Below w.heap.size w _).trans (hb5.mono (by first | omega | (simp; done) | (simp; omega))))
  have nz_5 : w.heap.size ≤ w5.heap.size := HB_5.out.size
  clear hb5 x0_4 x1_4 HB_4
  go_wp2_with fail
  refine (HN.out _).mono ?_
  rintro e w6 ⟨rfl, hb6⟩
  have x0_6 : w6.cell? ⟨w3.heap.size, 0, none⟩ = some (.int .i64 m) := carry hb6 (by go_simp)
  have x1_6 : w6.cell? ⟨w3.heap.size, 1, none⟩ = some (.int .i64 e) := carry hb6 (by go_simp)
  have xz_6 : w3.heap.size < w6.heap.size := by have := hb6.size; first | omega | (simp at this; omega)
  have HB_6 := Lib.hid ((by repeat (first | exact HB_5.out | refine Below.drew ?_ | refine Below.setCell ?_ (by first | omega | (simp; done) | (simp; omega)) _ | refine Below.alloc ?_ (by first | omega | (simp; done) | (simp; omega)) _) : Below w.heap.size w _).trans (hb6.mono (by first | omega | (simp; done) | (simp; omega))))
  have nz_6 : w.heap.size ≤ w6.heap.size := HB_6.out.size
  clear hb6 x0_5 x1_5 HB_5
  go_wp2_with fail
  refine (HC.out _).mono ?_
  rintro e w7 ⟨rfl, hb7⟩
  have x0_7 : w7.cell? ⟨w3.heap.size, 0, none⟩ = some (.int .i64 m) := carry hb7 (by go_simp)
  have x1_7 : w7.cell? ⟨w3.heap.size, 1, none⟩ = some (.int .i64 e) := carry hb7 (by go_simp)
  have xz_7 : w3.heap.size < w7.heap.size := by have := hb7.size; first | omega | (simp at this; omega)
  have y0_7 : w7.cell? ⟨w6.heap.size, 0, none⟩ = some (.int .i64 mm) := carry hb7 (by go_simp)
  have y1_7 : w7.cell? ⟨w6.heap.size, 1, none⟩ = some (.int .i64 e) := carry hb7 (by go_simp)
  have yz_7 : w6.heap.size < w7.heap.size := by have := hb7.size; first | omega | (simp at this; omega)
  have HB_7 := Lib.hid ((by repeat (first | exact HB_6.out | refine Below.drew ?_ | refine Below.setCell ?_ (by first | omega | (simp; done) | (simp; omega)) _ | refine Below.alloc ?_ (by first | omega | (simp; done) | (simp; omega)) _) : Below w.heap.size w _).trans (hb7.mono (by first | omega | (simp; done) | (simp; omega))))
  have nz_7 : w.heap.size ≤ w7.heap.size := HB_7.out.size
  clear hb7 x0_6 x1_6 HB_6
  go_wp2_with fail
  refine (HSan.out _ (by repeat (first | exact HB_7.out | refine Below.drew ?_ | refine Below.setCell ?_ (by first | omega | (simp; done) | (simp; omega)) _ | refine Below.alloc ?_ (by first | omega | (simp; done) | (simp; omega)) _))).mono ?_
  rintro e w8 ⟨rfl, hb8⟩
  have x0_8 : w8.cell? ⟨w3.heap.size, 0, none⟩ = some (.int .i64 m) := carry hb8 (by go_simp)
  have x1_8 : w8.cell? ⟨w3.heap.size, 1, none⟩ = some (.int .i64 e) := carry hb8 (by go_simp)
  have xz_8 : w3.heap.size < w8.heap.size := by have := hb8.size; first | omega | (simp at this; omega)
  have y0_8 : w8.cell? ⟨w6.heap.size, 0, none⟩ = some (.int .i64 mm) := carry hb8 (by go_simp)
  have y1_8 : w8.cell? ⟨w6.heap.size, 1, none⟩ = some (.int .i64 e) := carry hb8 (by go_simp)
  have yz_8 : w6.heap.size < w8.heap.size := by have := hb8.size; first | omega | (simp at this; omega)
  have HB_8 := Lib.hid ((by repeat (first | exact HB_7.out | refine Below.drew ?_ | refine Below.setCell ?_ (by first | omega | (simp; done) | (simp; omega)) _ | refine Below.alloc ?_ (by first | omega | (simp; done) | (simp; omega)) _) : Below w.heap.size w _).trans (hb8.mono (by first | omega | (simp; done) | (simp; omega))))
  have nz_8 : w.heap.size ≤ w8.heap.size := HB_8.out.size
  clear hb8 x0_7 x1_7 y0_7 y1_7 HB_7
  go_wp2_with fail
  go_ret
  exact ⟨rfl, by repeat (first | exact HB_8.out | refine Below.drew ?_ | refine Below.setCell ?_ (by first | omega | (simp; done) | (simp; omega)) _ | refine Below.alloc ?_ (by first | omega | (simp; done) | (simp; omega)) _)⟩

set_option maxRecDepth 100000 in
set_option maxHeartbeats 8000000 in
theorem o_al0 (n0 i0 n k f m e mm p s u : Int) (w : World) (hn : n0.tmod 16777217 = n) (HF1 : Hid (∀ W : World, Calls Tryz.prog 19 #[.int .i64 n] W fun r w' => r = .returned (realV k f) ∧ Below W.heap.size W w')) (HE1 : Hid (∀ W : World, Calls Tryz.prog 18 #[realV k f] W fun r w' => r = .returned (iE n 0) ∧ Below W.heap.size W w')) (HA : Hid (∀ W : World, Calls Tryz.prog 12 #[.int .i64 i0] W fun r w' => r = .returned (realV m e) ∧ Below W.heap.size W w')) (HE : Hid (∀ W : World, Calls Tryz.prog 18 #[realV m e] W fun r w' => r = .returned (iE p 0) ∧ Below W.heap.size W w')) (HR : Hid (∀ W : World, Calls Tryz.prog 20 #[realV m e] W fun r w' => r = .returned (iE p 0) ∧ Below W.heap.size W w')) (HN : Hid (∀ W : World, Calls Tryz.prog 21 #[realV m e] W fun r w' => r = .returned (rE mm e 0) ∧ Below W.heap.size W w')) (HC : Hid (∀ W : World, Calls Tryz.prog 20 #[realV mm e] W fun r w' => r = .returned (iE u 0) ∧ Below W.heap.size W w')) (HSan : Hid (∀ W, Below w.heap.size w W → Calls Tryz.prog 17 #[] W fun r W' => r = .returned (.bool true) ∧ Below W.heap.size W W'))  (r1 : p < -8388608) :
    Calls Tryz.prog 4 #[.int .i64 i0, .int .i64 n0] w fun r w' => r = .returned (.bool true) ∧ Below w.heap.size w w' := by
  go_enter Tryz.func4, Tryz.ntmps4
  go_wp2_with fail
  clear hn
  refine (HF1.out _).mono ?_
  rintro e w1 ⟨rfl, hb1⟩
  have HB_1 := Lib.hid ((by repeat (first | exact Below.refl _ _ | refine Below.drew ?_ | refine Below.setCell ?_ (by first | omega | (simp; done) | (simp; omega)) _ | refine Below.alloc ?_ (by first | omega | (simp; done) | (simp; omega)) _) : Below w.heap.size w _).trans (hb1.mono (by first | omega | (simp; done) | (simp; omega))))
  have nz_1 : w.heap.size ≤ w1.heap.size := HB_1.out.size
  clear hb1
  go_wp2_with fail
  refine (HE1.out _).mono ?_
  rintro e w2 ⟨rfl, hb2⟩
  have HB_2 := Lib.hid ((by repeat (first | exact HB_1.out | refine Below.drew ?_ | refine Below.setCell ?_ (by first | omega | (simp; done) | (simp; omega)) _ | refine Below.alloc ?_ (by first | omega | (simp; done) | (simp; omega)) _) : Below w.heap.size w _).trans (hb2.mono (by first | omega | (simp; done) | (simp; omega))))
  have nz_2 : w.heap.size ≤ w2.heap.size := HB_2.out.size
  clear hb2 HB_1
  go_wp2_with fail
  refine (HA.out _).mono ?_
  rintro e w3 ⟨rfl, hb3⟩
  have HB_3 := Lib.hid ((by repeat (first | exact HB_2.out | refine Below.drew ?_ | refine Below.setCell ?_ (by first | omega | (simp; done) | (simp; omega)) _ | refine Below.alloc ?_ (by first | omega | (simp; done) | (simp; omega)) _) : Below w.heap.size w _).trans (hb3.mono (by first | omega | (simp; done) | (simp; omega))))
  have nz_3 : w.heap.size ≤ w3.heap.size := HB_3.out.size
  clear hb3 HB_2
  go_wp2_with fail
  refine (HE.out _).mono ?_
  rintro e w4 ⟨rfl, hb4⟩
  have x0_4 : w4.cell? ⟨w3.heap.size, 0, none⟩ = some (.int .i64 m) := carry hb4 (by go_simp)
  have x1_4 : w4.cell? ⟨w3.heap.size, 1, none⟩ = some (.int .i64 e) := carry hb4 (by go_simp)
  have xz_4 : w3.heap.size < w4.heap.size := by have := hb4.size; first | omega | (simp at this; omega)
  have HB_4 := Lib.hid ((by repeat (first | exact HB_3.out | refine Below.drew ?_ | refine Below.setCell ?_ (by first | omega | (simp; done) | (simp; omega)) _ | refine Below.alloc ?_ (by first | omega | (simp; done) | (simp; omega)) _) : Below w.heap.size w _).trans (hb4.mono (by first | omega | (simp; done) | (simp; omega))))
  have nz_4 : w.heap.size ≤ w4.heap.size := HB_4.out.size
  clear hb4 HB_3
  go_wp2_with fail
  refine (HR.out _).mono ?_
  rintro e w5 ⟨rfl, hb5⟩
  have x0_5 : w5.cell? ⟨w3.heap.size, 0, none⟩ = some (.int .i64 m) := carry hb5 (by go_simp)
  have x1_5 : w5.cell? ⟨w3.heap.size, 1, none⟩ = some (.int .i64 e) := carry hb5 (by go_simp)
  have xz_5 : w3.heap.size < w5.heap.size := by have := hb5.size; first | omega | (simp at this; omega)
  have HB_5 := Lib.hid ((by repeat (first | exact HB_4.out | refine Below.drew ?_ | refine Below.setCell ?_ (by first | omega | (simp; done) | (simp; omega)) _ | refine Below.alloc ?_ (by first | omega | (simp; done) | (simp; omega)) _) : Below w.heap.size w _).trans (hb5.mono (by first | omega | (simp; done) | (simp; omega))))
  have nz_5 : w.heap.size ≤ w5.heap.size := HB_5.out.size
  clear hb5 x0_4 x1_4 HB_4
  go_wp2_with fail
  refine (HN.out _).mono ?_
  rintro e w6 ⟨rfl, hb6⟩
  have x0_6 : w6.cell? ⟨w3.heap.size, 0, none⟩ = some (.int .i64 m) := carry hb6 (by go_simp)
  have x1_6 : w6.cell? ⟨w3.heap.size, 1, none⟩ = some (.int .i64 e) := carry hb6 (by go_simp)
  have xz_6 : w3.heap.size < w6.heap.size := by have := hb6.size; first | omega | (simp at this; omega)
  have HB_6 := Lib.hid ((by repeat (first | exact HB_5.out | refine Below.drew ?_ | refine Below.setCell ?_ (by first | omega | (simp; done) | (simp; omega)) _ | refine Below.alloc ?_ (by first | omega | (simp; done) | (simp; omega)) _) : Below w.heap.size w _).trans (hb6.mono (by first | omega | (simp; done) | (simp; omega))))
  have nz_6 : w.heap.size ≤ w6.heap.size := HB_6.out.size
  clear hb6 x0_5 x1_5 HB_5
  go_wp2_with fail
  refine (HC.out _).mono ?_
  rintro e w7 ⟨rfl, hb7⟩
  have x0_7 : w7.cell? ⟨w3.heap.size, 0, none⟩ = some (.int .i64 m) := carry hb7 (by go_simp)
  have x1_7 : w7.cell? ⟨w3.heap.size, 1, none⟩ = some (.int .i64 e) := carry hb7 (by go_simp)
  have xz_7 : w3.heap.size < w7.heap.size := by have := hb7.size; first | omega | (simp at this; omega)
  have y0_7 : w7.cell? ⟨w6.heap.size, 0, none⟩ = some (.int .i64 mm) := carry hb7 (by go_simp)
  have y1_7 : w7.cell? ⟨w6.heap.size, 1, none⟩ = some (.int .i64 e) := carry hb7 (by go_simp)
  have yz_7 : w6.heap.size < w7.heap.size := by have := hb7.size; first | omega | (simp at this; omega)
  have HB_7 := Lib.hid ((by repeat (first | exact HB_6.out | refine Below.drew ?_ | refine Below.setCell ?_ (by first | omega | (simp; done) | (simp; omega)) _ | refine Below.alloc ?_ (by first | omega | (simp; done) | (simp; omega)) _) : Below w.heap.size w _).trans (hb7.mono (by first | omega | (simp; done) | (simp; omega))))
  have nz_7 : w.heap.size ≤ w7.heap.size := HB_7.out.size
  clear hb7 x0_6 x1_6 HB_6
  go_wp2_with fail
  refine (HSan.out _ (by repeat (first | exact HB_7.out | refine Below.drew ?_ | refine Below.setCell ?_ (by first | omega | (simp; done) | (simp; omega)) _ | refine Below.alloc ?_ (by first | omega | (simp; done) | (simp; omega)) _))).mono ?_
  rintro e w8 ⟨rfl, hb8⟩
  have x0_8 : w8.cell? ⟨w3.heap.size, 0, none⟩ = some (.int .i64 m) := carry hb8 (by go_simp)
  have x1_8 : w8.cell? ⟨w3.heap.size, 1, none⟩ = some (.int .i64 e) := carry hb8 (by go_simp)
  have xz_8 : w3.heap.size < w8.heap.size := by have := hb8.size; first | omega | (simp at this; omega)
  have y0_8 : w8.cell? ⟨w6.heap.size, 0, none⟩ = some (.int .i64 mm) := carry hb8 (by go_simp)
  have y1_8 : w8.cell? ⟨w6.heap.size, 1, none⟩ = some (.int .i64 e) := carry hb8 (by go_simp)
  have yz_8 : w6.heap.size < w8.heap.size := by have := hb8.size; first | omega | (simp at this; omega)
  have HB_8 := Lib.hid ((by repeat (first | exact HB_7.out | refine Below.drew ?_ | refine Below.setCell ?_ (by first | omega | (simp; done) | (simp; omega)) _ | refine Below.alloc ?_ (by first | omega | (simp; done) | (simp; omega)) _) : Below w.heap.size w _).trans (hb8.mono (by first | omega | (simp; done) | (simp; omega))))
  have nz_8 : w.heap.size ≤ w8.heap.size := HB_8.out.size
  clear hb8 x0_7 x1_7 y0_7 y1_7 HB_7
  go_wp2_with fail
  go_ret
  exact ⟨rfl, by repeat (first | exact HB_8.out | refine Below.drew ?_ | refine Below.setCell ?_ (by first | omega | (simp; done) | (simp; omega)) _ | refine Below.alloc ?_ (by first | omega | (simp; done) | (simp; omega)) _)⟩

set_option maxRecDepth 100000 in
set_option maxHeartbeats 8000000 in
theorem o_al3 (n0 i0 n k f m e mm p s u : Int) (w : World) (hn : n0.tmod 16777217 = n) (HF1 : Hid (∀ W : World, Calls Tryz.prog 19 #[.int .i64 n] W fun r w' => r = .returned (realV k f) ∧ Below W.heap.size W w')) (HE1 : Hid (∀ W : World, Calls Tryz.prog 18 #[realV k f] W fun r w' => r = .returned (iE n 0) ∧ Below W.heap.size W w')) (HA : Hid (∀ W : World, Calls Tryz.prog 12 #[.int .i64 i0] W fun r w' => r = .returned (realV m e) ∧ Below W.heap.size W w')) (HE : Hid (∀ W : World, Calls Tryz.prog 18 #[realV m e] W fun r w' => r = .returned (iE p 0) ∧ Below W.heap.size W w')) (HR : Hid (∀ W : World, Calls Tryz.prog 20 #[realV m e] W fun r w' => r = .returned (iE p 0) ∧ Below W.heap.size W w')) (HN : Hid (∀ W : World, Calls Tryz.prog 21 #[realV m e] W fun r w' => r = .returned (rE mm e 0) ∧ Below W.heap.size W w')) (HC : Hid (∀ W : World, Calls Tryz.prog 20 #[realV mm e] W fun r w' => r = .returned (iE u 3) ∧ Below W.heap.size W w')) (HSan : Hid (∀ W, Below w.heap.size w W → Calls Tryz.prog 17 #[] W fun r W' => r = .returned (.bool true) ∧ Below W.heap.size W W'))  (r1 : p < -8388608) :
    Calls Tryz.prog 4 #[.int .i64 i0, .int .i64 n0] w fun r w' => r = .returned (.bool true) ∧ Below w.heap.size w w' := by
  go_enter Tryz.func4, Tryz.ntmps4
  go_wp2_with fail
  clear hn
  refine (HF1.out _).mono ?_
  rintro e w1 ⟨rfl, hb1⟩
  have HB_1 := Lib.hid ((by repeat (first | exact Below.refl _ _ | refine Below.drew ?_ | refine Below.setCell ?_ (by first | omega | (simp; done) | (simp; omega)) _ | refine Below.alloc ?_ (by first | omega | (simp; done) | (simp; omega)) _) : Below w.heap.size w _).trans (hb1.mono (by first | omega | (simp; done) | (simp; omega))))
  have nz_1 : w.heap.size ≤ w1.heap.size := HB_1.out.size
  clear hb1
  go_wp2_with fail
  refine (HE1.out _).mono ?_
  rintro e w2 ⟨rfl, hb2⟩
  have HB_2 := Lib.hid ((by repeat (first | exact HB_1.out | refine Below.drew ?_ | refine Below.setCell ?_ (by first | omega | (simp; done) | (simp; omega)) _ | refine Below.alloc ?_ (by first | omega | (simp; done) | (simp; omega)) _) : Below w.heap.size w _).trans (hb2.mono (by first | omega | (simp; done) | (simp; omega))))
  have nz_2 : w.heap.size ≤ w2.heap.size := HB_2.out.size
  clear hb2 HB_1
  go_wp2_with fail
  refine (HA.out _).mono ?_
  rintro e w3 ⟨rfl, hb3⟩
  have HB_3 := Lib.hid ((by repeat (first | exact HB_2.out | refine Below.drew ?_ | refine Below.setCell ?_ (by first | omega | (simp; done) | (simp; omega)) _ | refine Below.alloc ?_ (by first | omega | (simp; done) | (simp; omega)) _) : Below w.heap.size w _).trans (hb3.mono (by first | omega | (simp; done) | (simp; omega))))
  have nz_3 : w.heap.size ≤ w3.heap.size := HB_3.out.size
  clear hb3 HB_2
  go_wp2_with fail
  refine (HE.out _).mono ?_
  rintro e w4 ⟨rfl, hb4⟩
  have x0_4 : w4.cell? ⟨w3.heap.size, 0, none⟩ = some (.int .i64 m) := carry hb4 (by go_simp)
  have x1_4 : w4.cell? ⟨w3.heap.size, 1, none⟩ = some (.int .i64 e) := carry hb4 (by go_simp)
  have xz_4 : w3.heap.size < w4.heap.size := by have := hb4.size; first | omega | (simp at this; omega)
  have HB_4 := Lib.hid ((by repeat (first | exact HB_3.out | refine Below.drew ?_ | refine Below.setCell ?_ (by first | omega | (simp; done) | (simp; omega)) _ | refine Below.alloc ?_ (by first | omega | (simp; done) | (simp; omega)) _) : Below w.heap.size w _).trans (hb4.mono (by first | omega | (simp; done) | (simp; omega))))
  have nz_4 : w.heap.size ≤ w4.heap.size := HB_4.out.size
  clear hb4 HB_3
  go_wp2_with fail
  refine (HR.out _).mono ?_
  rintro e w5 ⟨rfl, hb5⟩
  have x0_5 : w5.cell? ⟨w3.heap.size, 0, none⟩ = some (.int .i64 m) := carry hb5 (by go_simp)
  have x1_5 : w5.cell? ⟨w3.heap.size, 1, none⟩ = some (.int .i64 e) := carry hb5 (by go_simp)
  have xz_5 : w3.heap.size < w5.heap.size := by have := hb5.size; first | omega | (simp at this; omega)
  have HB_5 := Lib.hid ((by repeat (first | exact HB_4.out | refine Below.drew ?_ | refine Below.setCell ?_ (by first | omega | (simp; done) | (simp; omega)) _ | refine Below.alloc ?_ (by first | omega | (simp; done) | (simp; omega)) _) : Below w.heap.size w _).trans (hb5.mono (by first | omega | (simp; done) | (simp; omega))))
  have nz_5 : w.heap.size ≤ w5.heap.size := HB_5.out.size
  clear hb5 x0_4 x1_4 HB_4
  go_wp2_with fail
  refine (HN.out _).mono ?_
  rintro e w6 ⟨rfl, hb6⟩
  have x0_6 : w6.cell? ⟨w3.heap.size, 0, none⟩ = some (.int .i64 m) := carry hb6 (by go_simp)
  have x1_6 : w6.cell? ⟨w3.heap.size, 1, none⟩ = some (.int .i64 e) := carry hb6 (by go_simp)
  have xz_6 : w3.heap.size < w6.heap.size := by have := hb6.size; first | omega | (simp at this; omega)
  have HB_6 := Lib.hid ((by repeat (first | exact HB_5.out | refine Below.drew ?_ | refine Below.setCell ?_ (by first | omega | (simp; done) | (simp; omega)) _ | refine Below.alloc ?_ (by first | omega | (simp; done) | (simp; omega)) _) : Below w.heap.size w _).trans (hb6.mono (by first | omega | (simp; done) | (simp; omega))))
  have nz_6 : w.heap.size ≤ w6.heap.size := HB_6.out.size
  clear hb6 x0_5 x1_5 HB_5
  go_wp2_with fail
  refine (HC.out _).mono ?_
  rintro e w7 ⟨rfl, hb7⟩
  have x0_7 : w7.cell? ⟨w3.heap.size, 0, none⟩ = some (.int .i64 m) := carry hb7 (by go_simp)
  have x1_7 : w7.cell? ⟨w3.heap.size, 1, none⟩ = some (.int .i64 e) := carry hb7 (by go_simp)
  have xz_7 : w3.heap.size < w7.heap.size := by have := hb7.size; first | omega | (simp at this; omega)
  have y0_7 : w7.cell? ⟨w6.heap.size, 0, none⟩ = some (.int .i64 mm) := carry hb7 (by go_simp)
  have y1_7 : w7.cell? ⟨w6.heap.size, 1, none⟩ = some (.int .i64 e) := carry hb7 (by go_simp)
  have yz_7 : w6.heap.size < w7.heap.size := by have := hb7.size; first | omega | (simp at this; omega)
  have HB_7 := Lib.hid ((by repeat (first | exact HB_6.out | refine Below.drew ?_ | refine Below.setCell ?_ (by first | omega | (simp; done) | (simp; omega)) _ | refine Below.alloc ?_ (by first | omega | (simp; done) | (simp; omega)) _) : Below w.heap.size w _).trans (hb7.mono (by first | omega | (simp; done) | (simp; omega))))
  have nz_7 : w.heap.size ≤ w7.heap.size := HB_7.out.size
  clear hb7 x0_6 x1_6 HB_6
  go_wp2_with fail
  refine (HSan.out _ (by repeat (first | exact HB_7.out | refine Below.drew ?_ | refine Below.setCell ?_ (by first | omega | (simp; done) | (simp; omega)) _ | refine Below.alloc ?_ (by first | omega | (simp; done) | (simp; omega)) _))).mono ?_
  rintro e w8 ⟨rfl, hb8⟩
  have x0_8 : w8.cell? ⟨w3.heap.size, 0, none⟩ = some (.int .i64 m) := carry hb8 (by go_simp)
  have x1_8 : w8.cell? ⟨w3.heap.size, 1, none⟩ = some (.int .i64 e) := carry hb8 (by go_simp)
  have xz_8 : w3.heap.size < w8.heap.size := by have := hb8.size; first | omega | (simp at this; omega)
  have y0_8 : w8.cell? ⟨w6.heap.size, 0, none⟩ = some (.int .i64 mm) := carry hb8 (by go_simp)
  have y1_8 : w8.cell? ⟨w6.heap.size, 1, none⟩ = some (.int .i64 e) := carry hb8 (by go_simp)
  have yz_8 : w6.heap.size < w8.heap.size := by have := hb8.size; first | omega | (simp at this; omega)
  have HB_8 := Lib.hid ((by repeat (first | exact HB_7.out | refine Below.drew ?_ | refine Below.setCell ?_ (by first | omega | (simp; done) | (simp; omega)) _ | refine Below.alloc ?_ (by first | omega | (simp; done) | (simp; omega)) _) : Below w.heap.size w _).trans (hb8.mono (by first | omega | (simp; done) | (simp; omega))))
  have nz_8 : w.heap.size ≤ w8.heap.size := HB_8.out.size
  clear hb8 x0_7 x1_7 y0_7 y1_7 HB_7
  go_wp2_with fail
  go_ret
  exact ⟨rfl, by repeat (first | exact HB_8.out | refine Below.drew ?_ | refine Below.setCell ?_ (by first | omega | (simp; done) | (simp; omega)) _ | refine Below.alloc ?_ (by first | omega | (simp; done) | (simp; omega)) _)⟩

set_option maxRecDepth 100000 in
set_option maxHeartbeats 8000000 in
theorem o_ah0 (n0 i0 n k f m e mm p s u : Int) (w : World) (hn : n0.tmod 16777217 = n) (HF1 : Hid (∀ W : World, Calls Tryz.prog 19 #[.int .i64 n] W fun r w' => r = .returned (realV k f) ∧ Below W.heap.size W w')) (HE1 : Hid (∀ W : World, Calls Tryz.prog 18 #[realV k f] W fun r w' => r = .returned (iE n 0) ∧ Below W.heap.size W w')) (HA : Hid (∀ W : World, Calls Tryz.prog 12 #[.int .i64 i0] W fun r w' => r = .returned (realV m e) ∧ Below W.heap.size W w')) (HE : Hid (∀ W : World, Calls Tryz.prog 18 #[realV m e] W fun r w' => r = .returned (iE p 0) ∧ Below W.heap.size W w')) (HR : Hid (∀ W : World, Calls Tryz.prog 20 #[realV m e] W fun r w' => r = .returned (iE p 0) ∧ Below W.heap.size W w')) (HN : Hid (∀ W : World, Calls Tryz.prog 21 #[realV m e] W fun r w' => r = .returned (rE mm e 0) ∧ Below W.heap.size W w')) (HC : Hid (∀ W : World, Calls Tryz.prog 20 #[realV mm e] W fun r w' => r = .returned (iE u 0) ∧ Below W.heap.size W w')) (HSan : Hid (∀ W, Below w.heap.size w W → Calls Tryz.prog 17 #[] W fun r W' => r = .returned (.bool true) ∧ Below W.heap.size W W'))  (r1 : decide (p < -8388608) = false) (r2 : 8388608 ≤ p) :
    Calls Tryz.prog 4 #[.int .i64 i0, .int .i64 n0] w fun r w' => r = .returned (.bool true) ∧ Below w.heap.size w w' := by
  go_enter Tryz.func4, Tryz.ntmps4
  go_wp2_with fail
  clear hn
  refine (HF1.out _).mono ?_
  rintro e w1 ⟨rfl, hb1⟩
  have HB_1 := Lib.hid ((by repeat (first | exact Below.refl _ _ | refine Below.drew ?_ | refine Below.setCell ?_ (by first | omega | (simp; done) | (simp; omega)) _ | refine Below.alloc ?_ (by first | omega | (simp; done) | (simp; omega)) _) : Below w.heap.size w _).trans (hb1.mono (by first | omega | (simp; done) | (simp; omega))))
  have nz_1 : w.heap.size ≤ w1.heap.size := HB_1.out.size
  clear hb1
  go_wp2_with fail
  refine (HE1.out _).mono ?_
  rintro e w2 ⟨rfl, hb2⟩
  have HB_2 := Lib.hid ((by repeat (first | exact HB_1.out | refine Below.drew ?_ | refine Below.setCell ?_ (by first | omega | (simp; done) | (simp; omega)) _ | refine Below.alloc ?_ (by first | omega | (simp; done) | (simp; omega)) _) : Below w.heap.size w _).trans (hb2.mono (by first | omega | (simp; done) | (simp; omega))))
  have nz_2 : w.heap.size ≤ w2.heap.size := HB_2.out.size
  clear hb2 HB_1
  go_wp2_with fail
  refine (HA.out _).mono ?_
  rintro e w3 ⟨rfl, hb3⟩
  have HB_3 := Lib.hid ((by repeat (first | exact HB_2.out | refine Below.drew ?_ | refine Below.setCell ?_ (by first | omega | (simp; done) | (simp; omega)) _ | refine Below.alloc ?_ (by first | omega | (simp; done) | (simp; omega)) _) : Below w.heap.size w _).trans (hb3.mono (by first | omega | (simp; done) | (simp; omega))))
  have nz_3 : w.heap.size ≤ w3.heap.size := HB_3.out.size
  clear hb3 HB_2
  go_wp2_with fail
  refine (HE.out _).mono ?_
  rintro e w4 ⟨rfl, hb4⟩
  have x0_4 : w4.cell? ⟨w3.heap.size, 0, none⟩ = some (.int .i64 m) := carry hb4 (by go_simp)
  have x1_4 : w4.cell? ⟨w3.heap.size, 1, none⟩ = some (.int .i64 e) := carry hb4 (by go_simp)
  have xz_4 : w3.heap.size < w4.heap.size := by have := hb4.size; first | omega | (simp at this; omega)
  have HB_4 := Lib.hid ((by repeat (first | exact HB_3.out | refine Below.drew ?_ | refine Below.setCell ?_ (by first | omega | (simp; done) | (simp; omega)) _ | refine Below.alloc ?_ (by first | omega | (simp; done) | (simp; omega)) _) : Below w.heap.size w _).trans (hb4.mono (by first | omega | (simp; done) | (simp; omega))))
  have nz_4 : w.heap.size ≤ w4.heap.size := HB_4.out.size
  clear hb4 HB_3
  go_wp2_with fail
  refine (HR.out _).mono ?_
  rintro e w5 ⟨rfl, hb5⟩
  have x0_5 : w5.cell? ⟨w3.heap.size, 0, none⟩ = some (.int .i64 m) := carry hb5 (by go_simp)
  have x1_5 : w5.cell? ⟨w3.heap.size, 1, none⟩ = some (.int .i64 e) := carry hb5 (by go_simp)
  have xz_5 : w3.heap.size < w5.heap.size := by have := hb5.size; first | omega | (simp at this; omega)
  have HB_5 := Lib.hid ((by repeat (first | exact HB_4.out | refine Below.drew ?_ | refine Below.setCell ?_ (by first | omega | (simp; done) | (simp; omega)) _ | refine Below.alloc ?_ (by first | omega | (simp; done) | (simp; omega)) _) : Below w.heap.size w _).trans (hb5.mono (by first | omega | (simp; done) | (simp; omega))))
  have nz_5 : w.heap.size ≤ w5.heap.size := HB_5.out.size
  clear hb5 x0_4 x1_4 HB_4
  go_wp2_with fail
  refine (HN.out _).mono ?_
  rintro e w6 ⟨rfl, hb6⟩
  have x0_6 : w6.cell? ⟨w3.heap.size, 0, none⟩ = some (.int .i64 m) := carry hb6 (by go_simp)
  have x1_6 : w6.cell? ⟨w3.heap.size, 1, none⟩ = some (.int .i64 e) := carry hb6 (by go_simp)
  have xz_6 : w3.heap.size < w6.heap.size := by have := hb6.size; first | omega | (simp at this; omega)
  have HB_6 := Lib.hid ((by repeat (first | exact HB_5.out | refine Below.drew ?_ | refine Below.setCell ?_ (by first | omega | (simp; done) | (simp; omega)) _ | refine Below.alloc ?_ (by first | omega | (simp; done) | (simp; omega)) _) : Below w.heap.size w _).trans (hb6.mono (by first | omega | (simp; done) | (simp; omega))))
  have nz_6 : w.heap.size ≤ w6.heap.size := HB_6.out.size
  clear hb6 x0_5 x1_5 HB_5
  go_wp2_with fail
  refine (HC.out _).mono ?_
  rintro e w7 ⟨rfl, hb7⟩
  have x0_7 : w7.cell? ⟨w3.heap.size, 0, none⟩ = some (.int .i64 m) := carry hb7 (by go_simp)
  have x1_7 : w7.cell? ⟨w3.heap.size, 1, none⟩ = some (.int .i64 e) := carry hb7 (by go_simp)
  have xz_7 : w3.heap.size < w7.heap.size := by have := hb7.size; first | omega | (simp at this; omega)
  have y0_7 : w7.cell? ⟨w6.heap.size, 0, none⟩ = some (.int .i64 mm) := carry hb7 (by go_simp)
  have y1_7 : w7.cell? ⟨w6.heap.size, 1, none⟩ = some (.int .i64 e) := carry hb7 (by go_simp)
  have yz_7 : w6.heap.size < w7.heap.size := by have := hb7.size; first | omega | (simp at this; omega)
  have HB_7 := Lib.hid ((by repeat (first | exact HB_6.out | refine Below.drew ?_ | refine Below.setCell ?_ (by first | omega | (simp; done) | (simp; omega)) _ | refine Below.alloc ?_ (by first | omega | (simp; done) | (simp; omega)) _) : Below w.heap.size w _).trans (hb7.mono (by first | omega | (simp; done) | (simp; omega))))
  have nz_7 : w.heap.size ≤ w7.heap.size := HB_7.out.size
  clear hb7 x0_6 x1_6 HB_6
  go_wp2_with fail
  refine (HSan.out _ (by repeat (first | exact HB_7.out | refine Below.drew ?_ | refine Below.setCell ?_ (by first | omega | (simp; done) | (simp; omega)) _ | refine Below.alloc ?_ (by first | omega | (simp; done) | (simp; omega)) _))).mono ?_
  rintro e w8 ⟨rfl, hb8⟩
  have x0_8 : w8.cell? ⟨w3.heap.size, 0, none⟩ = some (.int .i64 m) := carry hb8 (by go_simp)
  have x1_8 : w8.cell? ⟨w3.heap.size, 1, none⟩ = some (.int .i64 e) := carry hb8 (by go_simp)
  have xz_8 : w3.heap.size < w8.heap.size := by have := hb8.size; first | omega | (simp at this; omega)
  have y0_8 : w8.cell? ⟨w6.heap.size, 0, none⟩ = some (.int .i64 mm) := carry hb8 (by go_simp)
  have y1_8 : w8.cell? ⟨w6.heap.size, 1, none⟩ = some (.int .i64 e) := carry hb8 (by go_simp)
  have yz_8 : w6.heap.size < w8.heap.size := by have := hb8.size; first | omega | (simp at this; omega)
  have HB_8 := Lib.hid ((by repeat (first | exact HB_7.out | refine Below.drew ?_ | refine Below.setCell ?_ (by first | omega | (simp; done) | (simp; omega)) _ | refine Below.alloc ?_ (by first | omega | (simp; done) | (simp; omega)) _) : Below w.heap.size w _).trans (hb8.mono (by first | omega | (simp; done) | (simp; omega))))
  have nz_8 : w.heap.size ≤ w8.heap.size := HB_8.out.size
  clear hb8 x0_7 x1_7 y0_7 y1_7 HB_7
  go_wp2_with fail
  go_ret
  exact ⟨rfl, by repeat (first | exact HB_8.out | refine Below.drew ?_ | refine Below.setCell ?_ (by first | omega | (simp; done) | (simp; omega)) _ | refine Below.alloc ?_ (by first | omega | (simp; done) | (simp; omega)) _)⟩

set_option maxRecDepth 100000 in
set_option maxHeartbeats 8000000 in
theorem o_ah3 (n0 i0 n k f m e mm p s u : Int) (w : World) (hn : n0.tmod 16777217 = n) (HF1 : Hid (∀ W : World, Calls Tryz.prog 19 #[.int .i64 n] W fun r w' => r = .returned (realV k f) ∧ Below W.heap.size W w')) (HE1 : Hid (∀ W : World, Calls Tryz.prog 18 #[realV k f] W fun r w' => r = .returned (iE n 0) ∧ Below W.heap.size W w')) (HA : Hid (∀ W : World, Calls Tryz.prog 12 #[.int .i64 i0] W fun r w' => r = .returned (realV m e) ∧ Below W.heap.size W w')) (HE : Hid (∀ W : World, Calls Tryz.prog 18 #[realV m e] W fun r w' => r = .returned (iE p 0) ∧ Below W.heap.size W w')) (HR : Hid (∀ W : World, Calls Tryz.prog 20 #[realV m e] W fun r w' => r = .returned (iE p 0) ∧ Below W.heap.size W w')) (HN : Hid (∀ W : World, Calls Tryz.prog 21 #[realV m e] W fun r w' => r = .returned (rE mm e 0) ∧ Below W.heap.size W w')) (HC : Hid (∀ W : World, Calls Tryz.prog 20 #[realV mm e] W fun r w' => r = .returned (iE u 3) ∧ Below W.heap.size W w')) (HSan : Hid (∀ W, Below w.heap.size w W → Calls Tryz.prog 17 #[] W fun r W' => r = .returned (.bool true) ∧ Below W.heap.size W W'))  (r1 : decide (p < -8388608) = false) (r2 : 8388608 ≤ p) :
    Calls Tryz.prog 4 #[.int .i64 i0, .int .i64 n0] w fun r w' => r = .returned (.bool true) ∧ Below w.heap.size w w' := by
  go_enter Tryz.func4, Tryz.ntmps4
  go_wp2_with fail
  clear hn
  refine (HF1.out _).mono ?_
  rintro e w1 ⟨rfl, hb1⟩
  have HB_1 := Lib.hid ((by repeat (first | exact Below.refl _ _ | refine Below.drew ?_ | refine Below.setCell ?_ (by first | omega | (simp; done) | (simp; omega)) _ | refine Below.alloc ?_ (by first | omega | (simp; done) | (simp; omega)) _) : Below w.heap.size w _).trans (hb1.mono (by first | omega | (simp; done) | (simp; omega))))
  have nz_1 : w.heap.size ≤ w1.heap.size := HB_1.out.size
  clear hb1
  go_wp2_with fail
  refine (HE1.out _).mono ?_
  rintro e w2 ⟨rfl, hb2⟩
  have HB_2 := Lib.hid ((by repeat (first | exact HB_1.out | refine Below.drew ?_ | refine Below.setCell ?_ (by first | omega | (simp; done) | (simp; omega)) _ | refine Below.alloc ?_ (by first | omega | (simp; done) | (simp; omega)) _) : Below w.heap.size w _).trans (hb2.mono (by first | omega | (simp; done) | (simp; omega))))
  have nz_2 : w.heap.size ≤ w2.heap.size := HB_2.out.size
  clear hb2 HB_1
  go_wp2_with fail
  refine (HA.out _).mono ?_
  rintro e w3 ⟨rfl, hb3⟩
  have HB_3 := Lib.hid ((by repeat (first | exact HB_2.out | refine Below.drew ?_ | refine Below.setCell ?_ (by first | omega | (simp; done) | (simp; omega)) _ | refine Below.alloc ?_ (by first | omega | (simp; done) | (simp; omega)) _) : Below w.heap.size w _).trans (hb3.mono (by first | omega | (simp; done) | (simp; omega))))
  have nz_3 : w.heap.size ≤ w3.heap.size := HB_3.out.size
  clear hb3 HB_2
  go_wp2_with fail
  refine (HE.out _).mono ?_
  rintro e w4 ⟨rfl, hb4⟩
  have x0_4 : w4.cell? ⟨w3.heap.size, 0, none⟩ = some (.int .i64 m) := carry hb4 (by go_simp)
  have x1_4 : w4.cell? ⟨w3.heap.size, 1, none⟩ = some (.int .i64 e) := carry hb4 (by go_simp)
  have xz_4 : w3.heap.size < w4.heap.size := by have := hb4.size; first | omega | (simp at this; omega)
  have HB_4 := Lib.hid ((by repeat (first | exact HB_3.out | refine Below.drew ?_ | refine Below.setCell ?_ (by first | omega | (simp; done) | (simp; omega)) _ | refine Below.alloc ?_ (by first | omega | (simp; done) | (simp; omega)) _) : Below w.heap.size w _).trans (hb4.mono (by first | omega | (simp; done) | (simp; omega))))
  have nz_4 : w.heap.size ≤ w4.heap.size := HB_4.out.size
  clear hb4 HB_3
  go_wp2_with fail
  refine (HR.out _).mono ?_
  rintro e w5 ⟨rfl, hb5⟩
  have x0_5 : w5.cell? ⟨w3.heap.size, 0, none⟩ = some (.int .i64 m) := carry hb5 (by go_simp)
  have x1_5 : w5.cell? ⟨w3.heap.size, 1, none⟩ = some (.int .i64 e) := carry hb5 (by go_simp)
  have xz_5 : w3.heap.size < w5.heap.size := by have := hb5.size; first | omega | (simp at this; omega)
  have HB_5 := Lib.hid ((by repeat (first | exact HB_4.out | refine Below.drew ?_ | refine Below.setCell ?_ (by first | omega | (simp; done) | (simp; omega)) _ | refine Below.alloc ?_ (by first | omega | (simp; done) | (simp; omega)) _) : Below w.heap.size w _).trans (hb5.mono (by first | omega | (simp; done) | (simp; omega))))
  have nz_5 : w.heap.size ≤ w5.heap.size := HB_5.out.size
  clear hb5 x0_4 x1_4 HB_4
  go_wp2_with fail
  refine (HN.out _).mono ?_
  rintro e w6 ⟨rfl, hb6⟩
  have x0_6 : w6.cell? ⟨w3.heap.size, 0, none⟩ = some (.int .i64 m) := carry hb6 (by go_simp)
  have x1_6 : w6.cell? ⟨w3.heap.size, 1, none⟩ = some (.int .i64 e) := carry hb6 (by go_simp)
  have xz_6 : w3.heap.size < w6.heap.size := by have := hb6.size; first | omega | (simp at this; omega)
  have HB_6 := Lib.hid ((by repeat (first | exact HB_5.out | refine Below.drew ?_ | refine Below.setCell ?_ (by first | omega | (simp; done) | (simp; omega)) _ | refine Below.alloc ?_ (by first | omega | (simp; done) | (simp; omega)) _) : Below w.heap.size w _).trans (hb6.mono (by first | omega | (simp; done) | (simp; omega))))
  have nz_6 : w.heap.size ≤ w6.heap.size := HB_6.out.size
  clear hb6 x0_5 x1_5 HB_5
  go_wp2_with fail
  refine (HC.out _).mono ?_
  rintro e w7 ⟨rfl, hb7⟩
  have x0_7 : w7.cell? ⟨w3.heap.size, 0, none⟩ = some (.int .i64 m) := carry hb7 (by go_simp)
  have x1_7 : w7.cell? ⟨w3.heap.size, 1, none⟩ = some (.int .i64 e) := carry hb7 (by go_simp)
  have xz_7 : w3.heap.size < w7.heap.size := by have := hb7.size; first | omega | (simp at this; omega)
  have y0_7 : w7.cell? ⟨w6.heap.size, 0, none⟩ = some (.int .i64 mm) := carry hb7 (by go_simp)
  have y1_7 : w7.cell? ⟨w6.heap.size, 1, none⟩ = some (.int .i64 e) := carry hb7 (by go_simp)
  have yz_7 : w6.heap.size < w7.heap.size := by have := hb7.size; first | omega | (simp at this; omega)
  have HB_7 := Lib.hid ((by repeat (first | exact HB_6.out | refine Below.drew ?_ | refine Below.setCell ?_ (by first | omega | (simp; done) | (simp; omega)) _ | refine Below.alloc ?_ (by first | omega | (simp; done) | (simp; omega)) _) : Below w.heap.size w _).trans (hb7.mono (by first | omega | (simp; done) | (simp; omega))))
  have nz_7 : w.heap.size ≤ w7.heap.size := HB_7.out.size
  clear hb7 x0_6 x1_6 HB_6
  go_wp2_with fail
  refine (HSan.out _ (by repeat (first | exact HB_7.out | refine Below.drew ?_ | refine Below.setCell ?_ (by first | omega | (simp; done) | (simp; omega)) _ | refine Below.alloc ?_ (by first | omega | (simp; done) | (simp; omega)) _))).mono ?_
  rintro e w8 ⟨rfl, hb8⟩
  have x0_8 : w8.cell? ⟨w3.heap.size, 0, none⟩ = some (.int .i64 m) := carry hb8 (by go_simp)
  have x1_8 : w8.cell? ⟨w3.heap.size, 1, none⟩ = some (.int .i64 e) := carry hb8 (by go_simp)
  have xz_8 : w3.heap.size < w8.heap.size := by have := hb8.size; first | omega | (simp at this; omega)
  have y0_8 : w8.cell? ⟨w6.heap.size, 0, none⟩ = some (.int .i64 mm) := carry hb8 (by go_simp)
  have y1_8 : w8.cell? ⟨w6.heap.size, 1, none⟩ = some (.int .i64 e) := carry hb8 (by go_simp)
  have yz_8 : w6.heap.size < w8.heap.size := by have := hb8.size; first | omega | (simp at this; omega)
  have HB_8 := Lib.hid ((by repeat (first | exact HB_7.out | refine Below.drew ?_ | refine Below.setCell ?_ (by first | omega | (simp; done) | (simp; omega)) _ | refine Below.alloc ?_ (by first | omega | (simp; done) | (simp; omega)) _) : Below w.heap.size w _).trans (hb8.mono (by first | omega | (simp; done) | (simp; omega))))
  have nz_8 : w.heap.size ≤ w8.heap.size := HB_8.out.size
  clear hb8 x0_7 x1_7 y0_7 y1_7 HB_7
  go_wp2_with fail
  go_ret
  exact ⟨rfl, by repeat (first | exact HB_8.out | refine Below.drew ?_ | refine Below.setCell ?_ (by first | omega | (simp; done) | (simp; omega)) _ | refine Below.alloc ?_ (by first | omega | (simp; done) | (simp; omega)) _)⟩

set_option maxRecDepth 100000 in
set_option maxHeartbeats 8000000 in
theorem o_bl0 (n0 i0 n k f m e mm p s u : Int) (w : World) (hn : n0.tmod 16777217 = n) (HF1 : Hid (∀ W : World, Calls Tryz.prog 19 #[.int .i64 n] W fun r w' => r = .returned (realV k f) ∧ Below W.heap.size W w')) (HE1 : Hid (∀ W : World, Calls Tryz.prog 18 #[realV k f] W fun r w' => r = .returned (iE n 0) ∧ Below W.heap.size W w')) (HA : Hid (∀ W : World, Calls Tryz.prog 12 #[.int .i64 i0] W fun r w' => r = .returned (realV m e) ∧ Below W.heap.size W w')) (HE : Hid (∀ W : World, Calls Tryz.prog 18 #[realV m e] W fun r w' => r = .returned (iE p 0) ∧ Below W.heap.size W w')) (HR : Hid (∀ W : World, Calls Tryz.prog 20 #[realV m e] W fun r w' => r = .returned (iE s 0) ∧ Below W.heap.size W w')) (HN : Hid (∀ W : World, Calls Tryz.prog 21 #[realV m e] W fun r w' => r = .returned (rE mm e 0) ∧ Below W.heap.size W w')) (HC : Hid (∀ W : World, Calls Tryz.prog 20 #[realV mm e] W fun r w' => r = .returned (iE u 0) ∧ Below W.heap.size W w')) (HSan : Hid (∀ W, Below w.heap.size w W → Calls Tryz.prog 17 #[] W fun r W' => r = .returned (.bool true) ∧ Below W.heap.size W W')) (s0 : ¬ s = p) (s1 : (s != p) = true) (s2 : (s != wrap64 (p + 1)) = false) (r1 : p < -8388608) :
    Calls Tryz.prog 4 #[.int .i64 i0, .int .i64 n0] w fun r w' => r = .returned (.bool true) ∧ Below w.heap.size w w' := by
  go_enter Tryz.func4, Tryz.ntmps4
  go_wp2_with fail
  clear hn
  refine (HF1.out _).mono ?_
  rintro e w1 ⟨rfl, hb1⟩
  have HB_1 := Lib.hid ((by repeat (first | exact Below.refl _ _ | refine Below.drew ?_ | refine Below.setCell ?_ (by first | omega | (simp; done) | (simp; omega)) _ | refine Below.alloc ?_ (by first | omega | (simp; done) | (simp; omega)) _) : Below w.heap.size w _).trans (hb1.mono (by first | omega | (simp; done) | (simp; omega))))
  have nz_1 : w.heap.size ≤ w1.heap.size := HB_1.out.size
  clear hb1
  go_wp2_with fail
  refine (HE1.out _).mono ?_
  rintro e w2 ⟨rfl, hb2⟩
  have HB_2 := Lib.hid ((by repeat (first | exact HB_1.out | refine Below.drew ?_ | refine Below.setCell ?_ (by first | omega | (simp; done) | (simp; omega)) _ | refine Below.alloc ?_ (by first | omega | (simp; done) | (simp; omega)) _) : Below w.heap.size w _).trans (hb2.mono (by first | omega | (simp; done) | (simp; omega))))
  have nz_2 : w.heap.size ≤ w2.heap.size := HB_2.out.size
  clear hb2 HB_1
  go_wp2_with fail
  refine (HA.out _).mono ?_
  rintro e w3 ⟨rfl, hb3⟩
  have HB_3 := Lib.hid ((by repeat (first | exact HB_2.out | refine Below.drew ?_ | refine Below.setCell ?_ (by first | omega | (simp; done) | (simp; omega)) _ | refine Below.alloc ?_ (by first | omega | (simp; done) | (simp; omega)) _) : Below w.heap.size w _).trans (hb3.mono (by first | omega | (simp; done) | (simp; omega))))
  have nz_3 : w.heap.size ≤ w3.heap.size := HB_3.out.size
  clear hb3 HB_2
  go_wp2_with fail
  refine (HE.out _).mono ?_
  rintro e w4 ⟨rfl, hb4⟩
  have x0_4 : w4.cell? ⟨w3.heap.size, 0, none⟩ = some (.int .i64 m) := carry hb4 (by go_simp)
  have x1_4 : w4.cell? ⟨w3.heap.size, 1, none⟩ = some (.int .i64 e) := carry hb4 (by go_simp)
  have xz_4 : w3.heap.size < w4.heap.size := by have := hb4.size; first | omega | (simp at this; omega)
  have HB_4 := Lib.hid ((by repeat (first | exact HB_3.out | refine Below.drew ?_ | refine Below.setCell ?_ (by first | omega | (simp; done) | (simp; omega)) _ | refine Below.alloc ?_ (by first | omega | (simp; done) | (simp; omega)) _) : Below w.heap.size w _).trans (hb4.mono (by first | omega | (simp; done) | (simp; omega))))
  have nz_4 : w.heap.size ≤ w4.heap.size := HB_4.out.size
  clear hb4 HB_3
  go_wp2_with fail
  refine (HR.out _).mono ?_
  rintro e w5 ⟨rfl, hb5⟩
  have x0_5 : w5.cell? ⟨w3.heap.size, 0, none⟩ = some (.int .i64 m) := carry hb5 (by go_simp)
  have x1_5 : w5.cell? ⟨w3.heap.size, 1, none⟩ = some (.int .i64 e) := carry hb5 (by go_simp)
  have xz_5 : w3.heap.size < w5.heap.size := by have := hb5.size; first | omega | (simp at this; omega)
  have HB_5 := Lib.hid ((by repeat (first | exact HB_4.out | refine Below.drew ?_ | refine Below.setCell ?_ (by first | omega | (simp; done) | (simp; omega)) _ | refine Below.alloc ?_ (by first | omega | (simp; done) | (simp; omega)) _) : Below w.heap.size w _).trans (hb5.mono (by first | omega | (simp; done) | (simp; omega))))
  have nz_5 : w.heap.size ≤ w5.heap.size := HB_5.out.size
  clear hb5 x0_4 x1_4 HB_4
  go_wp2_with fail
  refine (HN.out _).mono ?_
  rintro e w6 ⟨rfl, hb6⟩
  have x0_6 : w6.cell? ⟨w3.heap.size, 0, none⟩ = some (.int .i64 m) := carry hb6 (by go_simp)
  have x1_6 : w6.cell? ⟨w3.heap.size, 1, none⟩ = some (.int .i64 e) := carry hb6 (by go_simp)
  have xz_6 : w3.heap.size < w6.heap.size := by have := hb6.size; first | omega | (simp at this; omega)
  have HB_6 := Lib.hid ((by repeat (first | exact HB_5.out | refine Below.drew ?_ | refine Below.setCell ?_ (by first | omega | (simp; done) | (simp; omega)) _ | refine Below.alloc ?_ (by first | omega | (simp; done) | (simp; omega)) _) : Below w.heap.size w _).trans (hb6.mono (by first | omega | (simp; done) | (simp; omega))))
  have nz_6 : w.heap.size ≤ w6.heap.size := HB_6.out.size
  clear hb6 x0_5 x1_5 HB_5
  go_wp2_with fail
  refine (HC.out _).mono ?_
  rintro e w7 ⟨rfl, hb7⟩
  have x0_7 : w7.cell? ⟨w3.heap.size, 0, none⟩ = some (.int .i64 m) := carry hb7 (by go_simp)
  have x1_7 : w7.cell? ⟨w3.heap.size, 1, none⟩ = some (.int .i64 e) := carry hb7 (by go_simp)
  have xz_7 : w3.heap.size < w7.heap.size := by have := hb7.size; first | omega | (simp at this; omega)
  have y0_7 : w7.cell? ⟨w6.heap.size, 0, none⟩ = some (.int .i64 mm) := carry hb7 (by go_simp)
  have y1_7 : w7.cell? ⟨w6.heap.size, 1, none⟩ = some (.int .i64 e) := carry hb7 (by go_simp)
  have yz_7 : w6.heap.size < w7.heap.size := by have := hb7.size; first | omega | (simp at this; omega)
  have HB_7 := Lib.hid ((by repeat (first | exact HB_6.out | refine Below.drew ?_ | refine Below.setCell ?_ (by first | omega | (simp; done) | (simp; omega)) _ | refine Below.alloc ?_ (by first | omega | (simp; done) | (simp; omega)) _) : Below w.heap.size w _).trans (hb7.mono (by first | omega | (simp; done) | (simp; omega))))
  have nz_7 : w.heap.size ≤ w7.heap.size := HB_7.out.size
  clear hb7 x0_6 x1_6 HB_6
  go_wp2_with fail
  refine (HSan.out _ (by repeat (first | exact HB_7.out | refine Below.drew ?_ | refine Below.setCell ?_ (by first | omega | (simp; done) | (simp; omega)) _ | refine Below.alloc ?_ (by first | omega | (simp; done) | (simp; omega)) _))).mono ?_
  rintro e w8 ⟨rfl, hb8⟩
  have x0_8 : w8.cell? ⟨w3.heap.size, 0, none⟩ = some (.int .i64 m) := carry hb8 (by go_simp)
  have x1_8 : w8.cell? ⟨w3.heap.size, 1, none⟩ = some (.int .i64 e) := carry hb8 (by go_simp)
  have xz_8 : w3.heap.size < w8.heap.size := by have := hb8.size; first | omega | (simp at this; omega)
  have y0_8 : w8.cell? ⟨w6.heap.size, 0, none⟩ = some (.int .i64 mm) := carry hb8 (by go_simp)
  have y1_8 : w8.cell? ⟨w6.heap.size, 1, none⟩ = some (.int .i64 e) := carry hb8 (by go_simp)
  have yz_8 : w6.heap.size < w8.heap.size := by have := hb8.size; first | omega | (simp at this; omega)
  have HB_8 := Lib.hid ((by repeat (first | exact HB_7.out | refine Below.drew ?_ | refine Below.setCell ?_ (by first | omega | (simp; done) | (simp; omega)) _ | refine Below.alloc ?_ (by first | omega | (simp; done) | (simp; omega)) _) : Below w.heap.size w _).trans (hb8.mono (by first | omega | (simp; done) | (simp; omega))))
  have nz_8 : w.heap.size ≤ w8.heap.size := HB_8.out.size
  clear hb8 x0_7 x1_7 y0_7 y1_7 HB_7
  go_wp2_with fail
  go_ret
  exact ⟨rfl, by repeat (first | exact HB_8.out | refine Below.drew ?_ | refine Below.setCell ?_ (by first | omega | (simp; done) | (simp; omega)) _ | refine Below.alloc ?_ (by first | omega | (simp; done) | (simp; omega)) _)⟩

set_option maxRecDepth 100000 in
set_option maxHeartbeats 8000000 in
theorem o_bl3 (n0 i0 n k f m e mm p s u : Int) (w : World) (hn : n0.tmod 16777217 = n) (HF1 : Hid (∀ W : World, Calls Tryz.prog 19 #[.int .i64 n] W fun r w' => r = .returned (realV k f) ∧ Below W.heap.size W w')) (HE1 : Hid (∀ W : World, Calls Tryz.prog 18 #[realV k f] W fun r w' => r = .returned (iE n 0) ∧ Below W.heap.size W w')) (HA : Hid (∀ W : World, Calls Tryz.prog 12 #[.int .i64 i0] W fun r w' => r = .returned (realV m e) ∧ Below W.heap.size W w')) (HE : Hid (∀ W : World, Calls Tryz.prog 18 #[realV m e] W fun r w' => r = .returned (iE p 0) ∧ Below W.heap.size W w')) (HR : Hid (∀ W : World, Calls Tryz.prog 20 #[realV m e] W fun r w' => r = .returned (iE s 0) ∧ Below W.heap.size W w')) (HN : Hid (∀ W : World, Calls Tryz.prog 21 #[realV m e] W fun r w' => r = .returned (rE mm e 0) ∧ Below W.heap.size W w')) (HC : Hid (∀ W : World, Calls Tryz.prog 20 #[realV mm e] W fun r w' => r = .returned (iE u 3) ∧ Below W.heap.size W w')) (HSan : Hid (∀ W, Below w.heap.size w W → Calls Tryz.prog 17 #[] W fun r W' => r = .returned (.bool true) ∧ Below W.heap.size W W')) (s0 : ¬ s = p) (s1 : (s != p) = true) (s2 : (s != wrap64 (p + 1)) = false) (r1 : p < -8388608) :
    Calls Tryz.prog 4 #[.int .i64 i0, .int .i64 n0] w fun r w' => r = .returned (.bool true) ∧ Below w.heap.size w w' := by
  go_enter Tryz.func4, Tryz.ntmps4
  go_wp2_with fail
  clear hn
  refine (HF1.out _).mono ?_
  rintro e w1 ⟨rfl, hb1⟩
  have HB_1 := Lib.hid ((by repeat (first | exact Below.refl _ _ | refine Below.drew ?_ | refine Below.setCell ?_ (by first | omega | (simp; done) | (simp; omega)) _ | refine Below.alloc ?_ (by first | omega | (simp; done) | (simp; omega)) _) : Below w.heap.size w _).trans (hb1.mono (by first | omega | (simp; done) | (simp; omega))))
  have nz_1 : w.heap.size ≤ w1.heap.size := HB_1.out.size
  clear hb1
  go_wp2_with fail
  refine (HE1.out _).mono ?_
  rintro e w2 ⟨rfl, hb2⟩
  have HB_2 := Lib.hid ((by repeat (first | exact HB_1.out | refine Below.drew ?_ | refine Below.setCell ?_ (by first | omega | (simp; done) | (simp; omega)) _ | refine Below.alloc ?_ (by first | omega | (simp; done) | (simp; omega)) _) : Below w.heap.size w _).trans (hb2.mono (by first | omega | (simp; done) | (simp; omega))))
  have nz_2 : w.heap.size ≤ w2.heap.size := HB_2.out.size
  clear hb2 HB_1
  go_wp2_with fail
  refine (HA.out _).mono ?_
  rintro e w3 ⟨rfl, hb3⟩
  have HB_3 := Lib.hid ((by repeat (first | exact HB_2.out | refine Below.drew ?_ | refine Below.setCell ?_ (by first | omega | (simp; done) | (simp; omega)) _ | refine Below.alloc ?_ (by first | omega | (simp; done) | (simp; omega)) _) : Below w.heap.size w _).trans (hb3.mono (by first | omega | (simp; done) | (simp; omega))))
  have nz_3 : w.heap.size ≤ w3.heap.size := HB_3.out.size
  clear hb3 HB_2
  go_wp2_with fail
  refine (HE.out _).mono ?_
  rintro e w4 ⟨rfl, hb4⟩
  have x0_4 : w4.cell? ⟨w3.heap.size, 0, none⟩ = some (.int .i64 m) := carry hb4 (by go_simp)
  have x1_4 : w4.cell? ⟨w3.heap.size, 1, none⟩ = some (.int .i64 e) := carry hb4 (by go_simp)
  have xz_4 : w3.heap.size < w4.heap.size := by have := hb4.size; first | omega | (simp at this; omega)
  have HB_4 := Lib.hid ((by repeat (first | exact HB_3.out | refine Below.drew ?_ | refine Below.setCell ?_ (by first | omega | (simp; done) | (simp; omega)) _ | refine Below.alloc ?_ (by first | omega | (simp; done) | (simp; omega)) _) : Below w.heap.size w _).trans (hb4.mono (by first | omega | (simp; done) | (simp; omega))))
  have nz_4 : w.heap.size ≤ w4.heap.size := HB_4.out.size
  clear hb4 HB_3
  go_wp2_with fail
  refine (HR.out _).mono ?_
  rintro e w5 ⟨rfl, hb5⟩
  have x0_5 : w5.cell? ⟨w3.heap.size, 0, none⟩ = some (.int .i64 m) := carry hb5 (by go_simp)
  have x1_5 : w5.cell? ⟨w3.heap.size, 1, none⟩ = some (.int .i64 e) := carry hb5 (by go_simp)
  have xz_5 : w3.heap.size < w5.heap.size := by have := hb5.size; first | omega | (simp at this; omega)
  have HB_5 := Lib.hid ((by repeat (first | exact HB_4.out | refine Below.drew ?_ | refine Below.setCell ?_ (by first | omega | (simp; done) | (simp; omega)) _ | refine Below.alloc ?_ (by first | omega | (simp; done) | (simp; omega)) _) : Below w.heap.size w _).trans (hb5.mono (by first | omega | (simp; done) | (simp; omega))))
  have nz_5 : w.heap.size ≤ w5.heap.size := HB_5.out.size
  clear hb5 x0_4 x1_4 HB_4
  go_wp2_with fail
  refine (HN.out _).mono ?_
  rintro e w6 ⟨rfl, hb6⟩
  have x0_6 : w6.cell? ⟨w3.heap.size, 0, none⟩ = some (.int .i64 m) := carry hb6 (by go_simp)
  have x1_6 : w6.cell? ⟨w3.heap.size, 1, none⟩ = some (.int .i64 e) := carry hb6 (by go_simp)
  have xz_6 : w3.heap.size < w6.heap.size := by have := hb6.size; first | omega | (simp at this; omega)
  have HB_6 := Lib.hid ((by repeat (first | exact HB_5.out | refine Below.drew ?_ | refine Below.setCell ?_ (by first | omega | (simp; done) | (simp; omega)) _ | refine Below.alloc ?_ (by first | omega | (simp; done) | (simp; omega)) _) : Below w.heap.size w _).trans (hb6.mono (by first | omega | (simp; done) | (simp; omega))))
  have nz_6 : w.heap.size ≤ w6.heap.size := HB_6.out.size
  clear hb6 x0_5 x1_5 HB_5
  go_wp2_with fail
  refine (HC.out _).mono ?_
  rintro e w7 ⟨rfl, hb7⟩
  have x0_7 : w7.cell? ⟨w3.heap.size, 0, none⟩ = some (.int .i64 m) := carry hb7 (by go_simp)
  have x1_7 : w7.cell? ⟨w3.heap.size, 1, none⟩ = some (.int .i64 e) := carry hb7 (by go_simp)
  have xz_7 : w3.heap.size < w7.heap.size := by have := hb7.size; first | omega | (simp at this; omega)
  have y0_7 : w7.cell? ⟨w6.heap.size, 0, none⟩ = some (.int .i64 mm) := carry hb7 (by go_simp)
  have y1_7 : w7.cell? ⟨w6.heap.size, 1, none⟩ = some (.int .i64 e) := carry hb7 (by go_simp)
  have yz_7 : w6.heap.size < w7.heap.size := by have := hb7.size; first | omega | (simp at this; omega)
  have HB_7 := Lib.hid ((by repeat (first | exact HB_6.out | refine Below.drew ?_ | refine Below.setCell ?_ (by first | omega | (simp; done) | (simp; omega)) _ | refine Below.alloc ?_ (by first | omega | (simp; done) | (simp; omega)) _) : Below w.heap.size w _).trans (hb7.mono (by first | omega | (simp; done) | (simp; omega))))
  have nz_7 : w.heap.size ≤ w7.heap.size := HB_7.out.size
  clear hb7 x0_6 x1_6 HB_6
  go_wp2_with fail
  refine (HSan.out _ (by repeat (first | exact HB_7.out | refine Below.drew ?_ | refine Below.setCell ?_ (by first | omega | (simp; done) | (simp; omega)) _ | refine Below.alloc ?_ (by first | omega | (simp; done) | (simp; omega)) _))).mono ?_
  rintro e w8 ⟨rfl, hb8⟩
  have x0_8 : w8.cell? ⟨w3.heap.size, 0, none⟩ = some (.int .i64 m) := carry hb8 (by go_simp)
  have x1_8 : w8.cell? ⟨w3.heap.size, 1, none⟩ = some (.int .i64 e) := carry hb8 (by go_simp)
  have xz_8 : w3.heap.size < w8.heap.size := by have := hb8.size; first | omega | (simp at this; omega)
  have y0_8 : w8.cell? ⟨w6.heap.size, 0, none⟩ = some (.int .i64 mm) := carry hb8 (by go_simp)
  have y1_8 : w8.cell? ⟨w6.heap.size, 1, none⟩ = some (.int .i64 e) := carry hb8 (by go_simp)
  have yz_8 : w6.heap.size < w8.heap.size := by have := hb8.size; first | omega | (simp at this; omega)
  have HB_8 := Lib.hid ((by repeat (first | exact HB_7.out | refine Below.drew ?_ | refine Below.setCell ?_ (by first | omega | (simp; done) | (simp; omega)) _ | refine Below.alloc ?_ (by first | omega | (simp; done) | (simp; omega)) _) : Below w.heap.size w _).trans (hb8.mono (by first | omega | (simp; done) | (simp; omega))))
  have nz_8 : w.heap.size ≤ w8.heap.size := HB_8.out.size
  clear hb8 x0_7 x1_7 y0_7 y1_7 HB_7
  go_wp2_with fail
  go_ret
  exact ⟨rfl, by repeat (first | exact HB_8.out | refine Below.drew ?_ | refine Below.setCell ?_ (by first | omega | (simp; done) | (simp; omega)) _ | refine Below.alloc ?_ (by first | omega | (simp; done) | (simp; omega)) _)⟩

set_option maxRecDepth 100000 in
set_option maxHeartbeats 8000000 in
theorem o_bh0 (n0 i0 n k f m e mm p s u : Int) (w : World) (hn : n0.tmod 16777217 = n) (HF1 : Hid (∀ W : World, Calls Tryz.prog 19 #[.int .i64 n] W fun r w' => r = .returned (realV k f) ∧ Below W.heap.size W w')) (HE1 : Hid (∀ W : World, Calls Tryz.prog 18 #[realV k f] W fun r w' => r = .returned (iE n 0) ∧ Below W.heap.size W w')) (HA : Hid (∀ W : World, Calls Tryz.prog 12 #[.int .i64 i0] W fun r w' => r = .returned (realV m e) ∧ Below W.heap.size W w')) (HE : Hid (∀ W : World, Calls Tryz.prog 18 #[realV m e] W fun r w' => r = .returned (iE p 0) ∧ Below W.heap.size W w')) (HR : Hid (∀ W : World, Calls Tryz.prog 20 #[realV m e] W fun r w' => r = .returned (iE s 0) ∧ Below W.heap.size W w')) (HN : Hid (∀ W : World, Calls Tryz.prog 21 #[realV m e] W fun r w' => r = .returned (rE mm e 0) ∧ Below W.heap.size W w')) (HC : Hid (∀ W : World, Calls Tryz.prog 20 #[realV mm e] W fun r w' => r = .returned (iE u 0) ∧ Below W.heap.size W w')) (HSan : Hid (∀ W, Below w.heap.size w W → Calls Tryz.prog 17 #[] W fun r W' => r = .returned (.bool true) ∧ Below W.heap.size W W')) (s0 : ¬ s = p) (s1 : (s != p) = true) (s2 : (s != wrap64 (p + 1)) = false) (r1 : decide (p < -8388608) = false) (r2 : 8388608 ≤ p) :
    Calls Tryz.prog 4 #[.int .i64 i0, .int .i64 n0] w fun r w' => r = .returned (.bool true) ∧ Below w.heap.size w w' := by
  go_enter Tryz.func4, Tryz.ntmps4
  go_wp2_with fail
  clear hn
  refine (HF1.out _).mono ?_
  rintro e w1 ⟨rfl, hb1⟩
  have HB_1 := Lib.hid ((by repeat (first | exact Below.refl _ _ | refine Below.drew ?_ | refine Below.setCell ?_ (by first | omega | (simp; done) | (simp; omega)) _ | refine Below.alloc ?_ (by first | omega | (simp; done) | (simp; omega)) _) : Below w.heap.size w _).trans (hb1.mono (by first | omega | (simp; done) | (simp; omega))))
  have nz_1 : w.heap.size ≤ w1.heap.size := HB_1.out.size
  clear hb1
  go_wp2_with fail
  refine (HE1.out _).mono ?_
  rintro e w2 ⟨rfl, hb2⟩
  have HB_2 := Lib.hid ((by repeat (first | exact HB_1.out | refine Below.drew ?_ | refine Below.setCell ?_ (by first | omega | (simp; done) | (simp; omega)) _ | refine Below.alloc ?_ (by first | omega | (simp; done) | (simp; omega)) _) : Below w.heap.size w _).trans (hb2.mono (by first | omega | (simp; done) | (simp; omega))))
  have nz_2 : w.heap.size ≤ w2.heap.size := HB_2.out.size
  clear hb2 HB_1
  go_wp2_with fail
  refine (HA.out _).mono ?_
  rintro e w3 ⟨rfl, hb3⟩
  have HB_3 := Lib.hid ((by repeat (first | exact HB_2.out | refine Below.drew ?_ | refine Below.setCell ?_ (by first | omega | (simp; done) | (simp; omega)) _ | refine Below.alloc ?_ (by first | omega | (simp; done) | (simp; omega)) _) : Below w.heap.size w _).trans (hb3.mono (by first | omega | (simp; done) | (simp; omega))))
  have nz_3 : w.heap.size ≤ w3.heap.size := HB_3.out.size
  clear hb3 HB_2
  go_wp2_with fail
  refine (HE.out _).mono ?_
  rintro e w4 ⟨rfl, hb4⟩
  have x0_4 : w4.cell? ⟨w3.heap.size, 0, none⟩ = some (.int .i64 m) := carry hb4 (by go_simp)
  have x1_4 : w4.cell? ⟨w3.heap.size, 1, none⟩ = some (.int .i64 e) := carry hb4 (by go_simp)
  have xz_4 : w3.heap.size < w4.heap.size := by have := hb4.size; first | omega | (simp at this; omega)
  have HB_4 := Lib.hid ((by repeat (first | exact HB_3.out | refine Below.drew ?_ | refine Below.setCell ?_ (by first | omega | (simp; done) | (simp; omega)) _ | refine Below.alloc ?_ (by first | omega | (simp; done) | (simp; omega)) _) : Below w.heap.size w _).trans (hb4.mono (by first | omega | (simp; done) | (simp; omega))))
  have nz_4 : w.heap.size ≤ w4.heap.size := HB_4.out.size
  clear hb4 HB_3
  go_wp2_with fail
  refine (HR.out _).mono ?_
  rintro e w5 ⟨rfl, hb5⟩
  have x0_5 : w5.cell? ⟨w3.heap.size, 0, none⟩ = some (.int .i64 m) := carry hb5 (by go_simp)
  have x1_5 : w5.cell? ⟨w3.heap.size, 1, none⟩ = some (.int .i64 e) := carry hb5 (by go_simp)
  have xz_5 : w3.heap.size < w5.heap.size := by have := hb5.size; first | omega | (simp at this; omega)
  have HB_5 := Lib.hid ((by repeat (first | exact HB_4.out | refine Below.drew ?_ | refine Below.setCell ?_ (by first | omega | (simp; done) | (simp; omega)) _ | refine Below.alloc ?_ (by first | omega | (simp; done) | (simp; omega)) _) : Below w.heap.size w _).trans (hb5.mono (by first | omega | (simp; done) | (simp; omega))))
  have nz_5 : w.heap.size ≤ w5.heap.size := HB_5.out.size
  clear hb5 x0_4 x1_4 HB_4
  go_wp2_with fail
  refine (HN.out _).mono ?_
  rintro e w6 ⟨rfl, hb6⟩
  have x0_6 : w6.cell? ⟨w3.heap.size, 0, none⟩ = some (.int .i64 m) := carry hb6 (by go_simp)
  have x1_6 : w6.cell? ⟨w3.heap.size, 1, none⟩ = some (.int .i64 e) := carry hb6 (by go_simp)
  have xz_6 : w3.heap.size < w6.heap.size := by have := hb6.size; first | omega | (simp at this; omega)
  have HB_6 := Lib.hid ((by repeat (first | exact HB_5.out | refine Below.drew ?_ | refine Below.setCell ?_ (by first | omega | (simp; done) | (simp; omega)) _ | refine Below.alloc ?_ (by first | omega | (simp; done) | (simp; omega)) _) : Below w.heap.size w _).trans (hb6.mono (by first | omega | (simp; done) | (simp; omega))))
  have nz_6 : w.heap.size ≤ w6.heap.size := HB_6.out.size
  clear hb6 x0_5 x1_5 HB_5
  go_wp2_with fail
  refine (HC.out _).mono ?_
  rintro e w7 ⟨rfl, hb7⟩
  have x0_7 : w7.cell? ⟨w3.heap.size, 0, none⟩ = some (.int .i64 m) := carry hb7 (by go_simp)
  have x1_7 : w7.cell? ⟨w3.heap.size, 1, none⟩ = some (.int .i64 e) := carry hb7 (by go_simp)
  have xz_7 : w3.heap.size < w7.heap.size := by have := hb7.size; first | omega | (simp at this; omega)
  have y0_7 : w7.cell? ⟨w6.heap.size, 0, none⟩ = some (.int .i64 mm) := carry hb7 (by go_simp)
  have y1_7 : w7.cell? ⟨w6.heap.size, 1, none⟩ = some (.int .i64 e) := carry hb7 (by go_simp)
  have yz_7 : w6.heap.size < w7.heap.size := by have := hb7.size; first | omega | (simp at this; omega)
  have HB_7 := Lib.hid ((by repeat (first | exact HB_6.out | refine Below.drew ?_ | refine Below.setCell ?_ (by first | omega | (simp; done) | (simp; omega)) _ | refine Below.alloc ?_ (by first | omega | (simp; done) | (simp; omega)) _) : Below w.heap.size w _).trans (hb7.mono (by first | omega | (simp; done) | (simp; omega))))
  have nz_7 : w.heap.size ≤ w7.heap.size := HB_7.out.size
  clear hb7 x0_6 x1_6 HB_6
  go_wp2_with fail
  refine (HSan.out _ (by repeat (first | exact HB_7.out | refine Below.drew ?_ | refine Below.setCell ?_ (by first | omega | (simp; done) | (simp; omega)) _ | refine Below.alloc ?_ (by first | omega | (simp; done) | (simp; omega)) _))).mono ?_
  rintro e w8 ⟨rfl, hb8⟩
  have x0_8 : w8.cell? ⟨w3.heap.size, 0, none⟩ = some (.int .i64 m) := carry hb8 (by go_simp)
  have x1_8 : w8.cell? ⟨w3.heap.size, 1, none⟩ = some (.int .i64 e) := carry hb8 (by go_simp)
  have xz_8 : w3.heap.size < w8.heap.size := by have := hb8.size; first | omega | (simp at this; omega)
  have y0_8 : w8.cell? ⟨w6.heap.size, 0, none⟩ = some (.int .i64 mm) := carry hb8 (by go_simp)
  have y1_8 : w8.cell? ⟨w6.heap.size, 1, none⟩ = some (.int .i64 e) := carry hb8 (by go_simp)
  have yz_8 : w6.heap.size < w8.heap.size := by have := hb8.size; first | omega | (simp at this; omega)
  have HB_8 := Lib.hid ((by repeat (first | exact HB_7.out | refine Below.drew ?_ | refine Below.setCell ?_ (by first | omega | (simp; done) | (simp; omega)) _ | refine Below.alloc ?_ (by first | omega | (simp; done) | (simp; omega)) _) : Below w.heap.size w _).trans (hb8.mono (by first | omega | (simp; done) | (simp; omega))))
  have nz_8 : w.heap.size ≤ w8.heap.size := HB_8.out.size
  clear hb8 x0_7 x1_7 y0_7 y1_7 HB_7
  go_wp2_with fail
  go_ret
  exact ⟨rfl, by repeat (first | exact HB_8.out | refine Below.drew ?_ | refine Below.setCell ?_ (by first | omega | (simp; done) | (simp; omega)) _ | refine Below.alloc ?_ (by first | omega | (simp; done) | (simp; omega)) _)⟩

set_option maxRecDepth 100000 in
set_option maxHeartbeats 8000000 in
theorem o_bh3 (n0 i0 n k f m e mm p s u : Int) (w : World) (hn : n0.tmod 16777217 = n) (HF1 : Hid (∀ W : World, Calls Tryz.prog 19 #[.int .i64 n] W fun r w' => r = .returned (realV k f) ∧ Below W.heap.size W w')) (HE1 : Hid (∀ W : World, Calls Tryz.prog 18 #[realV k f] W fun r w' => r = .returned (iE n 0) ∧ Below W.heap.size W w')) (HA : Hid (∀ W : World, Calls Tryz.prog 12 #[.int .i64 i0] W fun r w' => r = .returned (realV m e) ∧ Below W.heap.size W w')) (HE : Hid (∀ W : World, Calls Tryz.prog 18 #[realV m e] W fun r w' => r = .returned (iE p 0) ∧ Below W.heap.size W w')) (HR : Hid (∀ W : World, Calls Tryz.prog 20 #[realV m e] W fun r w' => r = .returned (iE s 0) ∧ Below W.heap.size W w')) (HN : Hid (∀ W : World, Calls Tryz.prog 21 #[realV m e] W fun r w' => r = .returned (rE mm e 0) ∧ Below W.heap.size W w')) (HC : Hid (∀ W : World, Calls Tryz.prog 20 #[realV mm e] W fun r w' => r = .returned (iE u 3) ∧ Below W.heap.size W w')) (HSan : Hid (∀ W, Below w.heap.size w W → Calls Tryz.prog 17 #[] W fun r W' => r = .returned (.bool true) ∧ Below W.heap.size W W')) (s0 : ¬ s = p) (s1 : (s != p) = true) (s2 : (s != wrap64 (p + 1)) = false) (r1 : decide (p < -8388608) = false) (r2 : 8388608 ≤ p) :
    Calls Tryz.prog 4 #[.int .i64 i0, .int .i64 n0] w fun r w' => r = .returned (.bool true) ∧ Below w.heap.size w w' := by
  go_enter Tryz.func4, Tryz.ntmps4
  go_wp2_with fail
  clear hn
  refine (HF1.out _).mono ?_
  rintro e w1 ⟨rfl, hb1⟩
  have HB_1 := Lib.hid ((by repeat (first | exact Below.refl _ _ | refine Below.drew ?_ | refine Below.setCell ?_ (by first | omega | (simp; done) | (simp; omega)) _ | refine Below.alloc ?_ (by first | omega | (simp; done) | (simp; omega)) _) : Below w.heap.size w _).trans (hb1.mono (by first | omega | (simp; done) | (simp; omega))))
  have nz_1 : w.heap.size ≤ w1.heap.size := HB_1.out.size
  clear hb1
  go_wp2_with fail
  refine (HE1.out _).mono ?_
  rintro e w2 ⟨rfl, hb2⟩
  have HB_2 := Lib.hid ((by repeat (first | exact HB_1.out | refine Below.drew ?_ | refine Below.setCell ?_ (by first | omega | (simp; done) | (simp; omega)) _ | refine Below.alloc ?_ (by first | omega | (simp; done) | (simp; omega)) _) : Below w.heap.size w _).trans (hb2.mono (by first | omega | (simp; done) | (simp; omega))))
  have nz_2 : w.heap.size ≤ w2.heap.size := HB_2.out.size
  clear hb2 HB_1
  go_wp2_with fail
  refine (HA.out _).mono ?_
  rintro e w3 ⟨rfl, hb3⟩
  have HB_3 := Lib.hid ((by repeat (first | exact HB_2.out | refine Below.drew ?_ | refine Below.setCell ?_ (by first | omega | (simp; done) | (simp; omega)) _ | refine Below.alloc ?_ (by first | omega | (simp; done) | (simp; omega)) _) : Below w.heap.size w _).trans (hb3.mono (by first | omega | (simp; done) | (simp; omega))))
  have nz_3 : w.heap.size ≤ w3.heap.size := HB_3.out.size
  clear hb3 HB_2
  go_wp2_with fail
  refine (HE.out _).mono ?_
  rintro e w4 ⟨rfl, hb4⟩
  have x0_4 : w4.cell? ⟨w3.heap.size, 0, none⟩ = some (.int .i64 m) := carry hb4 (by go_simp)
  have x1_4 : w4.cell? ⟨w3.heap.size, 1, none⟩ = some (.int .i64 e) := carry hb4 (by go_simp)
  have xz_4 : w3.heap.size < w4.heap.size := by have := hb4.size; first | omega | (simp at this; omega)
  have HB_4 := Lib.hid ((by repeat (first | exact HB_3.out | refine Below.drew ?_ | refine Below.setCell ?_ (by first | omega | (simp; done) | (simp; omega)) _ | refine Below.alloc ?_ (by first | omega | (simp; done) | (simp; omega)) _) : Below w.heap.size w _).trans (hb4.mono (by first | omega | (simp; done) | (simp; omega))))
  have nz_4 : w.heap.size ≤ w4.heap.size := HB_4.out.size
  clear hb4 HB_3
  go_wp2_with fail
  refine (HR.out _).mono ?_
  rintro e w5 ⟨rfl, hb5⟩
  have x0_5 : w5.cell? ⟨w3.heap.size, 0, none⟩ = some (.int .i64 m) := carry hb5 (by go_simp)
  have x1_5 : w5.cell? ⟨w3.heap.size, 1, none⟩ = some (.int .i64 e) := carry hb5 (by go_simp)
  have xz_5 : w3.heap.size < w5.heap.size := by have := hb5.size; first | omega | (simp at this; omega)
  have HB_5 := Lib.hid ((by repeat (first | exact HB_4.out | refine Below.drew ?_ | refine Below.setCell ?_ (by first | omega | (simp; done) | (simp; omega)) _ | refine Below.alloc ?_ (by first | omega | (simp; done) | (simp; omega)) _) : Below w.heap.size w _).trans (hb5.mono (by first | omega | (simp; done) | (simp; omega))))
  have nz_5 : w.heap.size ≤ w5.heap.size := HB_5.out.size
  clear hb5 x0_4 x1_4 HB_4
  go_wp2_with fail
  refine (HN.out _).mono ?_
  rintro e w6 ⟨rfl, hb6⟩
  have x0_6 : w6.cell? ⟨w3.heap.size, 0, none⟩ = some (.int .i64 m) := carry hb6 (by go_simp)
  have x1_6 : w6.cell? ⟨w3.heap.size, 1, none⟩ = some (.int .i64 e) := carry hb6 (by go_simp)
  have xz_6 : w3.heap.size < w6.heap.size := by have := hb6.size; first | omega | (simp at this; omega)
  have HB_6 := Lib.hid ((by repeat (first | exact HB_5.out | refine Below.drew ?_ | refine Below.setCell ?_ (by first | omega | (simp; done) | (simp; omega)) _ | refine Below.alloc ?_ (by first | omega | (simp; done) | (simp; omega)) _) : Below w.heap.size w _).trans (hb6.mono (by first | omega | (simp; done) | (simp; omega))))
  have nz_6 : w.heap.size ≤ w6.heap.size := HB_6.out.size
  clear hb6 x0_5 x1_5 HB_5
  go_wp2_with fail
  refine (HC.out _).mono ?_
  rintro e w7 ⟨rfl, hb7⟩
  have x0_7 : w7.cell? ⟨w3.heap.size, 0, none⟩ = some (.int .i64 m) := carry hb7 (by go_simp)
  have x1_7 : w7.cell? ⟨w3.heap.size, 1, none⟩ = some (.int .i64 e) := carry hb7 (by go_simp)
  have xz_7 : w3.heap.size < w7.heap.size := by have := hb7.size; first | omega | (simp at this; omega)
  have y0_7 : w7.cell? ⟨w6.heap.size, 0, none⟩ = some (.int .i64 mm) := carry hb7 (by go_simp)
  have y1_7 : w7.cell? ⟨w6.heap.size, 1, none⟩ = some (.int .i64 e) := carry hb7 (by go_simp)
  have yz_7 : w6.heap.size < w7.heap.size := by have := hb7.size; first | omega | (simp at this; omega)
  have HB_7 := Lib.hid ((by repeat (first | exact HB_6.out | refine Below.drew ?_ | refine Below.setCell ?_ (by first | omega | (simp; done) | (simp; omega)) _ | refine Below.alloc ?_ (by first | omega | (simp; done) | (simp; omega)) _) : Below w.heap.size w _).trans (hb7.mono (by first | omega | (simp; done) | (simp; omega))))
  have nz_7 : w.heap.size ≤ w7.heap.size := HB_7.out.size
  clear hb7 x0_6 x1_6 HB_6
  go_wp2_with fail
  refine (HSan.out _ (by repeat (first | exact HB_7.out | refine Below.drew ?_ | refine Below.setCell ?_ (by first | omega | (simp; done) | (simp; omega)) _ | refine Below.alloc ?_ (by first | omega | (simp; done) | (simp; omega)) _))).mono ?_
  rintro e w8 ⟨rfl, hb8⟩
  have x0_8 : w8.cell? ⟨w3.heap.size, 0, none⟩ = some (.int .i64 m) := carry hb8 (by go_simp)
  have x1_8 : w8.cell? ⟨w3.heap.size, 1, none⟩ = some (.int .i64 e) := carry hb8 (by go_simp)
  have xz_8 : w3.heap.size < w8.heap.size := by have := hb8.size; first | omega | (simp at this; omega)
  have y0_8 : w8.cell? ⟨w6.heap.size, 0, none⟩ = some (.int .i64 mm) := carry hb8 (by go_simp)
  have y1_8 : w8.cell? ⟨w6.heap.size, 1, none⟩ = some (.int .i64 e) := carry hb8 (by go_simp)
  have yz_8 : w6.heap.size < w8.heap.size := by have := hb8.size; first | omega | (simp at this; omega)
  have HB_8 := Lib.hid ((by repeat (first | exact HB_7.out | refine Below.drew ?_ | refine Below.setCell ?_ (by first | omega | (simp; done) | (simp; omega)) _ | refine Below.alloc ?_ (by first | omega | (simp; done) | (simp; omega)) _) : Below w.heap.size w _).trans (hb8.mono (by first | omega | (simp; done) | (simp; omega))))
  have nz_8 : w.heap.size ≤ w8.heap.size := HB_8.out.size
  clear hb8 x0_7 x1_7 y0_7 y1_7 HB_7
  go_wp2_with fail
  go_ret
  exact ⟨rfl, by repeat (first | exact HB_8.out | refine Below.drew ?_ | refine Below.setCell ?_ (by first | omega | (simp; done) | (simp; omega)) _ | refine Below.alloc ?_ (by first | omega | (simp; done) | (simp; omega)) _)⟩

set_option maxRecDepth 100000 in
set_option maxHeartbeats 8000000 in
theorem c1 (n0 i0 n k f m e mm p s u k2 f2 k3 f3 lo d g : Int) (w : World) (hn : n0.tmod 16777217 = n) (HF1 : Hid (∀ W : World, Calls Tryz.prog 19 #[.int .i64 n] W fun r w' => r = .returned (realV k f) ∧ Below W.heap.size W w')) (HE1 : Hid (∀ W : World, Calls Tryz.prog 18 #[realV k f] W fun r w' => r = .returned (iE n 0) ∧ Below W.heap.size W w')) (HA : Hid (∀ W : World, Calls Tryz.prog 12 #[.int .i64 i0] W fun r w' => r = .returned (realV m e) ∧ Below W.heap.size W w')) (HE : Hid (∀ W : World, Calls Tryz.prog 18 #[realV m e] W fun r w' => r = .returned (iE p 0) ∧ Below W.heap.size W w')) (HR : Hid (∀ W : World, Calls Tryz.prog 20 #[realV m e] W fun r w' => r = .returned (iE p 0) ∧ Below W.heap.size W w')) (HN : Hid (∀ W : World, Calls Tryz.prog 21 #[realV m e] W fun r w' => r = .returned (rE mm e 0) ∧ Below W.heap.size W w')) (HC : Hid (∀ W : World, Calls Tryz.prog 20 #[realV mm e] W fun r w' => r = .returned (iE u 0) ∧ Below W.heap.size W w')) (HSan : Hid (∀ W, Below w.heap.size w W → Calls Tryz.prog 17 #[] W fun r W' => r = .returned (.bool true) ∧ Below W.heap.size W W')) (HF2 : Hid (∀ W : World, Calls Tryz.prog 19 #[.int .i64 p] W fun r w' => r = .returned (realV k2 f2) ∧ Below W.heap.size W w')) (HF3 : Hid (∀ W : World, Calls Tryz.prog 19 #[.int .i64 (p + 1)] W fun r w' => r = .returned (realV k3 f3) ∧ Below W.heap.size W w')) (HL : Hid (∀ W : World, Calls Tryz.prog 14 #[realV k2 f2, realV m e] W fun r w' => r = .returned (iE lo 0) ∧ Below W.heap.size W w')) (HH : Hid (∀ W : World, Calls Tryz.prog 14 #[realV m e, realV k3 f3] W fun r w' => r = .returned (iE (-1) 0) ∧ Below W.heap.size W w')) (HD : Hid (∀ W : World, Calls Tryz.prog 22 #[realV m e, realV k2 f2] W fun r w' => r = .returned (rE d g 0) ∧ Below W.heap.size W w')) (H2 : Hid (∀ W : World, Calls Tryz.prog 23 #[.int .i64 (-1)] W fun r w' => r = .returned (realV 8388608 (-24)) ∧ Below W.heap.size W w')) (HX : Hid (∀ W : World, Calls Tryz.prog 14 #[realV d g, realV 8388608 (-24)] W fun r w' => r = .returned (iE (-1) 0) ∧ Below W.heap.size W w')) (HP1 : Hid (IntKind.i64.wrap (p + 1) = p + 1)) (r1 : decide (p < -8388608) = false) (r2 : decide (8388608 ≤ p) = false) (l1 : decide (0 < lo) = false) (t1 : (p == wrap64 (p + 1)) = false) (t2 : (u == wrap64 (-p)) = true) :
    Calls Tryz.prog 4 #[.int .i64 i0, .int .i64 n0] w fun r w' => r = .returned (.bool true) ∧ Below w.heap.size w w' := by
  go_enter Tryz.func4, Tryz.ntmps4
  go_wp2_with fail
  clear hn
  refine (HF1.out _).mono ?_
  rintro e w1 ⟨rfl, hb1⟩
  have HB_1 := Lib.hid ((by repeat (first | exact Below.refl _ _ | refine Below.drew ?_ | refine Below.setCell ?_ (by first | omega | (simp; done) | (simp; omega)) _ | refine Below.alloc ?_ (by first | omega | (simp; done) | (simp; omega)) _) : Below w.heap.size w _).trans (hb1.mono (by first | omega | (simp; done) | (simp; omega))))
  have nz_1 : w.heap.size ≤ w1.heap.size := HB_1.out.size
  clear hb1
  go_wp2_with fail
  refine (HE1.out _).mono ?_
  rintro e w2 ⟨rfl, hb2⟩
  have HB_2 := Lib.hid ((by repeat (first | exact HB_1.out | refine Below.drew ?_ | refine Below.setCell ?_ (by first | omega | (simp; done) | (simp; omega)) _ | refine Below.alloc ?_ (by first | omega | (simp; done) | (simp; omega)) _) : Below w.heap.size w _).trans (hb2.mono (by first | omega | (simp; done) | (simp; omega))))
  have nz_2 : w.heap.size ≤ w2.heap.size := HB_2.out.size
  clear hb2 HB_1
  go_wp2_with fail
  refine (HA.out _).mono ?_
  rintro e w3 ⟨rfl, hb3⟩
  have HB_3 := Lib.hid ((by repeat (first | exact HB_2.out | refine Below.drew ?_ | refine Below.setCell ?_ (by first | omega | (simp; done) | (simp; omega)) _ | refine Below.alloc ?_ (by first | omega | (simp; done) | (simp; omega)) _) : Below w.heap.size w _).trans (hb3.mono (by first | omega | (simp; done) | (simp; omega))))
  have nz_3 : w.heap.size ≤ w3.heap.size := HB_3.out.size
  clear hb3 HB_2
  go_wp2_with fail
  refine (HE.out _).mono ?_
  rintro e w4 ⟨rfl, hb4⟩
  have x0_4 : w4.cell? ⟨w3.heap.size, 0, none⟩ = some (.int .i64 m) := carry hb4 (by go_simp)
  have x1_4 : w4.cell? ⟨w3.heap.size, 1, none⟩ = some (.int .i64 e) := carry hb4 (by go_simp)
  have xz_4 : w3.heap.size < w4.heap.size := by have := hb4.size; first | omega | (simp at this; omega)
  have HB_4 := Lib.hid ((by repeat (first | exact HB_3.out | refine Below.drew ?_ | refine Below.setCell ?_ (by first | omega | (simp; done) | (simp; omega)) _ | refine Below.alloc ?_ (by first | omega | (simp; done) | (simp; omega)) _) : Below w.heap.size w _).trans (hb4.mono (by first | omega | (simp; done) | (simp; omega))))
  have nz_4 : w.heap.size ≤ w4.heap.size := HB_4.out.size
  clear hb4 HB_3
  go_wp2_with fail
  refine (HR.out _).mono ?_
  rintro e w5 ⟨rfl, hb5⟩
  have x0_5 : w5.cell? ⟨w3.heap.size, 0, none⟩ = some (.int .i64 m) := carry hb5 (by go_simp)
  have x1_5 : w5.cell? ⟨w3.heap.size, 1, none⟩ = some (.int .i64 e) := carry hb5 (by go_simp)
  have xz_5 : w3.heap.size < w5.heap.size := by have := hb5.size; first | omega | (simp at this; omega)
  have HB_5 := Lib.hid ((by repeat (first | exact HB_4.out | refine Below.drew ?_ | refine Below.setCell ?_ (by first | omega | (simp; done) | (simp; omega)) _ | refine Below.alloc ?_ (by first | omega | (simp; done) | (simp; omega)) _) : Below w.heap.size w _).trans (hb5.mono (by first | omega | (simp; done) | (simp; omega))))
  have nz_5 : w.heap.size ≤ w5.heap.size := HB_5.out.size
  clear hb5 x0_4 x1_4 HB_4
  go_wp2_with fail
  refine (HN.out _).mono ?_
  rintro e w6 ⟨rfl, hb6⟩
  have x0_6 : w6.cell? ⟨w3.heap.size, 0, none⟩ = some (.int .i64 m) := carry hb6 (by go_simp)
  have x1_6 : w6.cell? ⟨w3.heap.size, 1, none⟩ = some (.int .i64 e) := carry hb6 (by go_simp)
  have xz_6 : w3.heap.size < w6.heap.size := by have := hb6.size; first | omega | (simp at this; omega)
  have HB_6 := Lib.hid ((by repeat (first | exact HB_5.out | refine Below.drew ?_ | refine Below.setCell ?_ (by first | omega | (simp; done) | (simp; omega)) _ | refine Below.alloc ?_ (by first | omega | (simp; done) | (simp; omega)) _) : Below w.heap.size w _).trans (hb6.mono (by first | omega | (simp; done) | (simp; omega))))
  have nz_6 : w.heap.size ≤ w6.heap.size := HB_6.out.size
  clear hb6 x0_5 x1_5 HB_5
  go_wp2_with fail
  refine (HC.out _).mono ?_
  rintro e w7 ⟨rfl, hb7⟩
  have x0_7 : w7.cell? ⟨w3.heap.size, 0, none⟩ = some (.int .i64 m) := carry hb7 (by go_simp)
  have x1_7 : w7.cell? ⟨w3.heap.size, 1, none⟩ = some (.int .i64 e) := carry hb7 (by go_simp)
  have xz_7 : w3.heap.size < w7.heap.size := by have := hb7.size; first | omega | (simp at this; omega)
  have y0_7 : w7.cell? ⟨w6.heap.size, 0, none⟩ = some (.int .i64 mm) := carry hb7 (by go_simp)
  have y1_7 : w7.cell? ⟨w6.heap.size, 1, none⟩ = some (.int .i64 e) := carry hb7 (by go_simp)
  have yz_7 : w6.heap.size < w7.heap.size := by have := hb7.size; first | omega | (simp at this; omega)
  have HB_7 := Lib.hid ((by repeat (first | exact HB_6.out | refine Below.drew ?_ | refine Below.setCell ?_ (by first | omega | (simp; done) | (simp; omega)) _ | refine Below.alloc ?_ (by first | omega | (simp; done) | (simp; omega)) _) : Below w.heap.size w _).trans (hb7.mono (by first | omega | (simp; done) | (simp; omega))))
  have nz_7 : w.heap.size ≤ w7.heap.size := HB_7.out.size
  clear hb7 x0_6 x1_6 HB_6
  go_wp2_with fail
  have HBB := HB_7
  have HB0 := HB_7
  have c0_0 := x0_7
  have c0_1 := x1_7
  have z0 := xz_7
  clear HB_7 x0_7 x1_7 xz_7 y0_7 y1_7 yz_7 xz_4 xz_5 xz_6 nz_1 nz_2 nz_4 nz_5 nz_6 nz_7
  go_region_held3 (fun wx => wx.cell? ⟨w3.heap.size, 0, none⟩ = some (.int .i64 m) ∧ wx.cell? ⟨w3.heap.size, 1, none⟩ = some (.int .i64 e) ∧ w3.heap.size < wx.heap.size ∧ Below w.heap.size w wx) (first | (go_keep; done) | ((try go_split_ands); (repeat' apply And.intro) <;> first | with_reducible assumption | (exact carry hbq (by with_reducible assumption)) | (exact carryF hbq (by with_reducible assumption) (by with_reducible assumption)) | (go_simp; done) | (simp only [World.size_alloc, World.size_drew]; omega) | (with_reducible exact HB0.out.drew) | (with_reducible exact HB0.out) | (with_reducible exact Below.drew (by with_reducible assumption)) | (exact Nat.lt_of_lt_of_le (by first | with_reducible assumption | (simp <;> omega)) hbq.size) | (simp <;> omega) | (exact Below.trans (by with_reducible assumption) (hbq.mono (by first | omega | (simp <;> omega))))))
  (first
      | (go_at_call 19; ((with_reducible refine (HF2.out _).mono ?_); rintro r wq ⟨rfl, hbq⟩))
      | (go_at_call 14; ((with_reducible refine (HL.out _).mono ?_); rintro r wq ⟨rfl, hbq⟩)))
  rename _ ∧ _ ∧ _ ∧ Below w.heap.size w _ => hS
  obtain ⟨x0, x1, xz, xb⟩ := hS
  have HBX := Lib.hid xb
  clear xb HB0 HBB c0_0 c0_1 z0
  have HBB := HBX
  have HB0 := HBB
  have c0_0 := x0
  have c0_1 := x1
  have z0 := xz
  clear HBX x0 x1 xz
  go_wp2_with fail
  have hp1 : IntKind.i64.wrap (p + 1) = p + 1 := HP1.out
  go_region_held3 (fun wx => wx.cell? ⟨w3.heap.size, 0, none⟩ = some (.int .i64 m) ∧ wx.cell? ⟨w3.heap.size, 1, none⟩ = some (.int .i64 e) ∧ w3.heap.size < wx.heap.size ∧ Below w.heap.size w wx) (first | (go_keep; done) | ((try go_split_ands); (repeat' apply And.intro) <;> first | with_reducible assumption | (exact carry hbq (by with_reducible assumption)) | (exact carryF hbq (by with_reducible assumption) (by with_reducible assumption)) | (go_simp; done) | (simp only [World.size_alloc, World.size_drew]; omega) | (with_reducible exact HB0.out.drew) | (with_reducible exact HB0.out) | (with_reducible exact Below.drew (by with_reducible assumption)) | (exact Nat.lt_of_lt_of_le (by first | with_reducible assumption | (simp <;> omega)) hbq.size) | (simp <;> omega) | (exact Below.trans (by with_reducible assumption) (hbq.mono (by first | omega | (simp <;> omega))))))
  (first
      | (go_at_call 19; ((with_reducible refine (HF3.out _).mono ?_); rintro r wq ⟨rfl, hbq⟩))
      | (go_at_call 14; ((with_reducible refine (HH.out _).mono ?_); rintro r wq ⟨rfl, hbq⟩)))
  rename _ ∧ _ ∧ _ ∧ Below w.heap.size w _ => hS
  obtain ⟨x0, x1, xz, xb⟩ := hS
  have HBX := Lib.hid xb
  clear xb HB0 HBB c0_0 c0_1 z0
  have HBB := HBX
  have HB0 := HBB
  have c0_0 := x0
  have c0_1 := x1
  have z0 := xz
  clear HBX x0 x1 xz
  go_wp2_with fail
  clear hp1
  obtain ⟨w8, rfl⟩ : ∃ x, x = wq := ⟨_, rfl⟩
  have K0 := Lib.hid (Below.refl w8.heap.size w8)
  have SK := Lib.hid (show ∀ wx, Below w8.heap.size w8 wx → wx.cell? ⟨w3.heap.size, 0, none⟩ = some (.int .i64 m) ∧ wx.cell? ⟨w3.heap.size, 1, none⟩ = some (.int .i64 e) ∧ w8.heap.size ≤ wx.heap.size ∧ Below w8.heap.size w8 wx from fun wx h => ⟨carry h c0_0, carry h c0_1, h.size, h⟩)
  go_region_held3 (fun wx => wx.cell? ⟨w3.heap.size, 0, none⟩ = some (.int .i64 m) ∧ wx.cell? ⟨w3.heap.size, 1, none⟩ = some (.int .i64 e) ∧ w8.heap.size ≤ wx.heap.size ∧ Below w8.heap.size w8 wx) (((try go_split_ands); exact SK.out _ (by repeat (first | with_reducible assumption | with_reducible exact K0.out | with_reducible refine Below.drew ?_ | with_reducible refine Below.setCell ?_ (by first | with_reducible exact Nat.le_refl _ | with_reducible assumption | (simp; done) | (simp <;> omega) | (have := hbq.size; simp at this ⊢; omega)) _ | with_reducible refine Below.alloc ?_ (by first | with_reducible exact Nat.le_refl _ | with_reducible assumption | (simp; done) | (simp <;> omega) | (have := hbq.size; simp at this ⊢; omega)) _))))
  (first
      | (go_at_call 19; ((with_reducible refine (HF2.out _).mono ?_); rintro r wF ⟨rfl, hbq⟩; have hbw : Below w8.heap.size w8 wF := (by first | exact K0.out.drew.trans hbq | exact K0.out.trans hbq | exact (K0.out.alloc (Nat.le_refl _) _).drew.trans (hbq.mono (by simp)) | exact (K0.out.drew.alloc (Nat.le_refl _) _).trans (hbq.mono (by simp)) | exact (K0.out.alloc (Nat.le_refl _) _).trans (hbq.mono (by simp))); have hzw : w8.heap.size ≤ wF.heap.size := hbw.size; try (have qq := carry_two hbq; obtain ⟨q0, q1, t0, t1, tz⟩ := qq); try (have qq := carry_two' hbq; obtain ⟨q0, q1, t0, t1, tz⟩ := qq)))
      | (go_at_call 22; ((with_reducible refine (HD.out _).mono ?_); rintro r wS ⟨rfl, hbq⟩; have qq := carry_two' hbq; obtain ⟨q0, q1, t0, t1, tz⟩ := qq; have hbv : Below w8.heap.size w8 wS := (hbw.alloc hzw _).trans (hbq.mono (by simp <;> omega)); have hzv : w8.heap.size ≤ wS.heap.size := hbv.size))
      | (go_at_call 22; ((with_reducible refine (HD.out _).mono ?_); rintro r wS ⟨rfl, hbq⟩; have p0 := carry hbq q0; have p1 := carry hbq q1; have s0 := carryF hbq q0 t0; have s1 := carryF hbq q1 t1; have sz := Nat.lt_of_lt_of_le tz hbq.size; have hbv : Below w8.heap.size w8 wS := hbw.trans (hbq.mono hzw); have hzv : w8.heap.size ≤ wS.heap.size := hbv.size))
      | (go_at_call 22; ((with_reducible refine (HD.out _).mono ?_); rintro r wS ⟨rfl, hbq⟩; have hbv : Below w8.heap.size w8 wS := hbw.trans (hbq.mono hzw); have hzv : w8.heap.size ≤ wS.heap.size := hbv.size)))
  · have HBS := Lib.hid (HBB.out.trans (hbv.mono HBB.out.size))
    have hw8 := HBB.out.size
    have hwS := HBS.out.size
    generalize hW : wS.alloc _ = w9
    have d0 : w9.cell? ⟨wS.heap.size, 0, none⟩ = some (.int .i64 d) := by rw [← hW]; clear hW; go_simp
    have d1 : w9.cell? ⟨wS.heap.size, 1, none⟩ = some (.int .i64 g) := by rw [← hW]; clear hW; go_simp
    have zd : wS.heap.size < w9.heap.size := by rw [← hW]; clear hW; simp <;> omega
    have HBX := Lib.hid ((by rw [← hW]; clear hW; have HBB := HBS; repeat (first | with_reducible exact HBB.out | with_reducible exact Below.refl _ _ | with_reducible refine Below.drew ?_ | with_reducible refine belowN ?_ _ | with_reducible refine Below.setCell ?_ (by first | omega | (simp; done) | (simp; omega)) _ | with_reducible refine Below.alloc ?_ (by first | omega | (simp; done) | (simp; omega)) _)) : Below w.heap.size w w9)
    clear hW
    have hb9 : w.heap.size ≤ wS.heap.size := by omega
    generalize wS.heap.size = b9 at d0 d1 zd hb9 ⊢
    clear HBS hw8 hwS HBB HB0 c0_0 c0_1 z0 K0 SK
    have hn := HBX.out.size
    have HB0 := HBX
    have HBB := HBX
    clear HBX
    go_wp2_with fail
    go_region_held3 (fun wx => wx.cell? ⟨b9, 0, none⟩ = some (.int .i64 d) ∧ wx.cell? ⟨b9, 1, none⟩ = some (.int .i64 g) ∧ b9 < wx.heap.size ∧ Below w.heap.size w wx) (first | (go_keep; done) | ((try go_split_ands); (repeat' apply And.intro) <;> first | with_reducible assumption | (exact carry hbq (by with_reducible assumption)) | (exact carryF hbq (by with_reducible assumption) (by with_reducible assumption)) | (go_simp; done) | (simp only [World.size_alloc, World.size_drew]; omega) | (with_reducible exact HB0.out.drew) | (with_reducible exact HB0.out) | (with_reducible exact Below.drew (by with_reducible assumption)) | (exact Nat.lt_of_lt_of_le (by first | with_reducible assumption | (simp <;> omega)) hbq.size) | (simp <;> omega) | (exact Below.trans (by with_reducible assumption) (hbq.mono (by first | omega | (simp <;> omega))))))
    (first
        | (go_at_call 23; ((with_reducible refine (H2.out _).mono ?_); rintro r wq ⟨rfl, hbq⟩))
        | (go_at_call 14; ((with_reducible refine (HX.out _).mono ?_); rintro r wq ⟨rfl, hbq⟩)))
    rename _ ∧ _ ∧ _ ∧ Below w.heap.size w _ => hS
    have HBY := Lib.hid hS.2.2.2
    clear hS HB0 HBB d0 d1 zd
    have HBB := HBY
    clear HBY
    go_wp2_with fail
    refine (HSan.out _ (by repeat (first | with_reducible exact HBB.out | with_reducible exact Below.refl _ _ | with_reducible refine Below.drew ?_ | with_reducible refine belowN ?_ _ | with_reducible refine Below.setCell ?_ (by first | omega | (simp; done) | (simp; omega)) _ | with_reducible refine Below.alloc ?_ (by first | omega | (simp; done) | (simp; omega)) _))).mono ?_
    rintro r wz ⟨rfl, hbz⟩
    have HBZ := Lib.hid ((by repeat (first | with_reducible exact HBB.out | with_reducible exact Below.refl _ _ | with_reducible refine Below.drew ?_ | with_reducible refine belowN ?_ _ | with_reducible refine Below.setCell ?_ (by first | omega | (simp; done) | (simp; omega)) _ | with_reducible refine Below.alloc ?_ (by first | omega | (simp; done) | (simp; omega)) _) : Below w.heap.size w _).trans (hbz.mono (by have := HBB.out.size; first | omega | (simp <;> omega))))
    clear hbz
    go_wp2_with fail
    go_ret
    exact ⟨rfl, HBZ.out⟩
  · have HBS := Lib.hid (HBB.out.trans (hbv.mono HBB.out.size))
    have hw8 := HBB.out.size
    have hwS := HBS.out.size
    generalize hW : (wS.setCell _ _).setCell _ _ = w9
    have d0 : w9.cell? ⟨wF.heap.size, 0, none⟩ = some (.int .i64 d) := by rw [← hW]; clear hW; go_simp
    have d1 : w9.cell? ⟨wF.heap.size, 1, none⟩ = some (.int .i64 g) := by rw [← hW]; clear hW; go_simp
    have zd : wF.heap.size < w9.heap.size := by rw [← hW]; clear hW; simp <;> omega
    have HBX := Lib.hid ((by rw [← hW]; clear hW; have HBB := HBS; repeat (first | with_reducible exact HBB.out | with_reducible exact Below.refl _ _ | with_reducible refine Below.drew ?_ | with_reducible refine belowN ?_ _ | with_reducible refine Below.setCell ?_ (by first | omega | (simp; done) | (simp; omega)) _ | with_reducible refine Below.alloc ?_ (by first | omega | (simp; done) | (simp; omega)) _)) : Below w.heap.size w w9)
    clear hW
    have hb9 : w.heap.size ≤ wF.heap.size := by omega
    generalize wF.heap.size = b9 at d0 d1 zd hb9 ⊢
    clear HBS hw8 hwS HBB HB0 c0_0 c0_1 z0 K0 SK
    have hn := HBX.out.size
    have HB0 := HBX
    have HBB := HBX
    clear HBX
    go_wp2_with fail
    go_region_held3 (fun wx => wx.cell? ⟨b9, 0, none⟩ = some (.int .i64 d) ∧ wx.cell? ⟨b9, 1, none⟩ = some (.int .i64 g) ∧ b9 < wx.heap.size ∧ Below w.heap.size w wx) (first | (go_keep; done) | ((try go_split_ands); (repeat' apply And.intro) <;> first | with_reducible assumption | (exact carry hbq (by with_reducible assumption)) | (exact carryF hbq (by with_reducible assumption) (by with_reducible assumption)) | (go_simp; done) | (simp only [World.size_alloc, World.size_drew]; omega) | (with_reducible exact HB0.out.drew) | (with_reducible exact HB0.out) | (with_reducible exact Below.drew (by with_reducible assumption)) | (exact Nat.lt_of_lt_of_le (by first | with_reducible assumption | (simp <;> omega)) hbq.size) | (simp <;> omega) | (exact Below.trans (by with_reducible assumption) (hbq.mono (by first | omega | (simp <;> omega))))))
    (first
        | (go_at_call 23; ((with_reducible refine (H2.out _).mono ?_); rintro r wq ⟨rfl, hbq⟩))
        | (go_at_call 14; ((with_reducible refine (HX.out _).mono ?_); rintro r wq ⟨rfl, hbq⟩)))
    rename _ ∧ _ ∧ _ ∧ Below w.heap.size w _ => hS
    have HBY := Lib.hid hS.2.2.2
    clear hS HB0 HBB d0 d1 zd
    have HBB := HBY
    clear HBY
    go_wp2_with fail
    refine (HSan.out _ (by repeat (first | with_reducible exact HBB.out | with_reducible exact Below.refl _ _ | with_reducible refine Below.drew ?_ | with_reducible refine belowN ?_ _ | with_reducible refine Below.setCell ?_ (by first | omega | (simp; done) | (simp; omega)) _ | with_reducible refine Below.alloc ?_ (by first | omega | (simp; done) | (simp; omega)) _))).mono ?_
    rintro r wz ⟨rfl, hbz⟩
    have HBZ := Lib.hid ((by repeat (first | with_reducible exact HBB.out | with_reducible exact Below.refl _ _ | with_reducible refine Below.drew ?_ | with_reducible refine belowN ?_ _ | with_reducible refine Below.setCell ?_ (by first | omega | (simp; done) | (simp; omega)) _ | with_reducible refine Below.alloc ?_ (by first | omega | (simp; done) | (simp; omega)) _) : Below w.heap.size w _).trans (hbz.mono (by have := HBB.out.size; first | omega | (simp <;> omega))))
    clear hbz
    go_wp2_with fail
    go_ret
    exact ⟨rfl, HBZ.out⟩
  · have HBS := Lib.hid (HBB.out.trans (hbv.mono HBB.out.size))
    have hw8 := HBB.out.size
    have hwS := HBS.out.size
    generalize hW : (wS.setCell _ _).setCell _ _ = w9
    have d0 : w9.cell? ⟨w8.heap.size, 0, none⟩ = some (.int .i64 d) := by rw [← hW]; clear hW; go_simp
    have d1 : w9.cell? ⟨w8.heap.size, 1, none⟩ = some (.int .i64 g) := by rw [← hW]; clear hW; go_simp
    have zd : w8.heap.size < w9.heap.size := by rw [← hW]; clear hW; simp <;> omega
    have HBX := Lib.hid ((by rw [← hW]; clear hW; have HBB := HBS; repeat (first | with_reducible exact HBB.out | with_reducible exact Below.refl _ _ | with_reducible refine Below.drew ?_ | with_reducible refine belowN ?_ _ | with_reducible refine Below.setCell ?_ (by first | omega | (simp; done) | (simp; omega)) _ | with_reducible refine Below.alloc ?_ (by first | omega | (simp; done) | (simp; omega)) _)) : Below w.heap.size w w9)
    clear hW
    have hb9 : w.heap.size ≤ w8.heap.size := by omega
    generalize w8.heap.size = b9 at d0 d1 zd hb9 ⊢
    clear HBS hw8 hwS HBB HB0 c0_0 c0_1 z0 K0 SK
    have hn := HBX.out.size
    have HB0 := HBX
    have HBB := HBX
    clear HBX
    go_wp2_with fail
    go_region_held3 (fun wx => wx.cell? ⟨b9, 0, none⟩ = some (.int .i64 d) ∧ wx.cell? ⟨b9, 1, none⟩ = some (.int .i64 g) ∧ b9 < wx.heap.size ∧ Below w.heap.size w wx) (first | (go_keep; done) | ((try go_split_ands); (repeat' apply And.intro) <;> first | with_reducible assumption | (exact carry hbq (by with_reducible assumption)) | (exact carryF hbq (by with_reducible assumption) (by with_reducible assumption)) | (go_simp; done) | (simp only [World.size_alloc, World.size_drew]; omega) | (with_reducible exact HB0.out.drew) | (with_reducible exact HB0.out) | (with_reducible exact Below.drew (by with_reducible assumption)) | (exact Nat.lt_of_lt_of_le (by first | with_reducible assumption | (simp <;> omega)) hbq.size) | (simp <;> omega) | (exact Below.trans (by with_reducible assumption) (hbq.mono (by first | omega | (simp <;> omega))))))
    (first
        | (go_at_call 23; ((with_reducible refine (H2.out _).mono ?_); rintro r wq ⟨rfl, hbq⟩))
        | (go_at_call 14; ((with_reducible refine (HX.out _).mono ?_); rintro r wq ⟨rfl, hbq⟩)))
    rename _ ∧ _ ∧ _ ∧ Below w.heap.size w _ => hS
    have HBY := Lib.hid hS.2.2.2
    clear hS HB0 HBB d0 d1 zd
    have HBB := HBY
    clear HBY
    go_wp2_with fail
    refine (HSan.out _ (by repeat (first | with_reducible exact HBB.out | with_reducible exact Below.refl _ _ | with_reducible refine Below.drew ?_ | with_reducible refine belowN ?_ _ | with_reducible refine Below.setCell ?_ (by first | omega | (simp; done) | (simp; omega)) _ | with_reducible refine Below.alloc ?_ (by first | omega | (simp; done) | (simp; omega)) _))).mono ?_
    rintro r wz ⟨rfl, hbz⟩
    have HBZ := Lib.hid ((by repeat (first | with_reducible exact HBB.out | with_reducible exact Below.refl _ _ | with_reducible refine Below.drew ?_ | with_reducible refine belowN ?_ _ | with_reducible refine Below.setCell ?_ (by first | omega | (simp; done) | (simp; omega)) _ | with_reducible refine Below.alloc ?_ (by first | omega | (simp; done) | (simp; omega)) _) : Below w.heap.size w _).trans (hbz.mono (by have := HBB.out.size; first | omega | (simp <;> omega))))
    clear hbz
    go_wp2_with fail
    go_ret
    exact ⟨rfl, HBZ.out⟩

set_option maxRecDepth 100000 in
set_option maxHeartbeats 8000000 in
theorem c2 (n0 i0 n k f m e mm p s u k2 f2 k3 f3 lo d g : Int) (w : World) (hn : n0.tmod 16777217 = n) (HF1 : Hid (∀ W : World, Calls Tryz.prog 19 #[.int .i64 n] W fun r w' => r = .returned (realV k f) ∧ Below W.heap.size W w')) (HE1 : Hid (∀ W : World, Calls Tryz.prog 18 #[realV k f] W fun r w' => r = .returned (iE n 0) ∧ Below W.heap.size W w')) (HA : Hid (∀ W : World, Calls Tryz.prog 12 #[.int .i64 i0] W fun r w' => r = .returned (realV m e) ∧ Below W.heap.size W w')) (HE : Hid (∀ W : World, Calls Tryz.prog 18 #[realV m e] W fun r w' => r = .returned (iE p 0) ∧ Below W.heap.size W w')) (HR : Hid (∀ W : World, Calls Tryz.prog 20 #[realV m e] W fun r w' => r = .returned (iE s 0) ∧ Below W.heap.size W w')) (HN : Hid (∀ W : World, Calls Tryz.prog 21 #[realV m e] W fun r w' => r = .returned (rE mm e 0) ∧ Below W.heap.size W w')) (HC : Hid (∀ W : World, Calls Tryz.prog 20 #[realV mm e] W fun r w' => r = .returned (iE u 0) ∧ Below W.heap.size W w')) (HSan : Hid (∀ W, Below w.heap.size w W → Calls Tryz.prog 17 #[] W fun r W' => r = .returned (.bool true) ∧ Below W.heap.size W W')) (HF2 : Hid (∀ W : World, Calls Tryz.prog 19 #[.int .i64 p] W fun r w' => r = .returned (realV k2 f2) ∧ Below W.heap.size W w')) (HF3 : Hid (∀ W : World, Calls Tryz.prog 19 #[.int .i64 (p + 1)] W fun r w' => r = .returned (realV k3 f3) ∧ Below W.heap.size W w')) (HL : Hid (∀ W : World, Calls Tryz.prog 14 #[realV k2 f2, realV m e] W fun r w' => r = .returned (iE lo 0) ∧ Below W.heap.size W w')) (HH : Hid (∀ W : World, Calls Tryz.prog 14 #[realV m e, realV k3 f3] W fun r w' => r = .returned (iE (-1) 0) ∧ Below W.heap.size W w')) (HD : Hid (∀ W : World, Calls Tryz.prog 22 #[realV m e, realV k2 f2] W fun r w' => r = .returned (rE d g 0) ∧ Below W.heap.size W w')) (H2 : Hid (∀ W : World, Calls Tryz.prog 23 #[.int .i64 (-1)] W fun r w' => r = .returned (realV 8388608 (-24)) ∧ Below W.heap.size W w')) (HX : Hid (∀ W : World, Calls Tryz.prog 14 #[realV d g, realV 8388608 (-24)] W fun r w' => r = .returned (iE 0 0) ∧ Below W.heap.size W w')) (HP1 : Hid (IntKind.i64.wrap (p + 1) = p + 1)) (r1 : decide (p < -8388608) = false) (r2 : decide (8388608 ≤ p) = false) (l1 : decide (0 < lo) = false) (s0 : ¬ s = p) (s1 : (s != p) = true) (s2 : (s != wrap64 (p + 1)) = false) (t1 : (s == wrap64 (p + 1)) = true)  :
    Calls Tryz.prog 4 #[.int .i64 i0, .int .i64 n0] w fun r w' => r = .returned (.bool true) ∧ Below w.heap.size w w' := by
  go_enter Tryz.func4, Tryz.ntmps4
  go_wp2_with fail
  clear hn
  refine (HF1.out _).mono ?_
  rintro e w1 ⟨rfl, hb1⟩
  have HB_1 := Lib.hid ((by repeat (first | exact Below.refl _ _ | refine Below.drew ?_ | refine Below.setCell ?_ (by first | omega | (simp; done) | (simp; omega)) _ | refine Below.alloc ?_ (by first | omega | (simp; done) | (simp; omega)) _) : Below w.heap.size w _).trans (hb1.mono (by first | omega | (simp; done) | (simp; omega))))
  have nz_1 : w.heap.size ≤ w1.heap.size := HB_1.out.size
  clear hb1
  go_wp2_with fail
  refine (HE1.out _).mono ?_
  rintro e w2 ⟨rfl, hb2⟩
  have HB_2 := Lib.hid ((by repeat (first | exact HB_1.out | refine Below.drew ?_ | refine Below.setCell ?_ (by first | omega | (simp; done) | (simp; omega)) _ | refine Below.alloc ?_ (by first | omega | (simp; done) | (simp; omega)) _) : Below w.heap.size w _).trans (hb2.mono (by first | omega | (simp; done) | (simp; omega))))
  have nz_2 : w.heap.size ≤ w2.heap.size := HB_2.out.size
  clear hb2 HB_1
  go_wp2_with fail
  refine (HA.out _).mono ?_
  rintro e w3 ⟨rfl, hb3⟩
  have HB_3 := Lib.hid ((by repeat (first | exact HB_2.out | refine Below.drew ?_ | refine Below.setCell ?_ (by first | omega | (simp; done) | (simp; omega)) _ | refine Below.alloc ?_ (by first | omega | (simp; done) | (simp; omega)) _) : Below w.heap.size w _).trans (hb3.mono (by first | omega | (simp; done) | (simp; omega))))
  have nz_3 : w.heap.size ≤ w3.heap.size := HB_3.out.size
  clear hb3 HB_2
  go_wp2_with fail
  refine (HE.out _).mono ?_
  rintro e w4 ⟨rfl, hb4⟩
  have x0_4 : w4.cell? ⟨w3.heap.size, 0, none⟩ = some (.int .i64 m) := carry hb4 (by go_simp)
  have x1_4 : w4.cell? ⟨w3.heap.size, 1, none⟩ = some (.int .i64 e) := carry hb4 (by go_simp)
  have xz_4 : w3.heap.size < w4.heap.size := by have := hb4.size; first | omega | (simp at this; omega)
  have HB_4 := Lib.hid ((by repeat (first | exact HB_3.out | refine Below.drew ?_ | refine Below.setCell ?_ (by first | omega | (simp; done) | (simp; omega)) _ | refine Below.alloc ?_ (by first | omega | (simp; done) | (simp; omega)) _) : Below w.heap.size w _).trans (hb4.mono (by first | omega | (simp; done) | (simp; omega))))
  have nz_4 : w.heap.size ≤ w4.heap.size := HB_4.out.size
  clear hb4 HB_3
  go_wp2_with fail
  refine (HR.out _).mono ?_
  rintro e w5 ⟨rfl, hb5⟩
  have x0_5 : w5.cell? ⟨w3.heap.size, 0, none⟩ = some (.int .i64 m) := carry hb5 (by go_simp)
  have x1_5 : w5.cell? ⟨w3.heap.size, 1, none⟩ = some (.int .i64 e) := carry hb5 (by go_simp)
  have xz_5 : w3.heap.size < w5.heap.size := by have := hb5.size; first | omega | (simp at this; omega)
  have HB_5 := Lib.hid ((by repeat (first | exact HB_4.out | refine Below.drew ?_ | refine Below.setCell ?_ (by first | omega | (simp; done) | (simp; omega)) _ | refine Below.alloc ?_ (by first | omega | (simp; done) | (simp; omega)) _) : Below w.heap.size w _).trans (hb5.mono (by first | omega | (simp; done) | (simp; omega))))
  have nz_5 : w.heap.size ≤ w5.heap.size := HB_5.out.size
  clear hb5 x0_4 x1_4 HB_4
  go_wp2_with fail
  refine (HN.out _).mono ?_
  rintro e w6 ⟨rfl, hb6⟩
  have x0_6 : w6.cell? ⟨w3.heap.size, 0, none⟩ = some (.int .i64 m) := carry hb6 (by go_simp)
  have x1_6 : w6.cell? ⟨w3.heap.size, 1, none⟩ = some (.int .i64 e) := carry hb6 (by go_simp)
  have xz_6 : w3.heap.size < w6.heap.size := by have := hb6.size; first | omega | (simp at this; omega)
  have HB_6 := Lib.hid ((by repeat (first | exact HB_5.out | refine Below.drew ?_ | refine Below.setCell ?_ (by first | omega | (simp; done) | (simp; omega)) _ | refine Below.alloc ?_ (by first | omega | (simp; done) | (simp; omega)) _) : Below w.heap.size w _).trans (hb6.mono (by first | omega | (simp; done) | (simp; omega))))
  have nz_6 : w.heap.size ≤ w6.heap.size := HB_6.out.size
  clear hb6 x0_5 x1_5 HB_5
  go_wp2_with fail
  refine (HC.out _).mono ?_
  rintro e w7 ⟨rfl, hb7⟩
  have x0_7 : w7.cell? ⟨w3.heap.size, 0, none⟩ = some (.int .i64 m) := carry hb7 (by go_simp)
  have x1_7 : w7.cell? ⟨w3.heap.size, 1, none⟩ = some (.int .i64 e) := carry hb7 (by go_simp)
  have xz_7 : w3.heap.size < w7.heap.size := by have := hb7.size; first | omega | (simp at this; omega)
  have y0_7 : w7.cell? ⟨w6.heap.size, 0, none⟩ = some (.int .i64 mm) := carry hb7 (by go_simp)
  have y1_7 : w7.cell? ⟨w6.heap.size, 1, none⟩ = some (.int .i64 e) := carry hb7 (by go_simp)
  have yz_7 : w6.heap.size < w7.heap.size := by have := hb7.size; first | omega | (simp at this; omega)
  have HB_7 := Lib.hid ((by repeat (first | exact HB_6.out | refine Below.drew ?_ | refine Below.setCell ?_ (by first | omega | (simp; done) | (simp; omega)) _ | refine Below.alloc ?_ (by first | omega | (simp; done) | (simp; omega)) _) : Below w.heap.size w _).trans (hb7.mono (by first | omega | (simp; done) | (simp; omega))))
  have nz_7 : w.heap.size ≤ w7.heap.size := HB_7.out.size
  clear hb7 x0_6 x1_6 HB_6
  go_wp2_with fail
  have HBB := HB_7
  have HB0 := HB_7
  have c0_0 := x0_7
  have c0_1 := x1_7
  have z0 := xz_7
  clear HB_7 x0_7 x1_7 xz_7 y0_7 y1_7 yz_7 xz_4 xz_5 xz_6 nz_1 nz_2 nz_4 nz_5 nz_6 nz_7
  go_region_held3 (fun wx => wx.cell? ⟨w3.heap.size, 0, none⟩ = some (.int .i64 m) ∧ wx.cell? ⟨w3.heap.size, 1, none⟩ = some (.int .i64 e) ∧ w3.heap.size < wx.heap.size ∧ Below w.heap.size w wx) (first | (go_keep; done) | ((try go_split_ands); (repeat' apply And.intro) <;> first | with_reducible assumption | (exact carry hbq (by with_reducible assumption)) | (exact carryF hbq (by with_reducible assumption) (by with_reducible assumption)) | (go_simp; done) | (simp only [World.size_alloc, World.size_drew]; omega) | (with_reducible exact HB0.out.drew) | (with_reducible exact HB0.out) | (with_reducible exact Below.drew (by with_reducible assumption)) | (exact Nat.lt_of_lt_of_le (by first | with_reducible assumption | (simp <;> omega)) hbq.size) | (simp <;> omega) | (exact Below.trans (by with_reducible assumption) (hbq.mono (by first | omega | (simp <;> omega))))))
  (first
      | (go_at_call 19; ((with_reducible refine (HF2.out _).mono ?_); rintro r wq ⟨rfl, hbq⟩))
      | (go_at_call 14; ((with_reducible refine (HL.out _).mono ?_); rintro r wq ⟨rfl, hbq⟩)))
  rename _ ∧ _ ∧ _ ∧ Below w.heap.size w _ => hS
  obtain ⟨x0, x1, xz, xb⟩ := hS
  have HBX := Lib.hid xb
  clear xb HB0 HBB c0_0 c0_1 z0
  have HBB := HBX
  have HB0 := HBB
  have c0_0 := x0
  have c0_1 := x1
  have z0 := xz
  clear HBX x0 x1 xz
  go_wp2_with fail
  have hp1 : IntKind.i64.wrap (p + 1) = p + 1 := HP1.out
  go_region_held3 (fun wx => wx.cell? ⟨w3.heap.size, 0, none⟩ = some (.int .i64 m) ∧ wx.cell? ⟨w3.heap.size, 1, none⟩ = some (.int .i64 e) ∧ w3.heap.size < wx.heap.size ∧ Below w.heap.size w wx) (first | (go_keep; done) | ((try go_split_ands); (repeat' apply And.intro) <;> first | with_reducible assumption | (exact carry hbq (by with_reducible assumption)) | (exact carryF hbq (by with_reducible assumption) (by with_reducible assumption)) | (go_simp; done) | (simp only [World.size_alloc, World.size_drew]; omega) | (with_reducible exact HB0.out.drew) | (with_reducible exact HB0.out) | (with_reducible exact Below.drew (by with_reducible assumption)) | (exact Nat.lt_of_lt_of_le (by first | with_reducible assumption | (simp <;> omega)) hbq.size) | (simp <;> omega) | (exact Below.trans (by with_reducible assumption) (hbq.mono (by first | omega | (simp <;> omega))))))
  (first
      | (go_at_call 19; ((with_reducible refine (HF3.out _).mono ?_); rintro r wq ⟨rfl, hbq⟩))
      | (go_at_call 14; ((with_reducible refine (HH.out _).mono ?_); rintro r wq ⟨rfl, hbq⟩)))
  rename _ ∧ _ ∧ _ ∧ Below w.heap.size w _ => hS
  obtain ⟨x0, x1, xz, xb⟩ := hS
  have HBX := Lib.hid xb
  clear xb HB0 HBB c0_0 c0_1 z0
  have HBB := HBX
  have HB0 := HBB
  have c0_0 := x0
  have c0_1 := x1
  have z0 := xz
  clear HBX x0 x1 xz
  go_wp2_with fail
  clear hp1
  obtain ⟨w8, rfl⟩ : ∃ x, x = wq := ⟨_, rfl⟩
  have K0 := Lib.hid (Below.refl w8.heap.size w8)
  have SK := Lib.hid (show ∀ wx, Below w8.heap.size w8 wx → wx.cell? ⟨w3.heap.size, 0, none⟩ = some (.int .i64 m) ∧ wx.cell? ⟨w3.heap.size, 1, none⟩ = some (.int .i64 e) ∧ w8.heap.size ≤ wx.heap.size ∧ Below w8.heap.size w8 wx from fun wx h => ⟨carry h c0_0, carry h c0_1, h.size, h⟩)
  go_region_held3 (fun wx => wx.cell? ⟨w3.heap.size, 0, none⟩ = some (.int .i64 m) ∧ wx.cell? ⟨w3.heap.size, 1, none⟩ = some (.int .i64 e) ∧ w8.heap.size ≤ wx.heap.size ∧ Below w8.heap.size w8 wx) (((try go_split_ands); exact SK.out _ (by repeat (first | with_reducible assumption | with_reducible exact K0.out | with_reducible refine Below.drew ?_ | with_reducible refine Below.setCell ?_ (by first | with_reducible exact Nat.le_refl _ | with_reducible assumption | (simp; done) | (simp <;> omega) | (have := hbq.size; simp at this ⊢; omega)) _ | with_reducible refine Below.alloc ?_ (by first | with_reducible exact Nat.le_refl _ | with_reducible assumption | (simp; done) | (simp <;> omega) | (have := hbq.size; simp at this ⊢; omega)) _))))
  (first
      | (go_at_call 19; ((with_reducible refine (HF2.out _).mono ?_); rintro r wF ⟨rfl, hbq⟩; have hbw : Below w8.heap.size w8 wF := (by first | exact K0.out.drew.trans hbq | exact K0.out.trans hbq | exact (K0.out.alloc (Nat.le_refl _) _).drew.trans (hbq.mono (by simp)) | exact (K0.out.drew.alloc (Nat.le_refl _) _).trans (hbq.mono (by simp)) | exact (K0.out.alloc (Nat.le_refl _) _).trans (hbq.mono (by simp))); have hzw : w8.heap.size ≤ wF.heap.size := hbw.size; try (have qq := carry_two hbq; obtain ⟨q0, q1, t0, t1, tz⟩ := qq); try (have qq := carry_two' hbq; obtain ⟨q0, q1, t0, t1, tz⟩ := qq)))
      | (go_at_call 22; ((with_reducible refine (HD.out _).mono ?_); rintro r wS ⟨rfl, hbq⟩; have qq := carry_two' hbq; obtain ⟨q0, q1, t0, t1, tz⟩ := qq; have hbv : Below w8.heap.size w8 wS := (hbw.alloc hzw _).trans (hbq.mono (by simp <;> omega)); have hzv : w8.heap.size ≤ wS.heap.size := hbv.size))
      | (go_at_call 22; ((with_reducible refine (HD.out _).mono ?_); rintro r wS ⟨rfl, hbq⟩; have p0 := carry hbq q0; have p1 := carry hbq q1; have s0 := carryF hbq q0 t0; have s1 := carryF hbq q1 t1; have sz := Nat.lt_of_lt_of_le tz hbq.size; have hbv : Below w8.heap.size w8 wS := hbw.trans (hbq.mono hzw); have hzv : w8.heap.size ≤ wS.heap.size := hbv.size))
      | (go_at_call 22; ((with_reducible refine (HD.out _).mono ?_); rintro r wS ⟨rfl, hbq⟩; have hbv : Below w8.heap.size w8 wS := hbw.trans (hbq.mono hzw); have hzv : w8.heap.size ≤ wS.heap.size := hbv.size)))
  · have HBS := Lib.hid (HBB.out.trans (hbv.mono HBB.out.size))
    have hw8 := HBB.out.size
    have hwS := HBS.out.size
    generalize hW : wS.alloc _ = w9
    have d0 : w9.cell? ⟨wS.heap.size, 0, none⟩ = some (.int .i64 d) := by rw [← hW]; clear hW; go_simp
    have d1 : w9.cell? ⟨wS.heap.size, 1, none⟩ = some (.int .i64 g) := by rw [← hW]; clear hW; go_simp
    have zd : wS.heap.size < w9.heap.size := by rw [← hW]; clear hW; simp <;> omega
    have HBX := Lib.hid ((by rw [← hW]; clear hW; have HBB := HBS; repeat (first | with_reducible exact HBB.out | with_reducible exact Below.refl _ _ | with_reducible refine Below.drew ?_ | with_reducible refine belowN ?_ _ | with_reducible refine Below.setCell ?_ (by first | omega | (simp; done) | (simp; omega)) _ | with_reducible refine Below.alloc ?_ (by first | omega | (simp; done) | (simp; omega)) _)) : Below w.heap.size w w9)
    clear hW
    have hb9 : w.heap.size ≤ wS.heap.size := by omega
    generalize wS.heap.size = b9 at d0 d1 zd hb9 ⊢
    clear HBS hw8 hwS HBB HB0 c0_0 c0_1 z0 K0 SK
    have hn := HBX.out.size
    have HB0 := HBX
    have HBB := HBX
    clear HBX
    go_wp2_with fail
    go_region_held3 (fun wx => wx.cell? ⟨b9, 0, none⟩ = some (.int .i64 d) ∧ wx.cell? ⟨b9, 1, none⟩ = some (.int .i64 g) ∧ b9 < wx.heap.size ∧ Below w.heap.size w wx) (first | (go_keep; done) | ((try go_split_ands); (repeat' apply And.intro) <;> first | with_reducible assumption | (exact carry hbq (by with_reducible assumption)) | (exact carryF hbq (by with_reducible assumption) (by with_reducible assumption)) | (go_simp; done) | (simp only [World.size_alloc, World.size_drew]; omega) | (with_reducible exact HB0.out.drew) | (with_reducible exact HB0.out) | (with_reducible exact Below.drew (by with_reducible assumption)) | (exact Nat.lt_of_lt_of_le (by first | with_reducible assumption | (simp <;> omega)) hbq.size) | (simp <;> omega) | (exact Below.trans (by with_reducible assumption) (hbq.mono (by first | omega | (simp <;> omega))))))
    (first
        | (go_at_call 23; ((with_reducible refine (H2.out _).mono ?_); rintro r wq ⟨rfl, hbq⟩))
        | (go_at_call 14; ((with_reducible refine (HX.out _).mono ?_); rintro r wq ⟨rfl, hbq⟩)))
    rename _ ∧ _ ∧ _ ∧ Below w.heap.size w _ => hS
    have HBY := Lib.hid hS.2.2.2
    clear hS HB0 HBB d0 d1 zd
    have HBB := HBY
    clear HBY
    go_wp2_with fail
    refine (HSan.out _ (by repeat (first | with_reducible exact HBB.out | with_reducible exact Below.refl _ _ | with_reducible refine Below.drew ?_ | with_reducible refine belowN ?_ _ | with_reducible refine Below.setCell ?_ (by first | omega | (simp; done) | (simp; omega)) _ | with_reducible refine Below.alloc ?_ (by first | omega | (simp; done) | (simp; omega)) _))).mono ?_
    rintro r wz ⟨rfl, hbz⟩
    have HBZ := Lib.hid ((by repeat (first | with_reducible exact HBB.out | with_reducible exact Below.refl _ _ | with_reducible refine Below.drew ?_ | with_reducible refine belowN ?_ _ | with_reducible refine Below.setCell ?_ (by first | omega | (simp; done) | (simp; omega)) _ | with_reducible refine Below.alloc ?_ (by first | omega | (simp; done) | (simp; omega)) _) : Below w.heap.size w _).trans (hbz.mono (by have := HBB.out.size; first | omega | (simp <;> omega))))
    clear hbz
    go_wp2_with fail
    go_ret
    exact ⟨rfl, HBZ.out⟩
  · have HBS := Lib.hid (HBB.out.trans (hbv.mono HBB.out.size))
    have hw8 := HBB.out.size
    have hwS := HBS.out.size
    generalize hW : (wS.setCell _ _).setCell _ _ = w9
    have d0 : w9.cell? ⟨wF.heap.size, 0, none⟩ = some (.int .i64 d) := by rw [← hW]; clear hW; go_simp
    have d1 : w9.cell? ⟨wF.heap.size, 1, none⟩ = some (.int .i64 g) := by rw [← hW]; clear hW; go_simp
    have zd : wF.heap.size < w9.heap.size := by rw [← hW]; clear hW; simp <;> omega
    have HBX := Lib.hid ((by rw [← hW]; clear hW; have HBB := HBS; repeat (first | with_reducible exact HBB.out | with_reducible exact Below.refl _ _ | with_reducible refine Below.drew ?_ | with_reducible refine belowN ?_ _ | with_reducible refine Below.setCell ?_ (by first | omega | (simp; done) | (simp; omega)) _ | with_reducible refine Below.alloc ?_ (by first | omega | (simp; done) | (simp; omega)) _)) : Below w.heap.size w w9)
    clear hW
    have hb9 : w.heap.size ≤ wF.heap.size := by omega
    generalize wF.heap.size = b9 at d0 d1 zd hb9 ⊢
    clear HBS hw8 hwS HBB HB0 c0_0 c0_1 z0 K0 SK
    have hn := HBX.out.size
    have HB0 := HBX
    have HBB := HBX
    clear HBX
    go_wp2_with fail
    go_region_held3 (fun wx => wx.cell? ⟨b9, 0, none⟩ = some (.int .i64 d) ∧ wx.cell? ⟨b9, 1, none⟩ = some (.int .i64 g) ∧ b9 < wx.heap.size ∧ Below w.heap.size w wx) (first | (go_keep; done) | ((try go_split_ands); (repeat' apply And.intro) <;> first | with_reducible assumption | (exact carry hbq (by with_reducible assumption)) | (exact carryF hbq (by with_reducible assumption) (by with_reducible assumption)) | (go_simp; done) | (simp only [World.size_alloc, World.size_drew]; omega) | (with_reducible exact HB0.out.drew) | (with_reducible exact HB0.out) | (with_reducible exact Below.drew (by with_reducible assumption)) | (exact Nat.lt_of_lt_of_le (by first | with_reducible assumption | (simp <;> omega)) hbq.size) | (simp <;> omega) | (exact Below.trans (by with_reducible assumption) (hbq.mono (by first | omega | (simp <;> omega))))))
    (first
        | (go_at_call 23; ((with_reducible refine (H2.out _).mono ?_); rintro r wq ⟨rfl, hbq⟩))
        | (go_at_call 14; ((with_reducible refine (HX.out _).mono ?_); rintro r wq ⟨rfl, hbq⟩)))
    rename _ ∧ _ ∧ _ ∧ Below w.heap.size w _ => hS
    have HBY := Lib.hid hS.2.2.2
    clear hS HB0 HBB d0 d1 zd
    have HBB := HBY
    clear HBY
    go_wp2_with fail
    refine (HSan.out _ (by repeat (first | with_reducible exact HBB.out | with_reducible exact Below.refl _ _ | with_reducible refine Below.drew ?_ | with_reducible refine belowN ?_ _ | with_reducible refine Below.setCell ?_ (by first | omega | (simp; done) | (simp; omega)) _ | with_reducible refine Below.alloc ?_ (by first | omega | (simp; done) | (simp; omega)) _))).mono ?_
    rintro r wz ⟨rfl, hbz⟩
    have HBZ := Lib.hid ((by repeat (first | with_reducible exact HBB.out | with_reducible exact Below.refl _ _ | with_reducible refine Below.drew ?_ | with_reducible refine belowN ?_ _ | with_reducible refine Below.setCell ?_ (by first | omega | (simp; done) | (simp; omega)) _ | with_reducible refine Below.alloc ?_ (by first | omega | (simp; done) | (simp; omega)) _) : Below w.heap.size w _).trans (hbz.mono (by have := HBB.out.size; first | omega | (simp <;> omega))))
    clear hbz
    go_wp2_with fail
    go_ret
    exact ⟨rfl, HBZ.out⟩
  · have HBS := Lib.hid (HBB.out.trans (hbv.mono HBB.out.size))
    have hw8 := HBB.out.size
    have hwS := HBS.out.size
    generalize hW : (wS.setCell _ _).setCell _ _ = w9
    have d0 : w9.cell? ⟨w8.heap.size, 0, none⟩ = some (.int .i64 d) := by rw [← hW]; clear hW; go_simp
    have d1 : w9.cell? ⟨w8.heap.size, 1, none⟩ = some (.int .i64 g) := by rw [← hW]; clear hW; go_simp
    have zd : w8.heap.size < w9.heap.size := by rw [← hW]; clear hW; simp <;> omega
    have HBX := Lib.hid ((by rw [← hW]; clear hW; have HBB := HBS; repeat (first | with_reducible exact HBB.out | with_reducible exact Below.refl _ _ | with_reducible refine Below.drew ?_ | with_reducible refine belowN ?_ _ | with_reducible refine Below.setCell ?_ (by first | omega | (simp; done) | (simp; omega)) _ | with_reducible refine Below.alloc ?_ (by first | omega | (simp; done) | (simp; omega)) _)) : Below w.heap.size w w9)
    clear hW
    have hb9 : w.heap.size ≤ w8.heap.size := by omega
    generalize w8.heap.size = b9 at d0 d1 zd hb9 ⊢
    clear HBS hw8 hwS HBB HB0 c0_0 c0_1 z0 K0 SK
    have hn := HBX.out.size
    have HB0 := HBX
    have HBB := HBX
    clear HBX
    go_wp2_with fail
    go_region_held3 (fun wx => wx.cell? ⟨b9, 0, none⟩ = some (.int .i64 d) ∧ wx.cell? ⟨b9, 1, none⟩ = some (.int .i64 g) ∧ b9 < wx.heap.size ∧ Below w.heap.size w wx) (first | (go_keep; done) | ((try go_split_ands); (repeat' apply And.intro) <;> first | with_reducible assumption | (exact carry hbq (by with_reducible assumption)) | (exact carryF hbq (by with_reducible assumption) (by with_reducible assumption)) | (go_simp; done) | (simp only [World.size_alloc, World.size_drew]; omega) | (with_reducible exact HB0.out.drew) | (with_reducible exact HB0.out) | (with_reducible exact Below.drew (by with_reducible assumption)) | (exact Nat.lt_of_lt_of_le (by first | with_reducible assumption | (simp <;> omega)) hbq.size) | (simp <;> omega) | (exact Below.trans (by with_reducible assumption) (hbq.mono (by first | omega | (simp <;> omega))))))
    (first
        | (go_at_call 23; ((with_reducible refine (H2.out _).mono ?_); rintro r wq ⟨rfl, hbq⟩))
        | (go_at_call 14; ((with_reducible refine (HX.out _).mono ?_); rintro r wq ⟨rfl, hbq⟩)))
    rename _ ∧ _ ∧ _ ∧ Below w.heap.size w _ => hS
    have HBY := Lib.hid hS.2.2.2
    clear hS HB0 HBB d0 d1 zd
    have HBB := HBY
    clear HBY
    go_wp2_with fail
    refine (HSan.out _ (by repeat (first | with_reducible exact HBB.out | with_reducible exact Below.refl _ _ | with_reducible refine Below.drew ?_ | with_reducible refine belowN ?_ _ | with_reducible refine Below.setCell ?_ (by first | omega | (simp; done) | (simp; omega)) _ | with_reducible refine Below.alloc ?_ (by first | omega | (simp; done) | (simp; omega)) _))).mono ?_
    rintro r wz ⟨rfl, hbz⟩
    have HBZ := Lib.hid ((by repeat (first | with_reducible exact HBB.out | with_reducible exact Below.refl _ _ | with_reducible refine Below.drew ?_ | with_reducible refine belowN ?_ _ | with_reducible refine Below.setCell ?_ (by first | omega | (simp; done) | (simp; omega)) _ | with_reducible refine Below.alloc ?_ (by first | omega | (simp; done) | (simp; omega)) _) : Below w.heap.size w _).trans (hbz.mono (by have := HBB.out.size; first | omega | (simp <;> omega))))
    clear hbz
    go_wp2_with fail
    go_ret
    exact ⟨rfl, HBZ.out⟩

set_option maxRecDepth 100000 in
set_option maxHeartbeats 8000000 in
theorem c9 (n0 i0 n k f m e mm p s u k2 f2 k3 f3 lo d g : Int) (w : World) (hn : n0.tmod 16777217 = n) (HF1 : Hid (∀ W : World, Calls Tryz.prog 19 #[.int .i64 n] W fun r w' => r = .returned (realV k f) ∧ Below W.heap.size W w')) (HE1 : Hid (∀ W : World, Calls Tryz.prog 18 #[realV k f] W fun r w' => r = .returned (iE n 0) ∧ Below W.heap.size W w')) (HA : Hid (∀ W : World, Calls Tryz.prog 12 #[.int .i64 i0] W fun r w' => r = .returned (realV m e) ∧ Below W.heap.size W w')) (HE : Hid (∀ W : World, Calls Tryz.prog 18 #[realV m e] W fun r w' => r = .returned (iE p 0) ∧ Below W.heap.size W w')) (HR : Hid (∀ W : World, Calls Tryz.prog 20 #[realV m e] W fun r w' => r = .returned (iE s 0) ∧ Below W.heap.size W w')) (HN : Hid (∀ W : World, Calls Tryz.prog 21 #[realV m e] W fun r w' => r = .returned (rE mm e 0) ∧ Below W.heap.size W w')) (HC : Hid (∀ W : World, Calls Tryz.prog 20 #[realV mm e] W fun r w' => r = .returned (iE u 0) ∧ Below W.heap.size W w')) (HSan : Hid (∀ W, Below w.heap.size w W → Calls Tryz.prog 17 #[] W fun r W' => r = .returned (.bool true) ∧ Below W.heap.size W W')) (HF2 : Hid (∀ W : World, Calls Tryz.prog 19 #[.int .i64 p] W fun r w' => r = .returned (realV k2 f2) ∧ Below W.heap.size W w')) (HF3 : Hid (∀ W : World, Calls Tryz.prog 19 #[.int .i64 (p + 1)] W fun r w' => r = .returned (realV k3 f3) ∧ Below W.heap.size W w')) (HL : Hid (∀ W : World, Calls Tryz.prog 14 #[realV k2 f2, realV m e] W fun r w' => r = .returned (iE lo 0) ∧ Below W.heap.size W w')) (HH : Hid (∀ W : World, Calls Tryz.prog 14 #[realV m e, realV k3 f3] W fun r w' => r = .returned (iE (-1) 0) ∧ Below W.heap.size W w')) (HD : Hid (∀ W : World, Calls Tryz.prog 22 #[realV m e, realV k2 f2] W fun r w' => r = .returned (rE d g 0) ∧ Below W.heap.size W w')) (H2 : Hid (∀ W : World, Calls Tryz.prog 23 #[.int .i64 (-1)] W fun r w' => r = .returned (realV 8388608 (-24)) ∧ Below W.heap.size W w')) (HX : Hid (∀ W : World, Calls Tryz.prog 14 #[realV d g, realV 8388608 (-24)] W fun r w' => r = .returned (iE 1 0) ∧ Below W.heap.size W w')) (HP1 : Hid (IntKind.i64.wrap (p + 1) = p + 1)) (r1 : decide (p < -8388608) = false) (r2 : decide (8388608 ≤ p) = false) (l1 : decide (0 < lo) = false) (s0 : ¬ s = p) (s1 : (s != p) = true) (s2 : (s != wrap64 (p + 1)) = false) (t1 : (s == wrap64 (p + 1)) = true) (t2 : (u == wrap64 (-s)) = true) :
    Calls Tryz.prog 4 #[.int .i64 i0, .int .i64 n0] w fun r w' => r = .returned (.bool true) ∧ Below w.heap.size w w' := by
  go_enter Tryz.func4, Tryz.ntmps4
  go_wp2_with fail
  clear hn
  refine (HF1.out _).mono ?_
  rintro e w1 ⟨rfl, hb1⟩
  have HB_1 := Lib.hid ((by repeat (first | exact Below.refl _ _ | refine Below.drew ?_ | refine Below.setCell ?_ (by first | omega | (simp; done) | (simp; omega)) _ | refine Below.alloc ?_ (by first | omega | (simp; done) | (simp; omega)) _) : Below w.heap.size w _).trans (hb1.mono (by first | omega | (simp; done) | (simp; omega))))
  have nz_1 : w.heap.size ≤ w1.heap.size := HB_1.out.size
  clear hb1
  go_wp2_with fail
  refine (HE1.out _).mono ?_
  rintro e w2 ⟨rfl, hb2⟩
  have HB_2 := Lib.hid ((by repeat (first | exact HB_1.out | refine Below.drew ?_ | refine Below.setCell ?_ (by first | omega | (simp; done) | (simp; omega)) _ | refine Below.alloc ?_ (by first | omega | (simp; done) | (simp; omega)) _) : Below w.heap.size w _).trans (hb2.mono (by first | omega | (simp; done) | (simp; omega))))
  have nz_2 : w.heap.size ≤ w2.heap.size := HB_2.out.size
  clear hb2 HB_1
  go_wp2_with fail
  refine (HA.out _).mono ?_
  rintro e w3 ⟨rfl, hb3⟩
  have HB_3 := Lib.hid ((by repeat (first | exact HB_2.out | refine Below.drew ?_ | refine Below.setCell ?_ (by first | omega | (simp; done) | (simp; omega)) _ | refine Below.alloc ?_ (by first | omega | (simp; done) | (simp; omega)) _) : Below w.heap.size w _).trans (hb3.mono (by first | omega | (simp; done) | (simp; omega))))
  have nz_3 : w.heap.size ≤ w3.heap.size := HB_3.out.size
  clear hb3 HB_2
  go_wp2_with fail
  refine (HE.out _).mono ?_
  rintro e w4 ⟨rfl, hb4⟩
  have x0_4 : w4.cell? ⟨w3.heap.size, 0, none⟩ = some (.int .i64 m) := carry hb4 (by go_simp)
  have x1_4 : w4.cell? ⟨w3.heap.size, 1, none⟩ = some (.int .i64 e) := carry hb4 (by go_simp)
  have xz_4 : w3.heap.size < w4.heap.size := by have := hb4.size; first | omega | (simp at this; omega)
  have HB_4 := Lib.hid ((by repeat (first | exact HB_3.out | refine Below.drew ?_ | refine Below.setCell ?_ (by first | omega | (simp; done) | (simp; omega)) _ | refine Below.alloc ?_ (by first | omega | (simp; done) | (simp; omega)) _) : Below w.heap.size w _).trans (hb4.mono (by first | omega | (simp; done) | (simp; omega))))
  have nz_4 : w.heap.size ≤ w4.heap.size := HB_4.out.size
  clear hb4 HB_3
  go_wp2_with fail
  refine (HR.out _).mono ?_
  rintro e w5 ⟨rfl, hb5⟩
  have x0_5 : w5.cell? ⟨w3.heap.size, 0, none⟩ = some (.int .i64 m) := carry hb5 (by go_simp)
  have x1_5 : w5.cell? ⟨w3.heap.size, 1, none⟩ = some (.int .i64 e) := carry hb5 (by go_simp)
  have xz_5 : w3.heap.size < w5.heap.size := by have := hb5.size; first | omega | (simp at this; omega)
  have HB_5 := Lib.hid ((by repeat (first | exact HB_4.out | refine Below.drew ?_ | refine Below.setCell ?_ (by first | omega | (simp; done) | (simp; omega)) _ | refine Below.alloc ?_ (by first | omega | (simp; done) | (simp; omega)) _) : Below w.heap.size w _).trans (hb5.mono (by first | omega | (simp; done) | (simp; omega))))
  have nz_5 : w.heap.size ≤ w5.heap.size := HB_5.out.size
  clear hb5 x0_4 x1_4 HB_4
  go_wp2_with fail
  refine (HN.out _).mono ?_
  rintro e w6 ⟨rfl, hb6⟩
  have x0_6 : w6.cell? ⟨w3.heap.size, 0, none⟩ = some (.int .i64 m) := carry hb6 (by go_simp)
  have x1_6 : w6.cell? ⟨w3.heap.size, 1, none⟩ = some (.int .i64 e) := carry hb6 (by go_simp)
  have xz_6 : w3.heap.size < w6.heap.size := by have := hb6.size; first | omega | (simp at this; omega)
  have HB_6 := Lib.hid ((by repeat (first | exact HB_5.out | refine Below.drew ?_ | refine Below.setCell ?_ (by first | omega | (simp; done) | (simp; omega)) _ | refine Below.alloc ?_ (by first | omega | (simp; done) | (simp; omega)) _) : Below w.heap.size w _).trans (hb6.mono (by first | omega | (simp; done) | (simp; omega))))
  have nz_6 : w.heap.size ≤ w6.heap.size := HB_6.out.size
  clear hb6 x0_5 x1_5 HB_5
  go_wp2_with fail
  refine (HC.out _).mono ?_
  rintro e w7 ⟨rfl, hb7⟩
  have x0_7 : w7.cell? ⟨w3.heap.size, 0, none⟩ = some (.int .i64 m) := carry hb7 (by go_simp)
  have x1_7 : w7.cell? ⟨w3.heap.size, 1, none⟩ = some (.int .i64 e) := carry hb7 (by go_simp)
  have xz_7 : w3.heap.size < w7.heap.size := by have := hb7.size; first | omega | (simp at this; omega)
  have y0_7 : w7.cell? ⟨w6.heap.size, 0, none⟩ = some (.int .i64 mm) := carry hb7 (by go_simp)
  have y1_7 : w7.cell? ⟨w6.heap.size, 1, none⟩ = some (.int .i64 e) := carry hb7 (by go_simp)
  have yz_7 : w6.heap.size < w7.heap.size := by have := hb7.size; first | omega | (simp at this; omega)
  have HB_7 := Lib.hid ((by repeat (first | exact HB_6.out | refine Below.drew ?_ | refine Below.setCell ?_ (by first | omega | (simp; done) | (simp; omega)) _ | refine Below.alloc ?_ (by first | omega | (simp; done) | (simp; omega)) _) : Below w.heap.size w _).trans (hb7.mono (by first | omega | (simp; done) | (simp; omega))))
  have nz_7 : w.heap.size ≤ w7.heap.size := HB_7.out.size
  clear hb7 x0_6 x1_6 HB_6
  go_wp2_with fail
  have HBB := HB_7
  have HB0 := HB_7
  have c0_0 := x0_7
  have c0_1 := x1_7
  have z0 := xz_7
  clear HB_7 x0_7 x1_7 xz_7 y0_7 y1_7 yz_7 xz_4 xz_5 xz_6 nz_1 nz_2 nz_4 nz_5 nz_6 nz_7
  go_region_held3 (fun wx => wx.cell? ⟨w3.heap.size, 0, none⟩ = some (.int .i64 m) ∧ wx.cell? ⟨w3.heap.size, 1, none⟩ = some (.int .i64 e) ∧ w3.heap.size < wx.heap.size ∧ Below w.heap.size w wx) (first | (go_keep; done) | ((try go_split_ands); (repeat' apply And.intro) <;> first | with_reducible assumption | (exact carry hbq (by with_reducible assumption)) | (exact carryF hbq (by with_reducible assumption) (by with_reducible assumption)) | (go_simp; done) | (simp only [World.size_alloc, World.size_drew]; omega) | (with_reducible exact HB0.out.drew) | (with_reducible exact HB0.out) | (with_reducible exact Below.drew (by with_reducible assumption)) | (exact Nat.lt_of_lt_of_le (by first | with_reducible assumption | (simp <;> omega)) hbq.size) | (simp <;> omega) | (exact Below.trans (by with_reducible assumption) (hbq.mono (by first | omega | (simp <;> omega))))))
  (first
      | (go_at_call 19; ((with_reducible refine (HF2.out _).mono ?_); rintro r wq ⟨rfl, hbq⟩))
      | (go_at_call 14; ((with_reducible refine (HL.out _).mono ?_); rintro r wq ⟨rfl, hbq⟩)))
  rename _ ∧ _ ∧ _ ∧ Below w.heap.size w _ => hS
  obtain ⟨x0, x1, xz, xb⟩ := hS
  have HBX := Lib.hid xb
  clear xb HB0 HBB c0_0 c0_1 z0
  have HBB := HBX
  have HB0 := HBB
  have c0_0 := x0
  have c0_1 := x1
  have z0 := xz
  clear HBX x0 x1 xz
  go_wp2_with fail
  have hp1 : IntKind.i64.wrap (p + 1) = p + 1 := HP1.out
  go_region_held3 (fun wx => wx.cell? ⟨w3.heap.size, 0, none⟩ = some (.int .i64 m) ∧ wx.cell? ⟨w3.heap.size, 1, none⟩ = some (.int .i64 e) ∧ w3.heap.size < wx.heap.size ∧ Below w.heap.size w wx) (first | (go_keep; done) | ((try go_split_ands); (repeat' apply And.intro) <;> first | with_reducible assumption | (exact carry hbq (by with_reducible assumption)) | (exact carryF hbq (by with_reducible assumption) (by with_reducible assumption)) | (go_simp; done) | (simp only [World.size_alloc, World.size_drew]; omega) | (with_reducible exact HB0.out.drew) | (with_reducible exact HB0.out) | (with_reducible exact Below.drew (by with_reducible assumption)) | (exact Nat.lt_of_lt_of_le (by first | with_reducible assumption | (simp <;> omega)) hbq.size) | (simp <;> omega) | (exact Below.trans (by with_reducible assumption) (hbq.mono (by first | omega | (simp <;> omega))))))
  (first
      | (go_at_call 19; ((with_reducible refine (HF3.out _).mono ?_); rintro r wq ⟨rfl, hbq⟩))
      | (go_at_call 14; ((with_reducible refine (HH.out _).mono ?_); rintro r wq ⟨rfl, hbq⟩)))
  rename _ ∧ _ ∧ _ ∧ Below w.heap.size w _ => hS
  obtain ⟨x0, x1, xz, xb⟩ := hS
  have HBX := Lib.hid xb
  clear xb HB0 HBB c0_0 c0_1 z0
  have HBB := HBX
  have HB0 := HBB
  have c0_0 := x0
  have c0_1 := x1
  have z0 := xz
  clear HBX x0 x1 xz
  go_wp2_with fail
  clear hp1
  obtain ⟨w8, rfl⟩ : ∃ x, x = wq := ⟨_, rfl⟩
  have K0 := Lib.hid (Below.refl w8.heap.size w8)
  have SK := Lib.hid (show ∀ wx, Below w8.heap.size w8 wx → wx.cell? ⟨w3.heap.size, 0, none⟩ = some (.int .i64 m) ∧ wx.cell? ⟨w3.heap.size, 1, none⟩ = some (.int .i64 e) ∧ w8.heap.size ≤ wx.heap.size ∧ Below w8.heap.size w8 wx from fun wx h => ⟨carry h c0_0, carry h c0_1, h.size, h⟩)
  go_region_held3 (fun wx => wx.cell? ⟨w3.heap.size, 0, none⟩ = some (.int .i64 m) ∧ wx.cell? ⟨w3.heap.size, 1, none⟩ = some (.int .i64 e) ∧ w8.heap.size ≤ wx.heap.size ∧ Below w8.heap.size w8 wx) (((try go_split_ands); exact SK.out _ (by repeat (first | with_reducible assumption | with_reducible exact K0.out | with_reducible refine Below.drew ?_ | with_reducible refine Below.setCell ?_ (by first | with_reducible exact Nat.le_refl _ | with_reducible assumption | (simp; done) | (simp <;> omega) | (have := hbq.size; simp at this ⊢; omega)) _ | with_reducible refine Below.alloc ?_ (by first | with_reducible exact Nat.le_refl _ | with_reducible assumption | (simp; done) | (simp <;> omega) | (have := hbq.size; simp at this ⊢; omega)) _))))
  (first
      | (go_at_call 19; ((with_reducible refine (HF2.out _).mono ?_); rintro r wF ⟨rfl, hbq⟩; have hbw : Below w8.heap.size w8 wF := (by first | exact K0.out.drew.trans hbq | exact K0.out.trans hbq | exact (K0.out.alloc (Nat.le_refl _) _).drew.trans (hbq.mono (by simp)) | exact (K0.out.drew.alloc (Nat.le_refl _) _).trans (hbq.mono (by simp)) | exact (K0.out.alloc (Nat.le_refl _) _).trans (hbq.mono (by simp))); have hzw : w8.heap.size ≤ wF.heap.size := hbw.size; try (have qq := carry_two hbq; obtain ⟨q0, q1, t0, t1, tz⟩ := qq); try (have qq := carry_two' hbq; obtain ⟨q0, q1, t0, t1, tz⟩ := qq)))
      | (go_at_call 22; ((with_reducible refine (HD.out _).mono ?_); rintro r wS ⟨rfl, hbq⟩; have qq := carry_two' hbq; obtain ⟨q0, q1, t0, t1, tz⟩ := qq; have hbv : Below w8.heap.size w8 wS := (hbw.alloc hzw _).trans (hbq.mono (by simp <;> omega)); have hzv : w8.heap.size ≤ wS.heap.size := hbv.size))
      | (go_at_call 22; ((with_reducible refine (HD.out _).mono ?_); rintro r wS ⟨rfl, hbq⟩; have p0 := carry hbq q0; have p1 := carry hbq q1; have s0 := carryF hbq q0 t0; have s1 := carryF hbq q1 t1; have sz := Nat.lt_of_lt_of_le tz hbq.size; have hbv : Below w8.heap.size w8 wS := hbw.trans (hbq.mono hzw); have hzv : w8.heap.size ≤ wS.heap.size := hbv.size))
      | (go_at_call 22; ((with_reducible refine (HD.out _).mono ?_); rintro r wS ⟨rfl, hbq⟩; have hbv : Below w8.heap.size w8 wS := hbw.trans (hbq.mono hzw); have hzv : w8.heap.size ≤ wS.heap.size := hbv.size)))
  · have HBS := Lib.hid (HBB.out.trans (hbv.mono HBB.out.size))
    have hw8 := HBB.out.size
    have hwS := HBS.out.size
    generalize hW : wS.alloc _ = w9
    have d0 : w9.cell? ⟨wS.heap.size, 0, none⟩ = some (.int .i64 d) := by rw [← hW]; clear hW; go_simp
    have d1 : w9.cell? ⟨wS.heap.size, 1, none⟩ = some (.int .i64 g) := by rw [← hW]; clear hW; go_simp
    have zd : wS.heap.size < w9.heap.size := by rw [← hW]; clear hW; simp <;> omega
    have HBX := Lib.hid ((by rw [← hW]; clear hW; have HBB := HBS; repeat (first | with_reducible exact HBB.out | with_reducible exact Below.refl _ _ | with_reducible refine Below.drew ?_ | with_reducible refine belowN ?_ _ | with_reducible refine Below.setCell ?_ (by first | omega | (simp; done) | (simp; omega)) _ | with_reducible refine Below.alloc ?_ (by first | omega | (simp; done) | (simp; omega)) _)) : Below w.heap.size w w9)
    clear hW
    have hb9 : w.heap.size ≤ wS.heap.size := by omega
    generalize wS.heap.size = b9 at d0 d1 zd hb9 ⊢
    clear HBS hw8 hwS HBB HB0 c0_0 c0_1 z0 K0 SK
    have hn := HBX.out.size
    have HB0 := HBX
    have HBB := HBX
    clear HBX
    go_wp2_with fail
    go_region_held3 (fun wx => wx.cell? ⟨b9, 0, none⟩ = some (.int .i64 d) ∧ wx.cell? ⟨b9, 1, none⟩ = some (.int .i64 g) ∧ b9 < wx.heap.size ∧ Below w.heap.size w wx) (first | (go_keep; done) | ((try go_split_ands); (repeat' apply And.intro) <;> first | with_reducible assumption | (exact carry hbq (by with_reducible assumption)) | (exact carryF hbq (by with_reducible assumption) (by with_reducible assumption)) | (go_simp; done) | (simp only [World.size_alloc, World.size_drew]; omega) | (with_reducible exact HB0.out.drew) | (with_reducible exact HB0.out) | (with_reducible exact Below.drew (by with_reducible assumption)) | (exact Nat.lt_of_lt_of_le (by first | with_reducible assumption | (simp <;> omega)) hbq.size) | (simp <;> omega) | (exact Below.trans (by with_reducible assumption) (hbq.mono (by first | omega | (simp <;> omega))))))
    (first
        | (go_at_call 23; ((with_reducible refine (H2.out _).mono ?_); rintro r wq ⟨rfl, hbq⟩))
        | (go_at_call 14; ((with_reducible refine (HX.out _).mono ?_); rintro r wq ⟨rfl, hbq⟩)))
    rename _ ∧ _ ∧ _ ∧ Below w.heap.size w _ => hS
    have HBY := Lib.hid hS.2.2.2
    clear hS HB0 HBB d0 d1 zd
    have HBB := HBY
    clear HBY
    go_wp2_with fail
    refine (HSan.out _ (by repeat (first | with_reducible exact HBB.out | with_reducible exact Below.refl _ _ | with_reducible refine Below.drew ?_ | with_reducible refine belowN ?_ _ | with_reducible refine Below.setCell ?_ (by first | omega | (simp; done) | (simp; omega)) _ | with_reducible refine Below.alloc ?_ (by first | omega | (simp; done) | (simp; omega)) _))).mono ?_
    rintro r wz ⟨rfl, hbz⟩
    have HBZ := Lib.hid ((by repeat (first | with_reducible exact HBB.out | with_reducible exact Below.refl _ _ | with_reducible refine Below.drew ?_ | with_reducible refine belowN ?_ _ | with_reducible refine Below.setCell ?_ (by first | omega | (simp; done) | (simp; omega)) _ | with_reducible refine Below.alloc ?_ (by first | omega | (simp; done) | (simp; omega)) _) : Below w.heap.size w _).trans (hbz.mono (by have := HBB.out.size; first | omega | (simp <;> omega))))
    clear hbz
    go_wp2_with fail
    go_ret
    exact ⟨rfl, HBZ.out⟩
  · have HBS := Lib.hid (HBB.out.trans (hbv.mono HBB.out.size))
    have hw8 := HBB.out.size
    have hwS := HBS.out.size
    generalize hW : (wS.setCell _ _).setCell _ _ = w9
    have d0 : w9.cell? ⟨wF.heap.size, 0, none⟩ = some (.int .i64 d) := by rw [← hW]; clear hW; go_simp
    have d1 : w9.cell? ⟨wF.heap.size, 1, none⟩ = some (.int .i64 g) := by rw [← hW]; clear hW; go_simp
    have zd : wF.heap.size < w9.heap.size := by rw [← hW]; clear hW; simp <;> omega
    have HBX := Lib.hid ((by rw [← hW]; clear hW; have HBB := HBS; repeat (first | with_reducible exact HBB.out | with_reducible exact Below.refl _ _ | with_reducible refine Below.drew ?_ | with_reducible refine belowN ?_ _ | with_reducible refine Below.setCell ?_ (by first | omega | (simp; done) | (simp; omega)) _ | with_reducible refine Below.alloc ?_ (by first | omega | (simp; done) | (simp; omega)) _)) : Below w.heap.size w w9)
    clear hW
    have hb9 : w.heap.size ≤ wF.heap.size := by omega
    generalize wF.heap.size = b9 at d0 d1 zd hb9 ⊢
    clear HBS hw8 hwS HBB HB0 c0_0 c0_1 z0 K0 SK
    have hn := HBX.out.size
    have HB0 := HBX
    have HBB := HBX
    clear HBX
    go_wp2_with fail
    go_region_held3 (fun wx => wx.cell? ⟨b9, 0, none⟩ = some (.int .i64 d) ∧ wx.cell? ⟨b9, 1, none⟩ = some (.int .i64 g) ∧ b9 < wx.heap.size ∧ Below w.heap.size w wx) (first | (go_keep; done) | ((try go_split_ands); (repeat' apply And.intro) <;> first | with_reducible assumption | (exact carry hbq (by with_reducible assumption)) | (exact carryF hbq (by with_reducible assumption) (by with_reducible assumption)) | (go_simp; done) | (simp only [World.size_alloc, World.size_drew]; omega) | (with_reducible exact HB0.out.drew) | (with_reducible exact HB0.out) | (with_reducible exact Below.drew (by with_reducible assumption)) | (exact Nat.lt_of_lt_of_le (by first | with_reducible assumption | (simp <;> omega)) hbq.size) | (simp <;> omega) | (exact Below.trans (by with_reducible assumption) (hbq.mono (by first | omega | (simp <;> omega))))))
    (first
        | (go_at_call 23; ((with_reducible refine (H2.out _).mono ?_); rintro r wq ⟨rfl, hbq⟩))
        | (go_at_call 14; ((with_reducible refine (HX.out _).mono ?_); rintro r wq ⟨rfl, hbq⟩)))
    rename _ ∧ _ ∧ _ ∧ Below w.heap.size w _ => hS
    have HBY := Lib.hid hS.2.2.2
    clear hS HB0 HBB d0 d1 zd
    have HBB := HBY
    clear HBY
    go_wp2_with fail
    refine (HSan.out _ (by repeat (first | with_reducible exact HBB.out | with_reducible exact Below.refl _ _ | with_reducible refine Below.drew ?_ | with_reducible refine belowN ?_ _ | with_reducible refine Below.setCell ?_ (by first | omega | (simp; done) | (simp; omega)) _ | with_reducible refine Below.alloc ?_ (by first | omega | (simp; done) | (simp; omega)) _))).mono ?_
    rintro r wz ⟨rfl, hbz⟩
    have HBZ := Lib.hid ((by repeat (first | with_reducible exact HBB.out | with_reducible exact Below.refl _ _ | with_reducible refine Below.drew ?_ | with_reducible refine belowN ?_ _ | with_reducible refine Below.setCell ?_ (by first | omega | (simp; done) | (simp; omega)) _ | with_reducible refine Below.alloc ?_ (by first | omega | (simp; done) | (simp; omega)) _) : Below w.heap.size w _).trans (hbz.mono (by have := HBB.out.size; first | omega | (simp <;> omega))))
    clear hbz
    go_wp2_with fail
    go_ret
    exact ⟨rfl, HBZ.out⟩
  · have HBS := Lib.hid (HBB.out.trans (hbv.mono HBB.out.size))
    have hw8 := HBB.out.size
    have hwS := HBS.out.size
    generalize hW : (wS.setCell _ _).setCell _ _ = w9
    have d0 : w9.cell? ⟨w8.heap.size, 0, none⟩ = some (.int .i64 d) := by rw [← hW]; clear hW; go_simp
    have d1 : w9.cell? ⟨w8.heap.size, 1, none⟩ = some (.int .i64 g) := by rw [← hW]; clear hW; go_simp
    have zd : w8.heap.size < w9.heap.size := by rw [← hW]; clear hW; simp <;> omega
    have HBX := Lib.hid ((by rw [← hW]; clear hW; have HBB := HBS; repeat (first | with_reducible exact HBB.out | with_reducible exact Below.refl _ _ | with_reducible refine Below.drew ?_ | with_reducible refine belowN ?_ _ | with_reducible refine Below.setCell ?_ (by first | omega | (simp; done) | (simp; omega)) _ | with_reducible refine Below.alloc ?_ (by first | omega | (simp; done) | (simp; omega)) _)) : Below w.heap.size w w9)
    clear hW
    have hb9 : w.heap.size ≤ w8.heap.size := by omega
    generalize w8.heap.size = b9 at d0 d1 zd hb9 ⊢
    clear HBS hw8 hwS HBB HB0 c0_0 c0_1 z0 K0 SK
    have hn := HBX.out.size
    have HB0 := HBX
    have HBB := HBX
    clear HBX
    go_wp2_with fail
    go_region_held3 (fun wx => wx.cell? ⟨b9, 0, none⟩ = some (.int .i64 d) ∧ wx.cell? ⟨b9, 1, none⟩ = some (.int .i64 g) ∧ b9 < wx.heap.size ∧ Below w.heap.size w wx) (first | (go_keep; done) | ((try go_split_ands); (repeat' apply And.intro) <;> first | with_reducible assumption | (exact carry hbq (by with_reducible assumption)) | (exact carryF hbq (by with_reducible assumption) (by with_reducible assumption)) | (go_simp; done) | (simp only [World.size_alloc, World.size_drew]; omega) | (with_reducible exact HB0.out.drew) | (with_reducible exact HB0.out) | (with_reducible exact Below.drew (by with_reducible assumption)) | (exact Nat.lt_of_lt_of_le (by first | with_reducible assumption | (simp <;> omega)) hbq.size) | (simp <;> omega) | (exact Below.trans (by with_reducible assumption) (hbq.mono (by first | omega | (simp <;> omega))))))
    (first
        | (go_at_call 23; ((with_reducible refine (H2.out _).mono ?_); rintro r wq ⟨rfl, hbq⟩))
        | (go_at_call 14; ((with_reducible refine (HX.out _).mono ?_); rintro r wq ⟨rfl, hbq⟩)))
    rename _ ∧ _ ∧ _ ∧ Below w.heap.size w _ => hS
    have HBY := Lib.hid hS.2.2.2
    clear hS HB0 HBB d0 d1 zd
    have HBB := HBY
    clear HBY
    go_wp2_with fail
    refine (HSan.out _ (by repeat (first | with_reducible exact HBB.out | with_reducible exact Below.refl _ _ | with_reducible refine Below.drew ?_ | with_reducible refine belowN ?_ _ | with_reducible refine Below.setCell ?_ (by first | omega | (simp; done) | (simp; omega)) _ | with_reducible refine Below.alloc ?_ (by first | omega | (simp; done) | (simp; omega)) _))).mono ?_
    rintro r wz ⟨rfl, hbz⟩
    have HBZ := Lib.hid ((by repeat (first | with_reducible exact HBB.out | with_reducible exact Below.refl _ _ | with_reducible refine Below.drew ?_ | with_reducible refine belowN ?_ _ | with_reducible refine Below.setCell ?_ (by first | omega | (simp; done) | (simp; omega)) _ | with_reducible refine Below.alloc ?_ (by first | omega | (simp; done) | (simp; omega)) _) : Below w.heap.size w _).trans (hbz.mono (by have := HBB.out.size; first | omega | (simp <;> omega))))
    clear hbz
    go_wp2_with fail
    go_ret
    exact ⟨rfl, HBZ.out⟩

end Go.Proofs.YtdhcahidpiiplaaGreatDoor.realIntegerLaws
