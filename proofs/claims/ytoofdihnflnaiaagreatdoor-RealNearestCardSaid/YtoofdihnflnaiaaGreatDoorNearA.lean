/-
  RealNearest: the ways.
-/
import Derived.Test.YtoofdihnflnaiaaGreatDoorNear
import Derived.Deep.RegionHeld3
import Derived.Test.YtoofdihnflnaiaaGreatDoorSanH

namespace Go.Proofs.YtoofdihnflnaiaaGreatDoor.realNearest
open Go.RowKit
set_option linter.unusedVariables false

set_option maxRecDepth 100000 in
set_option maxHeartbeats 8000000 in
theorem e1 (ok2 ok3 : Bool) (i j k xm xe ym ye zm ze a b c sm se sx dm de dx : Int) (w : World) (HAx : Hid (∀ W : World, Calls Tryz.prog 8 #[.int .i64 i] W fun r w' => r = .returned (realV xm xe) ∧ Below W.heap.size W w')) (HAy : Hid (∀ W : World, Calls Tryz.prog 8 #[.int .i64 j] W fun r w' => r = .returned (realV ym ye) ∧ Below W.heap.size W w')) (HAz : Hid (∀ W : World, Calls Tryz.prog 8 #[.int .i64 k] W fun r w' => r = .returned (realV zm ze) ∧ Below W.heap.size W w')) (HSx : Hid (∀ W : World, Calls Tryz.prog 20 #[realV xm xe] W fun r w' => r = .returned (.tuple #[.int .i64 a, .bool false]) ∧ Below W.heap.size W w')) (HSy : Hid (∀ W : World, Calls Tryz.prog 20 #[realV ym ye] W fun r w' => r = .returned (.tuple #[.int .i64 b, .bool ok2]) ∧ Below W.heap.size W w')) (HSz : Hid (∀ W : World, Calls Tryz.prog 20 #[realV zm ze] W fun r w' => r = .returned (.tuple #[.int .i64 c, .bool ok3]) ∧ Below W.heap.size W w')) (HAdd : Hid (∀ W : World, Calls Tryz.prog 11 #[realV xm xe, realV ym ye] W fun r w' => r = .returned (rE sm se sx) ∧ Below W.heap.size W w')) (HSub : Hid (∀ W : World, Calls Tryz.prog 15 #[realV xm xe, realV ym ye] W fun r w' => r = .returned (rE dm de dx) ∧ Below W.heap.size W w')) (HSan : Hid (∀ W, Below w.heap.size w W → Calls Tryz.prog 19 #[] W fun r W' => r = .returned (.bool true) ∧ Below W.heap.size W W'))  :
    Calls Tryz.prog 4 #[.int .i64 i, .int .i64 j, .int .i64 k] w fun r w' => r = .returned (.bool true) ∧ Below w.heap.size w w' := by
  go_enter Tryz.func4, Tryz.ntmps4
  go_wp2_with fail
  refine (HAx.out _).mono ?_
  rintro e w1 ⟨rfl, hb1⟩
  have HB_1 := Lib.hid ((by repeat (first | exact Below.refl _ _ | refine Below.alloc ?_ (by first | omega | (simp <;> omega)) _) : Below w.heap.size w _).trans (hb1.mono (by first | omega | (simp <;> omega))))
  have nz_1 : w.heap.size ≤ w1.heap.size := HB_1.out.size
  clear hb1
  go_wp2_with fail
  refine (HAy.out _).mono ?_
  rintro e w2 ⟨rfl, hb2⟩
  have x0_2 : w2.cell? ⟨w1.heap.size, 0, none⟩ = some (.int .i64 xm) := carry hb2 (by go_simp)
  have x1_2 : w2.cell? ⟨w1.heap.size, 1, none⟩ = some (.int .i64 xe) := carry hb2 (by go_simp)
  have xz_2 : w1.heap.size < w2.heap.size := by have := hb2.size; first | omega | (simp at this; omega)
  have HB_2 := Lib.hid ((by repeat (first | exact HB_1.out | refine Below.alloc ?_ (by first | omega | (simp <;> omega)) _) : Below w.heap.size w _).trans (hb2.mono (by first | omega | (simp <;> omega))))
  have nz_2 : w.heap.size ≤ w2.heap.size := HB_2.out.size
  clear hb2 HB_1
  go_wp2_with fail
  refine (HAz.out _).mono ?_
  rintro e w3 ⟨rfl, hb3⟩
  have x0_3 : w3.cell? ⟨w1.heap.size, 0, none⟩ = some (.int .i64 xm) := carry hb3 (by go_simp)
  have x1_3 : w3.cell? ⟨w1.heap.size, 1, none⟩ = some (.int .i64 xe) := carry hb3 (by go_simp)
  have xz_3 : w1.heap.size < w3.heap.size := by have := hb3.size; first | omega | (simp at this; omega)
  have y0_3 : w3.cell? ⟨w2.heap.size, 0, none⟩ = some (.int .i64 ym) := carry hb3 (by go_simp)
  have y1_3 : w3.cell? ⟨w2.heap.size, 1, none⟩ = some (.int .i64 ye) := carry hb3 (by go_simp)
  have yz_3 : w2.heap.size < w3.heap.size := by have := hb3.size; first | omega | (simp at this; omega)
  have HB_3 := Lib.hid ((by repeat (first | exact HB_2.out | refine Below.alloc ?_ (by first | omega | (simp <;> omega)) _) : Below w.heap.size w _).trans (hb3.mono (by first | omega | (simp <;> omega))))
  have nz_3 : w.heap.size ≤ w3.heap.size := HB_3.out.size
  clear hb3 x0_2 x1_2 HB_2
  go_wp2_with fail
  refine (HSx.out _).mono ?_
  rintro e w4 ⟨rfl, hb4⟩
  have x0_4 : w4.cell? ⟨w1.heap.size, 0, none⟩ = some (.int .i64 xm) := carry hb4 (by go_simp)
  have x1_4 : w4.cell? ⟨w1.heap.size, 1, none⟩ = some (.int .i64 xe) := carry hb4 (by go_simp)
  have xz_4 : w1.heap.size < w4.heap.size := by have := hb4.size; first | omega | (simp at this; omega)
  have y0_4 : w4.cell? ⟨w2.heap.size, 0, none⟩ = some (.int .i64 ym) := carry hb4 (by go_simp)
  have y1_4 : w4.cell? ⟨w2.heap.size, 1, none⟩ = some (.int .i64 ye) := carry hb4 (by go_simp)
  have yz_4 : w2.heap.size < w4.heap.size := by have := hb4.size; first | omega | (simp at this; omega)
  have z0_4 : w4.cell? ⟨w3.heap.size, 0, none⟩ = some (.int .i64 zm) := carry hb4 (by go_simp)
  have z1_4 : w4.cell? ⟨w3.heap.size, 1, none⟩ = some (.int .i64 ze) := carry hb4 (by go_simp)
  have zz_4 : w3.heap.size < w4.heap.size := by have := hb4.size; first | omega | (simp at this; omega)
  have HB_4 := Lib.hid ((by repeat (first | exact HB_3.out | refine Below.alloc ?_ (by first | omega | (simp <;> omega)) _) : Below w.heap.size w _).trans (hb4.mono (by first | omega | (simp <;> omega))))
  have nz_4 : w.heap.size ≤ w4.heap.size := HB_4.out.size
  clear hb4 x0_3 x1_3 y0_3 y1_3 HB_3
  go_wp2_with fail
  refine (HSy.out _).mono ?_
  rintro e w5 ⟨rfl, hb5⟩
  have x0_5 : w5.cell? ⟨w1.heap.size, 0, none⟩ = some (.int .i64 xm) := carry hb5 (by go_simp)
  have x1_5 : w5.cell? ⟨w1.heap.size, 1, none⟩ = some (.int .i64 xe) := carry hb5 (by go_simp)
  have xz_5 : w1.heap.size < w5.heap.size := by have := hb5.size; first | omega | (simp at this; omega)
  have y0_5 : w5.cell? ⟨w2.heap.size, 0, none⟩ = some (.int .i64 ym) := carry hb5 (by go_simp)
  have y1_5 : w5.cell? ⟨w2.heap.size, 1, none⟩ = some (.int .i64 ye) := carry hb5 (by go_simp)
  have yz_5 : w2.heap.size < w5.heap.size := by have := hb5.size; first | omega | (simp at this; omega)
  have z0_5 : w5.cell? ⟨w3.heap.size, 0, none⟩ = some (.int .i64 zm) := carry hb5 (by go_simp)
  have z1_5 : w5.cell? ⟨w3.heap.size, 1, none⟩ = some (.int .i64 ze) := carry hb5 (by go_simp)
  have zz_5 : w3.heap.size < w5.heap.size := by have := hb5.size; first | omega | (simp at this; omega)
  have HB_5 := Lib.hid ((by repeat (first | exact HB_4.out | refine Below.alloc ?_ (by first | omega | (simp <;> omega)) _) : Below w.heap.size w _).trans (hb5.mono (by first | omega | (simp <;> omega))))
  have nz_5 : w.heap.size ≤ w5.heap.size := HB_5.out.size
  clear hb5 x0_4 x1_4 y0_4 y1_4 z0_4 z1_4 HB_4
  go_wp2_with fail
  refine (HSz.out _).mono ?_
  rintro e w6 ⟨rfl, hb6⟩
  have x0_6 : w6.cell? ⟨w1.heap.size, 0, none⟩ = some (.int .i64 xm) := carry hb6 (by go_simp)
  have x1_6 : w6.cell? ⟨w1.heap.size, 1, none⟩ = some (.int .i64 xe) := carry hb6 (by go_simp)
  have xz_6 : w1.heap.size < w6.heap.size := by have := hb6.size; first | omega | (simp at this; omega)
  have y0_6 : w6.cell? ⟨w2.heap.size, 0, none⟩ = some (.int .i64 ym) := carry hb6 (by go_simp)
  have y1_6 : w6.cell? ⟨w2.heap.size, 1, none⟩ = some (.int .i64 ye) := carry hb6 (by go_simp)
  have yz_6 : w2.heap.size < w6.heap.size := by have := hb6.size; first | omega | (simp at this; omega)
  have z0_6 : w6.cell? ⟨w3.heap.size, 0, none⟩ = some (.int .i64 zm) := carry hb6 (by go_simp)
  have z1_6 : w6.cell? ⟨w3.heap.size, 1, none⟩ = some (.int .i64 ze) := carry hb6 (by go_simp)
  have zz_6 : w3.heap.size < w6.heap.size := by have := hb6.size; first | omega | (simp at this; omega)
  have HB_6 := Lib.hid ((by repeat (first | exact HB_5.out | refine Below.alloc ?_ (by first | omega | (simp <;> omega)) _) : Below w.heap.size w _).trans (hb6.mono (by first | omega | (simp <;> omega))))
  have nz_6 : w.heap.size ≤ w6.heap.size := HB_6.out.size
  clear hb6 x0_5 x1_5 y0_5 y1_5 z0_5 z1_5 HB_5
  go_wp2_with fail
  refine (HAdd.out _).mono ?_
  rintro e w7 ⟨rfl, hb7⟩
  have x0_7 : w7.cell? ⟨w1.heap.size, 0, none⟩ = some (.int .i64 xm) := carry hb7 (by go_simp)
  have x1_7 : w7.cell? ⟨w1.heap.size, 1, none⟩ = some (.int .i64 xe) := carry hb7 (by go_simp)
  have xz_7 : w1.heap.size < w7.heap.size := by have := hb7.size; first | omega | (simp at this; omega)
  have y0_7 : w7.cell? ⟨w2.heap.size, 0, none⟩ = some (.int .i64 ym) := carry hb7 (by go_simp)
  have y1_7 : w7.cell? ⟨w2.heap.size, 1, none⟩ = some (.int .i64 ye) := carry hb7 (by go_simp)
  have yz_7 : w2.heap.size < w7.heap.size := by have := hb7.size; first | omega | (simp at this; omega)
  have z0_7 : w7.cell? ⟨w3.heap.size, 0, none⟩ = some (.int .i64 zm) := carry hb7 (by go_simp)
  have z1_7 : w7.cell? ⟨w3.heap.size, 1, none⟩ = some (.int .i64 ze) := carry hb7 (by go_simp)
  have zz_7 : w3.heap.size < w7.heap.size := by have := hb7.size; first | omega | (simp at this; omega)
  have HB_7 := Lib.hid ((by repeat (first | exact HB_6.out | refine Below.alloc ?_ (by first | omega | (simp <;> omega)) _) : Below w.heap.size w _).trans (hb7.mono (by first | omega | (simp <;> omega))))
  have nz_7 : w.heap.size ≤ w7.heap.size := HB_7.out.size
  clear hb7 x0_6 x1_6 y0_6 y1_6 z0_6 z1_6 HB_6
  go_wp2_with fail
  refine (HSub.out _).mono ?_
  rintro e w8 ⟨rfl, hb8⟩
  have x0_8 : w8.cell? ⟨w1.heap.size, 0, none⟩ = some (.int .i64 xm) := carry hb8 (by go_simp)
  have x1_8 : w8.cell? ⟨w1.heap.size, 1, none⟩ = some (.int .i64 xe) := carry hb8 (by go_simp)
  have xz_8 : w1.heap.size < w8.heap.size := by have := hb8.size; first | omega | (simp at this; omega)
  have y0_8 : w8.cell? ⟨w2.heap.size, 0, none⟩ = some (.int .i64 ym) := carry hb8 (by go_simp)
  have y1_8 : w8.cell? ⟨w2.heap.size, 1, none⟩ = some (.int .i64 ye) := carry hb8 (by go_simp)
  have yz_8 : w2.heap.size < w8.heap.size := by have := hb8.size; first | omega | (simp at this; omega)
  have z0_8 : w8.cell? ⟨w3.heap.size, 0, none⟩ = some (.int .i64 zm) := carry hb8 (by go_simp)
  have z1_8 : w8.cell? ⟨w3.heap.size, 1, none⟩ = some (.int .i64 ze) := carry hb8 (by go_simp)
  have zz_8 : w3.heap.size < w8.heap.size := by have := hb8.size; first | omega | (simp at this; omega)
  have s0_8 : w8.cell? ⟨w7.heap.size, 0, none⟩ = some (.int .i64 sm) := carry hb8 (by go_simp)
  have s1_8 : w8.cell? ⟨w7.heap.size, 1, none⟩ = some (.int .i64 se) := carry hb8 (by go_simp)
  have sz_8 : w7.heap.size < w8.heap.size := by have := hb8.size; first | omega | (simp at this; omega)
  have HB_8 := Lib.hid ((by repeat (first | exact HB_7.out | refine Below.alloc ?_ (by first | omega | (simp <;> omega)) _) : Below w.heap.size w _).trans (hb8.mono (by first | omega | (simp <;> omega))))
  have nz_8 : w.heap.size ≤ w8.heap.size := HB_8.out.size
  clear hb8 x0_7 x1_7 y0_7 y1_7 z0_7 z1_7 HB_7
  go_wp2_with fail
  refine (HSan.out _ (by repeat (first | exact HB_8.out | refine Below.alloc ?_ (by first | omega | (simp <;> omega)) _))).mono ?_
  rintro e w9 ⟨rfl, hb9⟩
  have x0_9 : w9.cell? ⟨w1.heap.size, 0, none⟩ = some (.int .i64 xm) := carry hb9 (by go_simp)
  have x1_9 : w9.cell? ⟨w1.heap.size, 1, none⟩ = some (.int .i64 xe) := carry hb9 (by go_simp)
  have xz_9 : w1.heap.size < w9.heap.size := by have := hb9.size; first | omega | (simp at this; omega)
  have y0_9 : w9.cell? ⟨w2.heap.size, 0, none⟩ = some (.int .i64 ym) := carry hb9 (by go_simp)
  have y1_9 : w9.cell? ⟨w2.heap.size, 1, none⟩ = some (.int .i64 ye) := carry hb9 (by go_simp)
  have yz_9 : w2.heap.size < w9.heap.size := by have := hb9.size; first | omega | (simp at this; omega)
  have z0_9 : w9.cell? ⟨w3.heap.size, 0, none⟩ = some (.int .i64 zm) := carry hb9 (by go_simp)
  have z1_9 : w9.cell? ⟨w3.heap.size, 1, none⟩ = some (.int .i64 ze) := carry hb9 (by go_simp)
  have zz_9 : w3.heap.size < w9.heap.size := by have := hb9.size; first | omega | (simp at this; omega)
  have s0_9 : w9.cell? ⟨w7.heap.size, 0, none⟩ = some (.int .i64 sm) := carry hb9 (by go_simp)
  have s1_9 : w9.cell? ⟨w7.heap.size, 1, none⟩ = some (.int .i64 se) := carry hb9 (by go_simp)
  have sz_9 : w7.heap.size < w9.heap.size := by have := hb9.size; first | omega | (simp at this; omega)
  have d0_9 : w9.cell? ⟨w8.heap.size, 0, none⟩ = some (.int .i64 dm) := carry hb9 (by go_simp)
  have d1_9 : w9.cell? ⟨w8.heap.size, 1, none⟩ = some (.int .i64 de) := carry hb9 (by go_simp)
  have dz_9 : w8.heap.size < w9.heap.size := by have := hb9.size; first | omega | (simp at this; omega)
  have HB_9 := Lib.hid ((by repeat (first | exact HB_8.out | refine Below.alloc ?_ (by first | omega | (simp <;> omega)) _) : Below w.heap.size w _).trans (hb9.mono (by first | omega | (simp <;> omega))))
  have nz_9 : w.heap.size ≤ w9.heap.size := HB_9.out.size
  clear hb9 x0_8 x1_8 y0_8 y1_8 z0_8 z1_8 s0_8 s1_8 HB_8
  go_wp2_with fail
  go_ret
  exact ⟨rfl, by repeat (first | exact HB_9.out | refine Below.alloc ?_ (by first | omega | (simp <;> omega)) _)⟩

set_option maxRecDepth 100000 in
set_option maxHeartbeats 8000000 in
theorem e2 (ok3 : Bool) (i j k xm xe ym ye zm ze a b c sm se sx dm de dx : Int) (w : World) (HAx : Hid (∀ W : World, Calls Tryz.prog 8 #[.int .i64 i] W fun r w' => r = .returned (realV xm xe) ∧ Below W.heap.size W w')) (HAy : Hid (∀ W : World, Calls Tryz.prog 8 #[.int .i64 j] W fun r w' => r = .returned (realV ym ye) ∧ Below W.heap.size W w')) (HAz : Hid (∀ W : World, Calls Tryz.prog 8 #[.int .i64 k] W fun r w' => r = .returned (realV zm ze) ∧ Below W.heap.size W w')) (HSx : Hid (∀ W : World, Calls Tryz.prog 20 #[realV xm xe] W fun r w' => r = .returned (.tuple #[.int .i64 a, .bool true]) ∧ Below W.heap.size W w')) (HSy : Hid (∀ W : World, Calls Tryz.prog 20 #[realV ym ye] W fun r w' => r = .returned (.tuple #[.int .i64 b, .bool false]) ∧ Below W.heap.size W w')) (HSz : Hid (∀ W : World, Calls Tryz.prog 20 #[realV zm ze] W fun r w' => r = .returned (.tuple #[.int .i64 c, .bool ok3]) ∧ Below W.heap.size W w')) (HAdd : Hid (∀ W : World, Calls Tryz.prog 11 #[realV xm xe, realV ym ye] W fun r w' => r = .returned (rE sm se sx) ∧ Below W.heap.size W w')) (HSub : Hid (∀ W : World, Calls Tryz.prog 15 #[realV xm xe, realV ym ye] W fun r w' => r = .returned (rE dm de dx) ∧ Below W.heap.size W w')) (HSan : Hid (∀ W, Below w.heap.size w W → Calls Tryz.prog 19 #[] W fun r W' => r = .returned (.bool true) ∧ Below W.heap.size W W'))  :
    Calls Tryz.prog 4 #[.int .i64 i, .int .i64 j, .int .i64 k] w fun r w' => r = .returned (.bool true) ∧ Below w.heap.size w w' := by
  go_enter Tryz.func4, Tryz.ntmps4
  go_wp2_with fail
  refine (HAx.out _).mono ?_
  rintro e w1 ⟨rfl, hb1⟩
  have HB_1 := Lib.hid ((by repeat (first | exact Below.refl _ _ | refine Below.alloc ?_ (by first | omega | (simp <;> omega)) _) : Below w.heap.size w _).trans (hb1.mono (by first | omega | (simp <;> omega))))
  have nz_1 : w.heap.size ≤ w1.heap.size := HB_1.out.size
  clear hb1
  go_wp2_with fail
  refine (HAy.out _).mono ?_
  rintro e w2 ⟨rfl, hb2⟩
  have x0_2 : w2.cell? ⟨w1.heap.size, 0, none⟩ = some (.int .i64 xm) := carry hb2 (by go_simp)
  have x1_2 : w2.cell? ⟨w1.heap.size, 1, none⟩ = some (.int .i64 xe) := carry hb2 (by go_simp)
  have xz_2 : w1.heap.size < w2.heap.size := by have := hb2.size; first | omega | (simp at this; omega)
  have HB_2 := Lib.hid ((by repeat (first | exact HB_1.out | refine Below.alloc ?_ (by first | omega | (simp <;> omega)) _) : Below w.heap.size w _).trans (hb2.mono (by first | omega | (simp <;> omega))))
  have nz_2 : w.heap.size ≤ w2.heap.size := HB_2.out.size
  clear hb2 HB_1
  go_wp2_with fail
  refine (HAz.out _).mono ?_
  rintro e w3 ⟨rfl, hb3⟩
  have x0_3 : w3.cell? ⟨w1.heap.size, 0, none⟩ = some (.int .i64 xm) := carry hb3 (by go_simp)
  have x1_3 : w3.cell? ⟨w1.heap.size, 1, none⟩ = some (.int .i64 xe) := carry hb3 (by go_simp)
  have xz_3 : w1.heap.size < w3.heap.size := by have := hb3.size; first | omega | (simp at this; omega)
  have y0_3 : w3.cell? ⟨w2.heap.size, 0, none⟩ = some (.int .i64 ym) := carry hb3 (by go_simp)
  have y1_3 : w3.cell? ⟨w2.heap.size, 1, none⟩ = some (.int .i64 ye) := carry hb3 (by go_simp)
  have yz_3 : w2.heap.size < w3.heap.size := by have := hb3.size; first | omega | (simp at this; omega)
  have HB_3 := Lib.hid ((by repeat (first | exact HB_2.out | refine Below.alloc ?_ (by first | omega | (simp <;> omega)) _) : Below w.heap.size w _).trans (hb3.mono (by first | omega | (simp <;> omega))))
  have nz_3 : w.heap.size ≤ w3.heap.size := HB_3.out.size
  clear hb3 x0_2 x1_2 HB_2
  go_wp2_with fail
  refine (HSx.out _).mono ?_
  rintro e w4 ⟨rfl, hb4⟩
  have x0_4 : w4.cell? ⟨w1.heap.size, 0, none⟩ = some (.int .i64 xm) := carry hb4 (by go_simp)
  have x1_4 : w4.cell? ⟨w1.heap.size, 1, none⟩ = some (.int .i64 xe) := carry hb4 (by go_simp)
  have xz_4 : w1.heap.size < w4.heap.size := by have := hb4.size; first | omega | (simp at this; omega)
  have y0_4 : w4.cell? ⟨w2.heap.size, 0, none⟩ = some (.int .i64 ym) := carry hb4 (by go_simp)
  have y1_4 : w4.cell? ⟨w2.heap.size, 1, none⟩ = some (.int .i64 ye) := carry hb4 (by go_simp)
  have yz_4 : w2.heap.size < w4.heap.size := by have := hb4.size; first | omega | (simp at this; omega)
  have z0_4 : w4.cell? ⟨w3.heap.size, 0, none⟩ = some (.int .i64 zm) := carry hb4 (by go_simp)
  have z1_4 : w4.cell? ⟨w3.heap.size, 1, none⟩ = some (.int .i64 ze) := carry hb4 (by go_simp)
  have zz_4 : w3.heap.size < w4.heap.size := by have := hb4.size; first | omega | (simp at this; omega)
  have HB_4 := Lib.hid ((by repeat (first | exact HB_3.out | refine Below.alloc ?_ (by first | omega | (simp <;> omega)) _) : Below w.heap.size w _).trans (hb4.mono (by first | omega | (simp <;> omega))))
  have nz_4 : w.heap.size ≤ w4.heap.size := HB_4.out.size
  clear hb4 x0_3 x1_3 y0_3 y1_3 HB_3
  go_wp2_with fail
  refine (HSy.out _).mono ?_
  rintro e w5 ⟨rfl, hb5⟩
  have x0_5 : w5.cell? ⟨w1.heap.size, 0, none⟩ = some (.int .i64 xm) := carry hb5 (by go_simp)
  have x1_5 : w5.cell? ⟨w1.heap.size, 1, none⟩ = some (.int .i64 xe) := carry hb5 (by go_simp)
  have xz_5 : w1.heap.size < w5.heap.size := by have := hb5.size; first | omega | (simp at this; omega)
  have y0_5 : w5.cell? ⟨w2.heap.size, 0, none⟩ = some (.int .i64 ym) := carry hb5 (by go_simp)
  have y1_5 : w5.cell? ⟨w2.heap.size, 1, none⟩ = some (.int .i64 ye) := carry hb5 (by go_simp)
  have yz_5 : w2.heap.size < w5.heap.size := by have := hb5.size; first | omega | (simp at this; omega)
  have z0_5 : w5.cell? ⟨w3.heap.size, 0, none⟩ = some (.int .i64 zm) := carry hb5 (by go_simp)
  have z1_5 : w5.cell? ⟨w3.heap.size, 1, none⟩ = some (.int .i64 ze) := carry hb5 (by go_simp)
  have zz_5 : w3.heap.size < w5.heap.size := by have := hb5.size; first | omega | (simp at this; omega)
  have HB_5 := Lib.hid ((by repeat (first | exact HB_4.out | refine Below.alloc ?_ (by first | omega | (simp <;> omega)) _) : Below w.heap.size w _).trans (hb5.mono (by first | omega | (simp <;> omega))))
  have nz_5 : w.heap.size ≤ w5.heap.size := HB_5.out.size
  clear hb5 x0_4 x1_4 y0_4 y1_4 z0_4 z1_4 HB_4
  go_wp2_with fail
  refine (HSz.out _).mono ?_
  rintro e w6 ⟨rfl, hb6⟩
  have x0_6 : w6.cell? ⟨w1.heap.size, 0, none⟩ = some (.int .i64 xm) := carry hb6 (by go_simp)
  have x1_6 : w6.cell? ⟨w1.heap.size, 1, none⟩ = some (.int .i64 xe) := carry hb6 (by go_simp)
  have xz_6 : w1.heap.size < w6.heap.size := by have := hb6.size; first | omega | (simp at this; omega)
  have y0_6 : w6.cell? ⟨w2.heap.size, 0, none⟩ = some (.int .i64 ym) := carry hb6 (by go_simp)
  have y1_6 : w6.cell? ⟨w2.heap.size, 1, none⟩ = some (.int .i64 ye) := carry hb6 (by go_simp)
  have yz_6 : w2.heap.size < w6.heap.size := by have := hb6.size; first | omega | (simp at this; omega)
  have z0_6 : w6.cell? ⟨w3.heap.size, 0, none⟩ = some (.int .i64 zm) := carry hb6 (by go_simp)
  have z1_6 : w6.cell? ⟨w3.heap.size, 1, none⟩ = some (.int .i64 ze) := carry hb6 (by go_simp)
  have zz_6 : w3.heap.size < w6.heap.size := by have := hb6.size; first | omega | (simp at this; omega)
  have HB_6 := Lib.hid ((by repeat (first | exact HB_5.out | refine Below.alloc ?_ (by first | omega | (simp <;> omega)) _) : Below w.heap.size w _).trans (hb6.mono (by first | omega | (simp <;> omega))))
  have nz_6 : w.heap.size ≤ w6.heap.size := HB_6.out.size
  clear hb6 x0_5 x1_5 y0_5 y1_5 z0_5 z1_5 HB_5
  go_wp2_with fail
  refine (HAdd.out _).mono ?_
  rintro e w7 ⟨rfl, hb7⟩
  have x0_7 : w7.cell? ⟨w1.heap.size, 0, none⟩ = some (.int .i64 xm) := carry hb7 (by go_simp)
  have x1_7 : w7.cell? ⟨w1.heap.size, 1, none⟩ = some (.int .i64 xe) := carry hb7 (by go_simp)
  have xz_7 : w1.heap.size < w7.heap.size := by have := hb7.size; first | omega | (simp at this; omega)
  have y0_7 : w7.cell? ⟨w2.heap.size, 0, none⟩ = some (.int .i64 ym) := carry hb7 (by go_simp)
  have y1_7 : w7.cell? ⟨w2.heap.size, 1, none⟩ = some (.int .i64 ye) := carry hb7 (by go_simp)
  have yz_7 : w2.heap.size < w7.heap.size := by have := hb7.size; first | omega | (simp at this; omega)
  have z0_7 : w7.cell? ⟨w3.heap.size, 0, none⟩ = some (.int .i64 zm) := carry hb7 (by go_simp)
  have z1_7 : w7.cell? ⟨w3.heap.size, 1, none⟩ = some (.int .i64 ze) := carry hb7 (by go_simp)
  have zz_7 : w3.heap.size < w7.heap.size := by have := hb7.size; first | omega | (simp at this; omega)
  have HB_7 := Lib.hid ((by repeat (first | exact HB_6.out | refine Below.alloc ?_ (by first | omega | (simp <;> omega)) _) : Below w.heap.size w _).trans (hb7.mono (by first | omega | (simp <;> omega))))
  have nz_7 : w.heap.size ≤ w7.heap.size := HB_7.out.size
  clear hb7 x0_6 x1_6 y0_6 y1_6 z0_6 z1_6 HB_6
  go_wp2_with fail
  refine (HSub.out _).mono ?_
  rintro e w8 ⟨rfl, hb8⟩
  have x0_8 : w8.cell? ⟨w1.heap.size, 0, none⟩ = some (.int .i64 xm) := carry hb8 (by go_simp)
  have x1_8 : w8.cell? ⟨w1.heap.size, 1, none⟩ = some (.int .i64 xe) := carry hb8 (by go_simp)
  have xz_8 : w1.heap.size < w8.heap.size := by have := hb8.size; first | omega | (simp at this; omega)
  have y0_8 : w8.cell? ⟨w2.heap.size, 0, none⟩ = some (.int .i64 ym) := carry hb8 (by go_simp)
  have y1_8 : w8.cell? ⟨w2.heap.size, 1, none⟩ = some (.int .i64 ye) := carry hb8 (by go_simp)
  have yz_8 : w2.heap.size < w8.heap.size := by have := hb8.size; first | omega | (simp at this; omega)
  have z0_8 : w8.cell? ⟨w3.heap.size, 0, none⟩ = some (.int .i64 zm) := carry hb8 (by go_simp)
  have z1_8 : w8.cell? ⟨w3.heap.size, 1, none⟩ = some (.int .i64 ze) := carry hb8 (by go_simp)
  have zz_8 : w3.heap.size < w8.heap.size := by have := hb8.size; first | omega | (simp at this; omega)
  have s0_8 : w8.cell? ⟨w7.heap.size, 0, none⟩ = some (.int .i64 sm) := carry hb8 (by go_simp)
  have s1_8 : w8.cell? ⟨w7.heap.size, 1, none⟩ = some (.int .i64 se) := carry hb8 (by go_simp)
  have sz_8 : w7.heap.size < w8.heap.size := by have := hb8.size; first | omega | (simp at this; omega)
  have HB_8 := Lib.hid ((by repeat (first | exact HB_7.out | refine Below.alloc ?_ (by first | omega | (simp <;> omega)) _) : Below w.heap.size w _).trans (hb8.mono (by first | omega | (simp <;> omega))))
  have nz_8 : w.heap.size ≤ w8.heap.size := HB_8.out.size
  clear hb8 x0_7 x1_7 y0_7 y1_7 z0_7 z1_7 HB_7
  go_wp2_with fail
  refine (HSan.out _ (by repeat (first | exact HB_8.out | refine Below.alloc ?_ (by first | omega | (simp <;> omega)) _))).mono ?_
  rintro e w9 ⟨rfl, hb9⟩
  have x0_9 : w9.cell? ⟨w1.heap.size, 0, none⟩ = some (.int .i64 xm) := carry hb9 (by go_simp)
  have x1_9 : w9.cell? ⟨w1.heap.size, 1, none⟩ = some (.int .i64 xe) := carry hb9 (by go_simp)
  have xz_9 : w1.heap.size < w9.heap.size := by have := hb9.size; first | omega | (simp at this; omega)
  have y0_9 : w9.cell? ⟨w2.heap.size, 0, none⟩ = some (.int .i64 ym) := carry hb9 (by go_simp)
  have y1_9 : w9.cell? ⟨w2.heap.size, 1, none⟩ = some (.int .i64 ye) := carry hb9 (by go_simp)
  have yz_9 : w2.heap.size < w9.heap.size := by have := hb9.size; first | omega | (simp at this; omega)
  have z0_9 : w9.cell? ⟨w3.heap.size, 0, none⟩ = some (.int .i64 zm) := carry hb9 (by go_simp)
  have z1_9 : w9.cell? ⟨w3.heap.size, 1, none⟩ = some (.int .i64 ze) := carry hb9 (by go_simp)
  have zz_9 : w3.heap.size < w9.heap.size := by have := hb9.size; first | omega | (simp at this; omega)
  have s0_9 : w9.cell? ⟨w7.heap.size, 0, none⟩ = some (.int .i64 sm) := carry hb9 (by go_simp)
  have s1_9 : w9.cell? ⟨w7.heap.size, 1, none⟩ = some (.int .i64 se) := carry hb9 (by go_simp)
  have sz_9 : w7.heap.size < w9.heap.size := by have := hb9.size; first | omega | (simp at this; omega)
  have d0_9 : w9.cell? ⟨w8.heap.size, 0, none⟩ = some (.int .i64 dm) := carry hb9 (by go_simp)
  have d1_9 : w9.cell? ⟨w8.heap.size, 1, none⟩ = some (.int .i64 de) := carry hb9 (by go_simp)
  have dz_9 : w8.heap.size < w9.heap.size := by have := hb9.size; first | omega | (simp at this; omega)
  have HB_9 := Lib.hid ((by repeat (first | exact HB_8.out | refine Below.alloc ?_ (by first | omega | (simp <;> omega)) _) : Below w.heap.size w _).trans (hb9.mono (by first | omega | (simp <;> omega))))
  have nz_9 : w.heap.size ≤ w9.heap.size := HB_9.out.size
  clear hb9 x0_8 x1_8 y0_8 y1_8 z0_8 z1_8 s0_8 s1_8 HB_8
  go_wp2_with fail
  go_ret
  exact ⟨rfl, by repeat (first | exact HB_9.out | refine Below.alloc ?_ (by first | omega | (simp <;> omega)) _)⟩

set_option maxRecDepth 100000 in
set_option maxHeartbeats 8000000 in
theorem e3 (i j k xm xe ym ye zm ze a b c sm se sx dm de dx : Int) (w : World) (HAx : Hid (∀ W : World, Calls Tryz.prog 8 #[.int .i64 i] W fun r w' => r = .returned (realV xm xe) ∧ Below W.heap.size W w')) (HAy : Hid (∀ W : World, Calls Tryz.prog 8 #[.int .i64 j] W fun r w' => r = .returned (realV ym ye) ∧ Below W.heap.size W w')) (HAz : Hid (∀ W : World, Calls Tryz.prog 8 #[.int .i64 k] W fun r w' => r = .returned (realV zm ze) ∧ Below W.heap.size W w')) (HSx : Hid (∀ W : World, Calls Tryz.prog 20 #[realV xm xe] W fun r w' => r = .returned (.tuple #[.int .i64 a, .bool true]) ∧ Below W.heap.size W w')) (HSy : Hid (∀ W : World, Calls Tryz.prog 20 #[realV ym ye] W fun r w' => r = .returned (.tuple #[.int .i64 b, .bool true]) ∧ Below W.heap.size W w')) (HSz : Hid (∀ W : World, Calls Tryz.prog 20 #[realV zm ze] W fun r w' => r = .returned (.tuple #[.int .i64 c, .bool false]) ∧ Below W.heap.size W w')) (HAdd : Hid (∀ W : World, Calls Tryz.prog 11 #[realV xm xe, realV ym ye] W fun r w' => r = .returned (rE sm se sx) ∧ Below W.heap.size W w')) (HSub : Hid (∀ W : World, Calls Tryz.prog 15 #[realV xm xe, realV ym ye] W fun r w' => r = .returned (rE dm de dx) ∧ Below W.heap.size W w')) (HSan : Hid (∀ W, Below w.heap.size w W → Calls Tryz.prog 19 #[] W fun r W' => r = .returned (.bool true) ∧ Below W.heap.size W W'))  :
    Calls Tryz.prog 4 #[.int .i64 i, .int .i64 j, .int .i64 k] w fun r w' => r = .returned (.bool true) ∧ Below w.heap.size w w' := by
  go_enter Tryz.func4, Tryz.ntmps4
  go_wp2_with fail
  refine (HAx.out _).mono ?_
  rintro e w1 ⟨rfl, hb1⟩
  have HB_1 := Lib.hid ((by repeat (first | exact Below.refl _ _ | refine Below.alloc ?_ (by first | omega | (simp <;> omega)) _) : Below w.heap.size w _).trans (hb1.mono (by first | omega | (simp <;> omega))))
  have nz_1 : w.heap.size ≤ w1.heap.size := HB_1.out.size
  clear hb1
  go_wp2_with fail
  refine (HAy.out _).mono ?_
  rintro e w2 ⟨rfl, hb2⟩
  have x0_2 : w2.cell? ⟨w1.heap.size, 0, none⟩ = some (.int .i64 xm) := carry hb2 (by go_simp)
  have x1_2 : w2.cell? ⟨w1.heap.size, 1, none⟩ = some (.int .i64 xe) := carry hb2 (by go_simp)
  have xz_2 : w1.heap.size < w2.heap.size := by have := hb2.size; first | omega | (simp at this; omega)
  have HB_2 := Lib.hid ((by repeat (first | exact HB_1.out | refine Below.alloc ?_ (by first | omega | (simp <;> omega)) _) : Below w.heap.size w _).trans (hb2.mono (by first | omega | (simp <;> omega))))
  have nz_2 : w.heap.size ≤ w2.heap.size := HB_2.out.size
  clear hb2 HB_1
  go_wp2_with fail
  refine (HAz.out _).mono ?_
  rintro e w3 ⟨rfl, hb3⟩
  have x0_3 : w3.cell? ⟨w1.heap.size, 0, none⟩ = some (.int .i64 xm) := carry hb3 (by go_simp)
  have x1_3 : w3.cell? ⟨w1.heap.size, 1, none⟩ = some (.int .i64 xe) := carry hb3 (by go_simp)
  have xz_3 : w1.heap.size < w3.heap.size := by have := hb3.size; first | omega | (simp at this; omega)
  have y0_3 : w3.cell? ⟨w2.heap.size, 0, none⟩ = some (.int .i64 ym) := carry hb3 (by go_simp)
  have y1_3 : w3.cell? ⟨w2.heap.size, 1, none⟩ = some (.int .i64 ye) := carry hb3 (by go_simp)
  have yz_3 : w2.heap.size < w3.heap.size := by have := hb3.size; first | omega | (simp at this; omega)
  have HB_3 := Lib.hid ((by repeat (first | exact HB_2.out | refine Below.alloc ?_ (by first | omega | (simp <;> omega)) _) : Below w.heap.size w _).trans (hb3.mono (by first | omega | (simp <;> omega))))
  have nz_3 : w.heap.size ≤ w3.heap.size := HB_3.out.size
  clear hb3 x0_2 x1_2 HB_2
  go_wp2_with fail
  refine (HSx.out _).mono ?_
  rintro e w4 ⟨rfl, hb4⟩
  have x0_4 : w4.cell? ⟨w1.heap.size, 0, none⟩ = some (.int .i64 xm) := carry hb4 (by go_simp)
  have x1_4 : w4.cell? ⟨w1.heap.size, 1, none⟩ = some (.int .i64 xe) := carry hb4 (by go_simp)
  have xz_4 : w1.heap.size < w4.heap.size := by have := hb4.size; first | omega | (simp at this; omega)
  have y0_4 : w4.cell? ⟨w2.heap.size, 0, none⟩ = some (.int .i64 ym) := carry hb4 (by go_simp)
  have y1_4 : w4.cell? ⟨w2.heap.size, 1, none⟩ = some (.int .i64 ye) := carry hb4 (by go_simp)
  have yz_4 : w2.heap.size < w4.heap.size := by have := hb4.size; first | omega | (simp at this; omega)
  have z0_4 : w4.cell? ⟨w3.heap.size, 0, none⟩ = some (.int .i64 zm) := carry hb4 (by go_simp)
  have z1_4 : w4.cell? ⟨w3.heap.size, 1, none⟩ = some (.int .i64 ze) := carry hb4 (by go_simp)
  have zz_4 : w3.heap.size < w4.heap.size := by have := hb4.size; first | omega | (simp at this; omega)
  have HB_4 := Lib.hid ((by repeat (first | exact HB_3.out | refine Below.alloc ?_ (by first | omega | (simp <;> omega)) _) : Below w.heap.size w _).trans (hb4.mono (by first | omega | (simp <;> omega))))
  have nz_4 : w.heap.size ≤ w4.heap.size := HB_4.out.size
  clear hb4 x0_3 x1_3 y0_3 y1_3 HB_3
  go_wp2_with fail
  refine (HSy.out _).mono ?_
  rintro e w5 ⟨rfl, hb5⟩
  have x0_5 : w5.cell? ⟨w1.heap.size, 0, none⟩ = some (.int .i64 xm) := carry hb5 (by go_simp)
  have x1_5 : w5.cell? ⟨w1.heap.size, 1, none⟩ = some (.int .i64 xe) := carry hb5 (by go_simp)
  have xz_5 : w1.heap.size < w5.heap.size := by have := hb5.size; first | omega | (simp at this; omega)
  have y0_5 : w5.cell? ⟨w2.heap.size, 0, none⟩ = some (.int .i64 ym) := carry hb5 (by go_simp)
  have y1_5 : w5.cell? ⟨w2.heap.size, 1, none⟩ = some (.int .i64 ye) := carry hb5 (by go_simp)
  have yz_5 : w2.heap.size < w5.heap.size := by have := hb5.size; first | omega | (simp at this; omega)
  have z0_5 : w5.cell? ⟨w3.heap.size, 0, none⟩ = some (.int .i64 zm) := carry hb5 (by go_simp)
  have z1_5 : w5.cell? ⟨w3.heap.size, 1, none⟩ = some (.int .i64 ze) := carry hb5 (by go_simp)
  have zz_5 : w3.heap.size < w5.heap.size := by have := hb5.size; first | omega | (simp at this; omega)
  have HB_5 := Lib.hid ((by repeat (first | exact HB_4.out | refine Below.alloc ?_ (by first | omega | (simp <;> omega)) _) : Below w.heap.size w _).trans (hb5.mono (by first | omega | (simp <;> omega))))
  have nz_5 : w.heap.size ≤ w5.heap.size := HB_5.out.size
  clear hb5 x0_4 x1_4 y0_4 y1_4 z0_4 z1_4 HB_4
  go_wp2_with fail
  refine (HSz.out _).mono ?_
  rintro e w6 ⟨rfl, hb6⟩
  have x0_6 : w6.cell? ⟨w1.heap.size, 0, none⟩ = some (.int .i64 xm) := carry hb6 (by go_simp)
  have x1_6 : w6.cell? ⟨w1.heap.size, 1, none⟩ = some (.int .i64 xe) := carry hb6 (by go_simp)
  have xz_6 : w1.heap.size < w6.heap.size := by have := hb6.size; first | omega | (simp at this; omega)
  have y0_6 : w6.cell? ⟨w2.heap.size, 0, none⟩ = some (.int .i64 ym) := carry hb6 (by go_simp)
  have y1_6 : w6.cell? ⟨w2.heap.size, 1, none⟩ = some (.int .i64 ye) := carry hb6 (by go_simp)
  have yz_6 : w2.heap.size < w6.heap.size := by have := hb6.size; first | omega | (simp at this; omega)
  have z0_6 : w6.cell? ⟨w3.heap.size, 0, none⟩ = some (.int .i64 zm) := carry hb6 (by go_simp)
  have z1_6 : w6.cell? ⟨w3.heap.size, 1, none⟩ = some (.int .i64 ze) := carry hb6 (by go_simp)
  have zz_6 : w3.heap.size < w6.heap.size := by have := hb6.size; first | omega | (simp at this; omega)
  have HB_6 := Lib.hid ((by repeat (first | exact HB_5.out | refine Below.alloc ?_ (by first | omega | (simp <;> omega)) _) : Below w.heap.size w _).trans (hb6.mono (by first | omega | (simp <;> omega))))
  have nz_6 : w.heap.size ≤ w6.heap.size := HB_6.out.size
  clear hb6 x0_5 x1_5 y0_5 y1_5 z0_5 z1_5 HB_5
  go_wp2_with fail
  refine (HAdd.out _).mono ?_
  rintro e w7 ⟨rfl, hb7⟩
  have x0_7 : w7.cell? ⟨w1.heap.size, 0, none⟩ = some (.int .i64 xm) := carry hb7 (by go_simp)
  have x1_7 : w7.cell? ⟨w1.heap.size, 1, none⟩ = some (.int .i64 xe) := carry hb7 (by go_simp)
  have xz_7 : w1.heap.size < w7.heap.size := by have := hb7.size; first | omega | (simp at this; omega)
  have y0_7 : w7.cell? ⟨w2.heap.size, 0, none⟩ = some (.int .i64 ym) := carry hb7 (by go_simp)
  have y1_7 : w7.cell? ⟨w2.heap.size, 1, none⟩ = some (.int .i64 ye) := carry hb7 (by go_simp)
  have yz_7 : w2.heap.size < w7.heap.size := by have := hb7.size; first | omega | (simp at this; omega)
  have z0_7 : w7.cell? ⟨w3.heap.size, 0, none⟩ = some (.int .i64 zm) := carry hb7 (by go_simp)
  have z1_7 : w7.cell? ⟨w3.heap.size, 1, none⟩ = some (.int .i64 ze) := carry hb7 (by go_simp)
  have zz_7 : w3.heap.size < w7.heap.size := by have := hb7.size; first | omega | (simp at this; omega)
  have HB_7 := Lib.hid ((by repeat (first | exact HB_6.out | refine Below.alloc ?_ (by first | omega | (simp <;> omega)) _) : Below w.heap.size w _).trans (hb7.mono (by first | omega | (simp <;> omega))))
  have nz_7 : w.heap.size ≤ w7.heap.size := HB_7.out.size
  clear hb7 x0_6 x1_6 y0_6 y1_6 z0_6 z1_6 HB_6
  go_wp2_with fail
  refine (HSub.out _).mono ?_
  rintro e w8 ⟨rfl, hb8⟩
  have x0_8 : w8.cell? ⟨w1.heap.size, 0, none⟩ = some (.int .i64 xm) := carry hb8 (by go_simp)
  have x1_8 : w8.cell? ⟨w1.heap.size, 1, none⟩ = some (.int .i64 xe) := carry hb8 (by go_simp)
  have xz_8 : w1.heap.size < w8.heap.size := by have := hb8.size; first | omega | (simp at this; omega)
  have y0_8 : w8.cell? ⟨w2.heap.size, 0, none⟩ = some (.int .i64 ym) := carry hb8 (by go_simp)
  have y1_8 : w8.cell? ⟨w2.heap.size, 1, none⟩ = some (.int .i64 ye) := carry hb8 (by go_simp)
  have yz_8 : w2.heap.size < w8.heap.size := by have := hb8.size; first | omega | (simp at this; omega)
  have z0_8 : w8.cell? ⟨w3.heap.size, 0, none⟩ = some (.int .i64 zm) := carry hb8 (by go_simp)
  have z1_8 : w8.cell? ⟨w3.heap.size, 1, none⟩ = some (.int .i64 ze) := carry hb8 (by go_simp)
  have zz_8 : w3.heap.size < w8.heap.size := by have := hb8.size; first | omega | (simp at this; omega)
  have s0_8 : w8.cell? ⟨w7.heap.size, 0, none⟩ = some (.int .i64 sm) := carry hb8 (by go_simp)
  have s1_8 : w8.cell? ⟨w7.heap.size, 1, none⟩ = some (.int .i64 se) := carry hb8 (by go_simp)
  have sz_8 : w7.heap.size < w8.heap.size := by have := hb8.size; first | omega | (simp at this; omega)
  have HB_8 := Lib.hid ((by repeat (first | exact HB_7.out | refine Below.alloc ?_ (by first | omega | (simp <;> omega)) _) : Below w.heap.size w _).trans (hb8.mono (by first | omega | (simp <;> omega))))
  have nz_8 : w.heap.size ≤ w8.heap.size := HB_8.out.size
  clear hb8 x0_7 x1_7 y0_7 y1_7 z0_7 z1_7 HB_7
  go_wp2_with fail
  refine (HSan.out _ (by repeat (first | exact HB_8.out | refine Below.alloc ?_ (by first | omega | (simp <;> omega)) _))).mono ?_
  rintro e w9 ⟨rfl, hb9⟩
  have x0_9 : w9.cell? ⟨w1.heap.size, 0, none⟩ = some (.int .i64 xm) := carry hb9 (by go_simp)
  have x1_9 : w9.cell? ⟨w1.heap.size, 1, none⟩ = some (.int .i64 xe) := carry hb9 (by go_simp)
  have xz_9 : w1.heap.size < w9.heap.size := by have := hb9.size; first | omega | (simp at this; omega)
  have y0_9 : w9.cell? ⟨w2.heap.size, 0, none⟩ = some (.int .i64 ym) := carry hb9 (by go_simp)
  have y1_9 : w9.cell? ⟨w2.heap.size, 1, none⟩ = some (.int .i64 ye) := carry hb9 (by go_simp)
  have yz_9 : w2.heap.size < w9.heap.size := by have := hb9.size; first | omega | (simp at this; omega)
  have z0_9 : w9.cell? ⟨w3.heap.size, 0, none⟩ = some (.int .i64 zm) := carry hb9 (by go_simp)
  have z1_9 : w9.cell? ⟨w3.heap.size, 1, none⟩ = some (.int .i64 ze) := carry hb9 (by go_simp)
  have zz_9 : w3.heap.size < w9.heap.size := by have := hb9.size; first | omega | (simp at this; omega)
  have s0_9 : w9.cell? ⟨w7.heap.size, 0, none⟩ = some (.int .i64 sm) := carry hb9 (by go_simp)
  have s1_9 : w9.cell? ⟨w7.heap.size, 1, none⟩ = some (.int .i64 se) := carry hb9 (by go_simp)
  have sz_9 : w7.heap.size < w9.heap.size := by have := hb9.size; first | omega | (simp at this; omega)
  have d0_9 : w9.cell? ⟨w8.heap.size, 0, none⟩ = some (.int .i64 dm) := carry hb9 (by go_simp)
  have d1_9 : w9.cell? ⟨w8.heap.size, 1, none⟩ = some (.int .i64 de) := carry hb9 (by go_simp)
  have dz_9 : w8.heap.size < w9.heap.size := by have := hb9.size; first | omega | (simp at this; omega)
  have HB_9 := Lib.hid ((by repeat (first | exact HB_8.out | refine Below.alloc ?_ (by first | omega | (simp <;> omega)) _) : Below w.heap.size w _).trans (hb9.mono (by first | omega | (simp <;> omega))))
  have nz_9 : w.heap.size ≤ w9.heap.size := HB_9.out.size
  clear hb9 x0_8 x1_8 y0_8 y1_8 z0_8 z1_8 s0_8 s1_8 HB_8
  go_wp2_with fail
  go_ret
  exact ⟨rfl, by repeat (first | exact HB_9.out | refine Below.alloc ?_ (by first | omega | (simp <;> omega)) _)⟩

set_option maxRecDepth 100000 in
set_option maxHeartbeats 8000000 in
theorem e4 (i j k xm xe ym ye zm ze a b c sm se sx dm de dx : Int) (w : World) (HAx : Hid (∀ W : World, Calls Tryz.prog 8 #[.int .i64 i] W fun r w' => r = .returned (realV xm xe) ∧ Below W.heap.size W w')) (HAy : Hid (∀ W : World, Calls Tryz.prog 8 #[.int .i64 j] W fun r w' => r = .returned (realV ym ye) ∧ Below W.heap.size W w')) (HAz : Hid (∀ W : World, Calls Tryz.prog 8 #[.int .i64 k] W fun r w' => r = .returned (realV zm ze) ∧ Below W.heap.size W w')) (HSx : Hid (∀ W : World, Calls Tryz.prog 20 #[realV xm xe] W fun r w' => r = .returned (.tuple #[.int .i64 a, .bool true]) ∧ Below W.heap.size W w')) (HSy : Hid (∀ W : World, Calls Tryz.prog 20 #[realV ym ye] W fun r w' => r = .returned (.tuple #[.int .i64 b, .bool true]) ∧ Below W.heap.size W w')) (HSz : Hid (∀ W : World, Calls Tryz.prog 20 #[realV zm ze] W fun r w' => r = .returned (.tuple #[.int .i64 c, .bool true]) ∧ Below W.heap.size W w')) (HAdd : Hid (∀ W : World, Calls Tryz.prog 11 #[realV xm xe, realV ym ye] W fun r w' => r = .returned (rE sm se sx) ∧ Below W.heap.size W w')) (HSub : Hid (∀ W : World, Calls Tryz.prog 15 #[realV xm xe, realV ym ye] W fun r w' => r = .returned (rE dm de dx) ∧ Below W.heap.size W w')) (HSan : Hid (∀ W, Below w.heap.size w W → Calls Tryz.prog 19 #[] W fun r W' => r = .returned (.bool true) ∧ Below W.heap.size W W')) (x1 : -24 < xe) (x2 : (xm != 0) = true)  :
    Calls Tryz.prog 4 #[.int .i64 i, .int .i64 j, .int .i64 k] w fun r w' => r = .returned (.bool true) ∧ Below w.heap.size w w' := by
  go_enter Tryz.func4, Tryz.ntmps4
  go_wp2_with fail
  refine (HAx.out _).mono ?_
  rintro e w1 ⟨rfl, hb1⟩
  have HB_1 := Lib.hid ((by repeat (first | exact Below.refl _ _ | refine Below.alloc ?_ (by first | omega | (simp <;> omega)) _) : Below w.heap.size w _).trans (hb1.mono (by first | omega | (simp <;> omega))))
  have nz_1 : w.heap.size ≤ w1.heap.size := HB_1.out.size
  clear hb1
  go_wp2_with fail
  refine (HAy.out _).mono ?_
  rintro e w2 ⟨rfl, hb2⟩
  have x0_2 : w2.cell? ⟨w1.heap.size, 0, none⟩ = some (.int .i64 xm) := carry hb2 (by go_simp)
  have x1_2 : w2.cell? ⟨w1.heap.size, 1, none⟩ = some (.int .i64 xe) := carry hb2 (by go_simp)
  have xz_2 : w1.heap.size < w2.heap.size := by have := hb2.size; first | omega | (simp at this; omega)
  have HB_2 := Lib.hid ((by repeat (first | exact HB_1.out | refine Below.alloc ?_ (by first | omega | (simp <;> omega)) _) : Below w.heap.size w _).trans (hb2.mono (by first | omega | (simp <;> omega))))
  have nz_2 : w.heap.size ≤ w2.heap.size := HB_2.out.size
  clear hb2 HB_1
  go_wp2_with fail
  refine (HAz.out _).mono ?_
  rintro e w3 ⟨rfl, hb3⟩
  have x0_3 : w3.cell? ⟨w1.heap.size, 0, none⟩ = some (.int .i64 xm) := carry hb3 (by go_simp)
  have x1_3 : w3.cell? ⟨w1.heap.size, 1, none⟩ = some (.int .i64 xe) := carry hb3 (by go_simp)
  have xz_3 : w1.heap.size < w3.heap.size := by have := hb3.size; first | omega | (simp at this; omega)
  have y0_3 : w3.cell? ⟨w2.heap.size, 0, none⟩ = some (.int .i64 ym) := carry hb3 (by go_simp)
  have y1_3 : w3.cell? ⟨w2.heap.size, 1, none⟩ = some (.int .i64 ye) := carry hb3 (by go_simp)
  have yz_3 : w2.heap.size < w3.heap.size := by have := hb3.size; first | omega | (simp at this; omega)
  have HB_3 := Lib.hid ((by repeat (first | exact HB_2.out | refine Below.alloc ?_ (by first | omega | (simp <;> omega)) _) : Below w.heap.size w _).trans (hb3.mono (by first | omega | (simp <;> omega))))
  have nz_3 : w.heap.size ≤ w3.heap.size := HB_3.out.size
  clear hb3 x0_2 x1_2 HB_2
  go_wp2_with fail
  refine (HSx.out _).mono ?_
  rintro e w4 ⟨rfl, hb4⟩
  have x0_4 : w4.cell? ⟨w1.heap.size, 0, none⟩ = some (.int .i64 xm) := carry hb4 (by go_simp)
  have x1_4 : w4.cell? ⟨w1.heap.size, 1, none⟩ = some (.int .i64 xe) := carry hb4 (by go_simp)
  have xz_4 : w1.heap.size < w4.heap.size := by have := hb4.size; first | omega | (simp at this; omega)
  have y0_4 : w4.cell? ⟨w2.heap.size, 0, none⟩ = some (.int .i64 ym) := carry hb4 (by go_simp)
  have y1_4 : w4.cell? ⟨w2.heap.size, 1, none⟩ = some (.int .i64 ye) := carry hb4 (by go_simp)
  have yz_4 : w2.heap.size < w4.heap.size := by have := hb4.size; first | omega | (simp at this; omega)
  have z0_4 : w4.cell? ⟨w3.heap.size, 0, none⟩ = some (.int .i64 zm) := carry hb4 (by go_simp)
  have z1_4 : w4.cell? ⟨w3.heap.size, 1, none⟩ = some (.int .i64 ze) := carry hb4 (by go_simp)
  have zz_4 : w3.heap.size < w4.heap.size := by have := hb4.size; first | omega | (simp at this; omega)
  have HB_4 := Lib.hid ((by repeat (first | exact HB_3.out | refine Below.alloc ?_ (by first | omega | (simp <;> omega)) _) : Below w.heap.size w _).trans (hb4.mono (by first | omega | (simp <;> omega))))
  have nz_4 : w.heap.size ≤ w4.heap.size := HB_4.out.size
  clear hb4 x0_3 x1_3 y0_3 y1_3 HB_3
  go_wp2_with fail
  refine (HSy.out _).mono ?_
  rintro e w5 ⟨rfl, hb5⟩
  have x0_5 : w5.cell? ⟨w1.heap.size, 0, none⟩ = some (.int .i64 xm) := carry hb5 (by go_simp)
  have x1_5 : w5.cell? ⟨w1.heap.size, 1, none⟩ = some (.int .i64 xe) := carry hb5 (by go_simp)
  have xz_5 : w1.heap.size < w5.heap.size := by have := hb5.size; first | omega | (simp at this; omega)
  have y0_5 : w5.cell? ⟨w2.heap.size, 0, none⟩ = some (.int .i64 ym) := carry hb5 (by go_simp)
  have y1_5 : w5.cell? ⟨w2.heap.size, 1, none⟩ = some (.int .i64 ye) := carry hb5 (by go_simp)
  have yz_5 : w2.heap.size < w5.heap.size := by have := hb5.size; first | omega | (simp at this; omega)
  have z0_5 : w5.cell? ⟨w3.heap.size, 0, none⟩ = some (.int .i64 zm) := carry hb5 (by go_simp)
  have z1_5 : w5.cell? ⟨w3.heap.size, 1, none⟩ = some (.int .i64 ze) := carry hb5 (by go_simp)
  have zz_5 : w3.heap.size < w5.heap.size := by have := hb5.size; first | omega | (simp at this; omega)
  have HB_5 := Lib.hid ((by repeat (first | exact HB_4.out | refine Below.alloc ?_ (by first | omega | (simp <;> omega)) _) : Below w.heap.size w _).trans (hb5.mono (by first | omega | (simp <;> omega))))
  have nz_5 : w.heap.size ≤ w5.heap.size := HB_5.out.size
  clear hb5 x0_4 x1_4 y0_4 y1_4 z0_4 z1_4 HB_4
  go_wp2_with fail
  refine (HSz.out _).mono ?_
  rintro e w6 ⟨rfl, hb6⟩
  have x0_6 : w6.cell? ⟨w1.heap.size, 0, none⟩ = some (.int .i64 xm) := carry hb6 (by go_simp)
  have x1_6 : w6.cell? ⟨w1.heap.size, 1, none⟩ = some (.int .i64 xe) := carry hb6 (by go_simp)
  have xz_6 : w1.heap.size < w6.heap.size := by have := hb6.size; first | omega | (simp at this; omega)
  have y0_6 : w6.cell? ⟨w2.heap.size, 0, none⟩ = some (.int .i64 ym) := carry hb6 (by go_simp)
  have y1_6 : w6.cell? ⟨w2.heap.size, 1, none⟩ = some (.int .i64 ye) := carry hb6 (by go_simp)
  have yz_6 : w2.heap.size < w6.heap.size := by have := hb6.size; first | omega | (simp at this; omega)
  have z0_6 : w6.cell? ⟨w3.heap.size, 0, none⟩ = some (.int .i64 zm) := carry hb6 (by go_simp)
  have z1_6 : w6.cell? ⟨w3.heap.size, 1, none⟩ = some (.int .i64 ze) := carry hb6 (by go_simp)
  have zz_6 : w3.heap.size < w6.heap.size := by have := hb6.size; first | omega | (simp at this; omega)
  have HB_6 := Lib.hid ((by repeat (first | exact HB_5.out | refine Below.alloc ?_ (by first | omega | (simp <;> omega)) _) : Below w.heap.size w _).trans (hb6.mono (by first | omega | (simp <;> omega))))
  have nz_6 : w.heap.size ≤ w6.heap.size := HB_6.out.size
  clear hb6 x0_5 x1_5 y0_5 y1_5 z0_5 z1_5 HB_5
  go_wp2_with fail
  refine (HAdd.out _).mono ?_
  rintro e w7 ⟨rfl, hb7⟩
  have x0_7 : w7.cell? ⟨w1.heap.size, 0, none⟩ = some (.int .i64 xm) := carry hb7 (by go_simp)
  have x1_7 : w7.cell? ⟨w1.heap.size, 1, none⟩ = some (.int .i64 xe) := carry hb7 (by go_simp)
  have xz_7 : w1.heap.size < w7.heap.size := by have := hb7.size; first | omega | (simp at this; omega)
  have y0_7 : w7.cell? ⟨w2.heap.size, 0, none⟩ = some (.int .i64 ym) := carry hb7 (by go_simp)
  have y1_7 : w7.cell? ⟨w2.heap.size, 1, none⟩ = some (.int .i64 ye) := carry hb7 (by go_simp)
  have yz_7 : w2.heap.size < w7.heap.size := by have := hb7.size; first | omega | (simp at this; omega)
  have z0_7 : w7.cell? ⟨w3.heap.size, 0, none⟩ = some (.int .i64 zm) := carry hb7 (by go_simp)
  have z1_7 : w7.cell? ⟨w3.heap.size, 1, none⟩ = some (.int .i64 ze) := carry hb7 (by go_simp)
  have zz_7 : w3.heap.size < w7.heap.size := by have := hb7.size; first | omega | (simp at this; omega)
  have HB_7 := Lib.hid ((by repeat (first | exact HB_6.out | refine Below.alloc ?_ (by first | omega | (simp <;> omega)) _) : Below w.heap.size w _).trans (hb7.mono (by first | omega | (simp <;> omega))))
  have nz_7 : w.heap.size ≤ w7.heap.size := HB_7.out.size
  clear hb7 x0_6 x1_6 y0_6 y1_6 z0_6 z1_6 HB_6
  go_wp2_with fail
  refine (HSub.out _).mono ?_
  rintro e w8 ⟨rfl, hb8⟩
  have x0_8 : w8.cell? ⟨w1.heap.size, 0, none⟩ = some (.int .i64 xm) := carry hb8 (by go_simp)
  have x1_8 : w8.cell? ⟨w1.heap.size, 1, none⟩ = some (.int .i64 xe) := carry hb8 (by go_simp)
  have xz_8 : w1.heap.size < w8.heap.size := by have := hb8.size; first | omega | (simp at this; omega)
  have y0_8 : w8.cell? ⟨w2.heap.size, 0, none⟩ = some (.int .i64 ym) := carry hb8 (by go_simp)
  have y1_8 : w8.cell? ⟨w2.heap.size, 1, none⟩ = some (.int .i64 ye) := carry hb8 (by go_simp)
  have yz_8 : w2.heap.size < w8.heap.size := by have := hb8.size; first | omega | (simp at this; omega)
  have z0_8 : w8.cell? ⟨w3.heap.size, 0, none⟩ = some (.int .i64 zm) := carry hb8 (by go_simp)
  have z1_8 : w8.cell? ⟨w3.heap.size, 1, none⟩ = some (.int .i64 ze) := carry hb8 (by go_simp)
  have zz_8 : w3.heap.size < w8.heap.size := by have := hb8.size; first | omega | (simp at this; omega)
  have s0_8 : w8.cell? ⟨w7.heap.size, 0, none⟩ = some (.int .i64 sm) := carry hb8 (by go_simp)
  have s1_8 : w8.cell? ⟨w7.heap.size, 1, none⟩ = some (.int .i64 se) := carry hb8 (by go_simp)
  have sz_8 : w7.heap.size < w8.heap.size := by have := hb8.size; first | omega | (simp at this; omega)
  have HB_8 := Lib.hid ((by repeat (first | exact HB_7.out | refine Below.alloc ?_ (by first | omega | (simp <;> omega)) _) : Below w.heap.size w _).trans (hb8.mono (by first | omega | (simp <;> omega))))
  have nz_8 : w.heap.size ≤ w8.heap.size := HB_8.out.size
  clear hb8 x0_7 x1_7 y0_7 y1_7 z0_7 z1_7 HB_7
  go_wp2_with fail
  refine (HSan.out _ (by repeat (first | exact HB_8.out | refine Below.alloc ?_ (by first | omega | (simp <;> omega)) _))).mono ?_
  rintro e w9 ⟨rfl, hb9⟩
  have x0_9 : w9.cell? ⟨w1.heap.size, 0, none⟩ = some (.int .i64 xm) := carry hb9 (by go_simp)
  have x1_9 : w9.cell? ⟨w1.heap.size, 1, none⟩ = some (.int .i64 xe) := carry hb9 (by go_simp)
  have xz_9 : w1.heap.size < w9.heap.size := by have := hb9.size; first | omega | (simp at this; omega)
  have y0_9 : w9.cell? ⟨w2.heap.size, 0, none⟩ = some (.int .i64 ym) := carry hb9 (by go_simp)
  have y1_9 : w9.cell? ⟨w2.heap.size, 1, none⟩ = some (.int .i64 ye) := carry hb9 (by go_simp)
  have yz_9 : w2.heap.size < w9.heap.size := by have := hb9.size; first | omega | (simp at this; omega)
  have z0_9 : w9.cell? ⟨w3.heap.size, 0, none⟩ = some (.int .i64 zm) := carry hb9 (by go_simp)
  have z1_9 : w9.cell? ⟨w3.heap.size, 1, none⟩ = some (.int .i64 ze) := carry hb9 (by go_simp)
  have zz_9 : w3.heap.size < w9.heap.size := by have := hb9.size; first | omega | (simp at this; omega)
  have s0_9 : w9.cell? ⟨w7.heap.size, 0, none⟩ = some (.int .i64 sm) := carry hb9 (by go_simp)
  have s1_9 : w9.cell? ⟨w7.heap.size, 1, none⟩ = some (.int .i64 se) := carry hb9 (by go_simp)
  have sz_9 : w7.heap.size < w9.heap.size := by have := hb9.size; first | omega | (simp at this; omega)
  have d0_9 : w9.cell? ⟨w8.heap.size, 0, none⟩ = some (.int .i64 dm) := carry hb9 (by go_simp)
  have d1_9 : w9.cell? ⟨w8.heap.size, 1, none⟩ = some (.int .i64 de) := carry hb9 (by go_simp)
  have dz_9 : w8.heap.size < w9.heap.size := by have := hb9.size; first | omega | (simp at this; omega)
  have HB_9 := Lib.hid ((by repeat (first | exact HB_8.out | refine Below.alloc ?_ (by first | omega | (simp <;> omega)) _) : Below w.heap.size w _).trans (hb9.mono (by first | omega | (simp <;> omega))))
  have nz_9 : w.heap.size ≤ w9.heap.size := HB_9.out.size
  clear hb9 x0_8 x1_8 y0_8 y1_8 z0_8 z1_8 s0_8 s1_8 HB_8
  go_wp2_with fail
  go_ret
  exact ⟨rfl, by repeat (first | exact HB_9.out | refine Below.alloc ?_ (by first | omega | (simp <;> omega)) _)⟩

set_option maxRecDepth 100000 in
set_option maxHeartbeats 8000000 in
theorem e5 (i j k xm xe ym ye zm ze a b c sm se sx dm de dx : Int) (w : World) (HAx : Hid (∀ W : World, Calls Tryz.prog 8 #[.int .i64 i] W fun r w' => r = .returned (realV xm xe) ∧ Below W.heap.size W w')) (HAy : Hid (∀ W : World, Calls Tryz.prog 8 #[.int .i64 j] W fun r w' => r = .returned (realV ym ye) ∧ Below W.heap.size W w')) (HAz : Hid (∀ W : World, Calls Tryz.prog 8 #[.int .i64 k] W fun r w' => r = .returned (realV zm ze) ∧ Below W.heap.size W w')) (HSx : Hid (∀ W : World, Calls Tryz.prog 20 #[realV xm xe] W fun r w' => r = .returned (.tuple #[.int .i64 a, .bool true]) ∧ Below W.heap.size W w')) (HSy : Hid (∀ W : World, Calls Tryz.prog 20 #[realV ym ye] W fun r w' => r = .returned (.tuple #[.int .i64 b, .bool true]) ∧ Below W.heap.size W w')) (HSz : Hid (∀ W : World, Calls Tryz.prog 20 #[realV zm ze] W fun r w' => r = .returned (.tuple #[.int .i64 c, .bool true]) ∧ Below W.heap.size W w')) (HAdd : Hid (∀ W : World, Calls Tryz.prog 11 #[realV xm xe, realV ym ye] W fun r w' => r = .returned (rE sm se sx) ∧ Below W.heap.size W w')) (HSub : Hid (∀ W : World, Calls Tryz.prog 15 #[realV xm xe, realV ym ye] W fun r w' => r = .returned (rE dm de dx) ∧ Below W.heap.size W w')) (HSan : Hid (∀ W, Below w.heap.size w W → Calls Tryz.prog 19 #[] W fun r W' => r = .returned (.bool true) ∧ Below W.heap.size W W')) (x1 : ¬ -24 < xe) (y1 : -24 < ye) (y2 : (ym != 0) = true)  :
    Calls Tryz.prog 4 #[.int .i64 i, .int .i64 j, .int .i64 k] w fun r w' => r = .returned (.bool true) ∧ Below w.heap.size w w' := by
  go_enter Tryz.func4, Tryz.ntmps4
  go_wp2_with fail
  refine (HAx.out _).mono ?_
  rintro e w1 ⟨rfl, hb1⟩
  have HB_1 := Lib.hid ((by repeat (first | exact Below.refl _ _ | refine Below.alloc ?_ (by first | omega | (simp <;> omega)) _) : Below w.heap.size w _).trans (hb1.mono (by first | omega | (simp <;> omega))))
  have nz_1 : w.heap.size ≤ w1.heap.size := HB_1.out.size
  clear hb1
  go_wp2_with fail
  refine (HAy.out _).mono ?_
  rintro e w2 ⟨rfl, hb2⟩
  have x0_2 : w2.cell? ⟨w1.heap.size, 0, none⟩ = some (.int .i64 xm) := carry hb2 (by go_simp)
  have x1_2 : w2.cell? ⟨w1.heap.size, 1, none⟩ = some (.int .i64 xe) := carry hb2 (by go_simp)
  have xz_2 : w1.heap.size < w2.heap.size := by have := hb2.size; first | omega | (simp at this; omega)
  have HB_2 := Lib.hid ((by repeat (first | exact HB_1.out | refine Below.alloc ?_ (by first | omega | (simp <;> omega)) _) : Below w.heap.size w _).trans (hb2.mono (by first | omega | (simp <;> omega))))
  have nz_2 : w.heap.size ≤ w2.heap.size := HB_2.out.size
  clear hb2 HB_1
  go_wp2_with fail
  refine (HAz.out _).mono ?_
  rintro e w3 ⟨rfl, hb3⟩
  have x0_3 : w3.cell? ⟨w1.heap.size, 0, none⟩ = some (.int .i64 xm) := carry hb3 (by go_simp)
  have x1_3 : w3.cell? ⟨w1.heap.size, 1, none⟩ = some (.int .i64 xe) := carry hb3 (by go_simp)
  have xz_3 : w1.heap.size < w3.heap.size := by have := hb3.size; first | omega | (simp at this; omega)
  have y0_3 : w3.cell? ⟨w2.heap.size, 0, none⟩ = some (.int .i64 ym) := carry hb3 (by go_simp)
  have y1_3 : w3.cell? ⟨w2.heap.size, 1, none⟩ = some (.int .i64 ye) := carry hb3 (by go_simp)
  have yz_3 : w2.heap.size < w3.heap.size := by have := hb3.size; first | omega | (simp at this; omega)
  have HB_3 := Lib.hid ((by repeat (first | exact HB_2.out | refine Below.alloc ?_ (by first | omega | (simp <;> omega)) _) : Below w.heap.size w _).trans (hb3.mono (by first | omega | (simp <;> omega))))
  have nz_3 : w.heap.size ≤ w3.heap.size := HB_3.out.size
  clear hb3 x0_2 x1_2 HB_2
  go_wp2_with fail
  refine (HSx.out _).mono ?_
  rintro e w4 ⟨rfl, hb4⟩
  have x0_4 : w4.cell? ⟨w1.heap.size, 0, none⟩ = some (.int .i64 xm) := carry hb4 (by go_simp)
  have x1_4 : w4.cell? ⟨w1.heap.size, 1, none⟩ = some (.int .i64 xe) := carry hb4 (by go_simp)
  have xz_4 : w1.heap.size < w4.heap.size := by have := hb4.size; first | omega | (simp at this; omega)
  have y0_4 : w4.cell? ⟨w2.heap.size, 0, none⟩ = some (.int .i64 ym) := carry hb4 (by go_simp)
  have y1_4 : w4.cell? ⟨w2.heap.size, 1, none⟩ = some (.int .i64 ye) := carry hb4 (by go_simp)
  have yz_4 : w2.heap.size < w4.heap.size := by have := hb4.size; first | omega | (simp at this; omega)
  have z0_4 : w4.cell? ⟨w3.heap.size, 0, none⟩ = some (.int .i64 zm) := carry hb4 (by go_simp)
  have z1_4 : w4.cell? ⟨w3.heap.size, 1, none⟩ = some (.int .i64 ze) := carry hb4 (by go_simp)
  have zz_4 : w3.heap.size < w4.heap.size := by have := hb4.size; first | omega | (simp at this; omega)
  have HB_4 := Lib.hid ((by repeat (first | exact HB_3.out | refine Below.alloc ?_ (by first | omega | (simp <;> omega)) _) : Below w.heap.size w _).trans (hb4.mono (by first | omega | (simp <;> omega))))
  have nz_4 : w.heap.size ≤ w4.heap.size := HB_4.out.size
  clear hb4 x0_3 x1_3 y0_3 y1_3 HB_3
  go_wp2_with fail
  refine (HSy.out _).mono ?_
  rintro e w5 ⟨rfl, hb5⟩
  have x0_5 : w5.cell? ⟨w1.heap.size, 0, none⟩ = some (.int .i64 xm) := carry hb5 (by go_simp)
  have x1_5 : w5.cell? ⟨w1.heap.size, 1, none⟩ = some (.int .i64 xe) := carry hb5 (by go_simp)
  have xz_5 : w1.heap.size < w5.heap.size := by have := hb5.size; first | omega | (simp at this; omega)
  have y0_5 : w5.cell? ⟨w2.heap.size, 0, none⟩ = some (.int .i64 ym) := carry hb5 (by go_simp)
  have y1_5 : w5.cell? ⟨w2.heap.size, 1, none⟩ = some (.int .i64 ye) := carry hb5 (by go_simp)
  have yz_5 : w2.heap.size < w5.heap.size := by have := hb5.size; first | omega | (simp at this; omega)
  have z0_5 : w5.cell? ⟨w3.heap.size, 0, none⟩ = some (.int .i64 zm) := carry hb5 (by go_simp)
  have z1_5 : w5.cell? ⟨w3.heap.size, 1, none⟩ = some (.int .i64 ze) := carry hb5 (by go_simp)
  have zz_5 : w3.heap.size < w5.heap.size := by have := hb5.size; first | omega | (simp at this; omega)
  have HB_5 := Lib.hid ((by repeat (first | exact HB_4.out | refine Below.alloc ?_ (by first | omega | (simp <;> omega)) _) : Below w.heap.size w _).trans (hb5.mono (by first | omega | (simp <;> omega))))
  have nz_5 : w.heap.size ≤ w5.heap.size := HB_5.out.size
  clear hb5 x0_4 x1_4 y0_4 y1_4 z0_4 z1_4 HB_4
  go_wp2_with fail
  refine (HSz.out _).mono ?_
  rintro e w6 ⟨rfl, hb6⟩
  have x0_6 : w6.cell? ⟨w1.heap.size, 0, none⟩ = some (.int .i64 xm) := carry hb6 (by go_simp)
  have x1_6 : w6.cell? ⟨w1.heap.size, 1, none⟩ = some (.int .i64 xe) := carry hb6 (by go_simp)
  have xz_6 : w1.heap.size < w6.heap.size := by have := hb6.size; first | omega | (simp at this; omega)
  have y0_6 : w6.cell? ⟨w2.heap.size, 0, none⟩ = some (.int .i64 ym) := carry hb6 (by go_simp)
  have y1_6 : w6.cell? ⟨w2.heap.size, 1, none⟩ = some (.int .i64 ye) := carry hb6 (by go_simp)
  have yz_6 : w2.heap.size < w6.heap.size := by have := hb6.size; first | omega | (simp at this; omega)
  have z0_6 : w6.cell? ⟨w3.heap.size, 0, none⟩ = some (.int .i64 zm) := carry hb6 (by go_simp)
  have z1_6 : w6.cell? ⟨w3.heap.size, 1, none⟩ = some (.int .i64 ze) := carry hb6 (by go_simp)
  have zz_6 : w3.heap.size < w6.heap.size := by have := hb6.size; first | omega | (simp at this; omega)
  have HB_6 := Lib.hid ((by repeat (first | exact HB_5.out | refine Below.alloc ?_ (by first | omega | (simp <;> omega)) _) : Below w.heap.size w _).trans (hb6.mono (by first | omega | (simp <;> omega))))
  have nz_6 : w.heap.size ≤ w6.heap.size := HB_6.out.size
  clear hb6 x0_5 x1_5 y0_5 y1_5 z0_5 z1_5 HB_5
  go_wp2_with fail
  refine (HAdd.out _).mono ?_
  rintro e w7 ⟨rfl, hb7⟩
  have x0_7 : w7.cell? ⟨w1.heap.size, 0, none⟩ = some (.int .i64 xm) := carry hb7 (by go_simp)
  have x1_7 : w7.cell? ⟨w1.heap.size, 1, none⟩ = some (.int .i64 xe) := carry hb7 (by go_simp)
  have xz_7 : w1.heap.size < w7.heap.size := by have := hb7.size; first | omega | (simp at this; omega)
  have y0_7 : w7.cell? ⟨w2.heap.size, 0, none⟩ = some (.int .i64 ym) := carry hb7 (by go_simp)
  have y1_7 : w7.cell? ⟨w2.heap.size, 1, none⟩ = some (.int .i64 ye) := carry hb7 (by go_simp)
  have yz_7 : w2.heap.size < w7.heap.size := by have := hb7.size; first | omega | (simp at this; omega)
  have z0_7 : w7.cell? ⟨w3.heap.size, 0, none⟩ = some (.int .i64 zm) := carry hb7 (by go_simp)
  have z1_7 : w7.cell? ⟨w3.heap.size, 1, none⟩ = some (.int .i64 ze) := carry hb7 (by go_simp)
  have zz_7 : w3.heap.size < w7.heap.size := by have := hb7.size; first | omega | (simp at this; omega)
  have HB_7 := Lib.hid ((by repeat (first | exact HB_6.out | refine Below.alloc ?_ (by first | omega | (simp <;> omega)) _) : Below w.heap.size w _).trans (hb7.mono (by first | omega | (simp <;> omega))))
  have nz_7 : w.heap.size ≤ w7.heap.size := HB_7.out.size
  clear hb7 x0_6 x1_6 y0_6 y1_6 z0_6 z1_6 HB_6
  go_wp2_with fail
  refine (HSub.out _).mono ?_
  rintro e w8 ⟨rfl, hb8⟩
  have x0_8 : w8.cell? ⟨w1.heap.size, 0, none⟩ = some (.int .i64 xm) := carry hb8 (by go_simp)
  have x1_8 : w8.cell? ⟨w1.heap.size, 1, none⟩ = some (.int .i64 xe) := carry hb8 (by go_simp)
  have xz_8 : w1.heap.size < w8.heap.size := by have := hb8.size; first | omega | (simp at this; omega)
  have y0_8 : w8.cell? ⟨w2.heap.size, 0, none⟩ = some (.int .i64 ym) := carry hb8 (by go_simp)
  have y1_8 : w8.cell? ⟨w2.heap.size, 1, none⟩ = some (.int .i64 ye) := carry hb8 (by go_simp)
  have yz_8 : w2.heap.size < w8.heap.size := by have := hb8.size; first | omega | (simp at this; omega)
  have z0_8 : w8.cell? ⟨w3.heap.size, 0, none⟩ = some (.int .i64 zm) := carry hb8 (by go_simp)
  have z1_8 : w8.cell? ⟨w3.heap.size, 1, none⟩ = some (.int .i64 ze) := carry hb8 (by go_simp)
  have zz_8 : w3.heap.size < w8.heap.size := by have := hb8.size; first | omega | (simp at this; omega)
  have s0_8 : w8.cell? ⟨w7.heap.size, 0, none⟩ = some (.int .i64 sm) := carry hb8 (by go_simp)
  have s1_8 : w8.cell? ⟨w7.heap.size, 1, none⟩ = some (.int .i64 se) := carry hb8 (by go_simp)
  have sz_8 : w7.heap.size < w8.heap.size := by have := hb8.size; first | omega | (simp at this; omega)
  have HB_8 := Lib.hid ((by repeat (first | exact HB_7.out | refine Below.alloc ?_ (by first | omega | (simp <;> omega)) _) : Below w.heap.size w _).trans (hb8.mono (by first | omega | (simp <;> omega))))
  have nz_8 : w.heap.size ≤ w8.heap.size := HB_8.out.size
  clear hb8 x0_7 x1_7 y0_7 y1_7 z0_7 z1_7 HB_7
  go_wp2_with fail
  refine (HSan.out _ (by repeat (first | exact HB_8.out | refine Below.alloc ?_ (by first | omega | (simp <;> omega)) _))).mono ?_
  rintro e w9 ⟨rfl, hb9⟩
  have x0_9 : w9.cell? ⟨w1.heap.size, 0, none⟩ = some (.int .i64 xm) := carry hb9 (by go_simp)
  have x1_9 : w9.cell? ⟨w1.heap.size, 1, none⟩ = some (.int .i64 xe) := carry hb9 (by go_simp)
  have xz_9 : w1.heap.size < w9.heap.size := by have := hb9.size; first | omega | (simp at this; omega)
  have y0_9 : w9.cell? ⟨w2.heap.size, 0, none⟩ = some (.int .i64 ym) := carry hb9 (by go_simp)
  have y1_9 : w9.cell? ⟨w2.heap.size, 1, none⟩ = some (.int .i64 ye) := carry hb9 (by go_simp)
  have yz_9 : w2.heap.size < w9.heap.size := by have := hb9.size; first | omega | (simp at this; omega)
  have z0_9 : w9.cell? ⟨w3.heap.size, 0, none⟩ = some (.int .i64 zm) := carry hb9 (by go_simp)
  have z1_9 : w9.cell? ⟨w3.heap.size, 1, none⟩ = some (.int .i64 ze) := carry hb9 (by go_simp)
  have zz_9 : w3.heap.size < w9.heap.size := by have := hb9.size; first | omega | (simp at this; omega)
  have s0_9 : w9.cell? ⟨w7.heap.size, 0, none⟩ = some (.int .i64 sm) := carry hb9 (by go_simp)
  have s1_9 : w9.cell? ⟨w7.heap.size, 1, none⟩ = some (.int .i64 se) := carry hb9 (by go_simp)
  have sz_9 : w7.heap.size < w9.heap.size := by have := hb9.size; first | omega | (simp at this; omega)
  have d0_9 : w9.cell? ⟨w8.heap.size, 0, none⟩ = some (.int .i64 dm) := carry hb9 (by go_simp)
  have d1_9 : w9.cell? ⟨w8.heap.size, 1, none⟩ = some (.int .i64 de) := carry hb9 (by go_simp)
  have dz_9 : w8.heap.size < w9.heap.size := by have := hb9.size; first | omega | (simp at this; omega)
  have HB_9 := Lib.hid ((by repeat (first | exact HB_8.out | refine Below.alloc ?_ (by first | omega | (simp <;> omega)) _) : Below w.heap.size w _).trans (hb9.mono (by first | omega | (simp <;> omega))))
  have nz_9 : w.heap.size ≤ w9.heap.size := HB_9.out.size
  clear hb9 x0_8 x1_8 y0_8 y1_8 z0_8 z1_8 s0_8 s1_8 HB_8
  go_wp2_with fail
  go_ret
  exact ⟨rfl, by repeat (first | exact HB_9.out | refine Below.alloc ?_ (by first | omega | (simp <;> omega)) _)⟩

set_option maxRecDepth 100000 in
set_option maxHeartbeats 8000000 in
theorem e6 (i j k xm xe ym ye zm ze a b c sm se sx dm de dx : Int) (w : World) (HAx : Hid (∀ W : World, Calls Tryz.prog 8 #[.int .i64 i] W fun r w' => r = .returned (realV 0 0) ∧ Below W.heap.size W w')) (HAy : Hid (∀ W : World, Calls Tryz.prog 8 #[.int .i64 j] W fun r w' => r = .returned (realV ym ye) ∧ Below W.heap.size W w')) (HAz : Hid (∀ W : World, Calls Tryz.prog 8 #[.int .i64 k] W fun r w' => r = .returned (realV zm ze) ∧ Below W.heap.size W w')) (HSx : Hid (∀ W : World, Calls Tryz.prog 20 #[realV 0 0] W fun r w' => r = .returned (.tuple #[.int .i64 a, .bool true]) ∧ Below W.heap.size W w')) (HSy : Hid (∀ W : World, Calls Tryz.prog 20 #[realV ym ye] W fun r w' => r = .returned (.tuple #[.int .i64 b, .bool true]) ∧ Below W.heap.size W w')) (HSz : Hid (∀ W : World, Calls Tryz.prog 20 #[realV zm ze] W fun r w' => r = .returned (.tuple #[.int .i64 c, .bool true]) ∧ Below W.heap.size W w')) (HAdd : Hid (∀ W : World, Calls Tryz.prog 11 #[realV 0 0, realV ym ye] W fun r w' => r = .returned (rE sm se sx) ∧ Below W.heap.size W w')) (HSub : Hid (∀ W : World, Calls Tryz.prog 15 #[realV 0 0, realV ym ye] W fun r w' => r = .returned (rE dm de dx) ∧ Below W.heap.size W w')) (HSan : Hid (∀ W, Below w.heap.size w W → Calls Tryz.prog 19 #[] W fun r W' => r = .returned (.bool true) ∧ Below W.heap.size W W')) (y1 : -24 < ye) (y2 : (ym != 0) = true)  :
    Calls Tryz.prog 4 #[.int .i64 i, .int .i64 j, .int .i64 k] w fun r w' => r = .returned (.bool true) ∧ Below w.heap.size w w' := by
  go_enter Tryz.func4, Tryz.ntmps4
  go_wp2_with fail
  refine (HAx.out _).mono ?_
  rintro e w1 ⟨rfl, hb1⟩
  have HB_1 := Lib.hid ((by repeat (first | exact Below.refl _ _ | refine Below.alloc ?_ (by first | omega | (simp <;> omega)) _) : Below w.heap.size w _).trans (hb1.mono (by first | omega | (simp <;> omega))))
  have nz_1 : w.heap.size ≤ w1.heap.size := HB_1.out.size
  clear hb1
  go_wp2_with fail
  refine (HAy.out _).mono ?_
  rintro e w2 ⟨rfl, hb2⟩
  have x0_2 : w2.cell? ⟨w1.heap.size, 0, none⟩ = some (.int .i64 0) := carry hb2 (by go_simp)
  have x1_2 : w2.cell? ⟨w1.heap.size, 1, none⟩ = some (.int .i64 0) := carry hb2 (by go_simp)
  have xz_2 : w1.heap.size < w2.heap.size := by have := hb2.size; first | omega | (simp at this; omega)
  have HB_2 := Lib.hid ((by repeat (first | exact HB_1.out | refine Below.alloc ?_ (by first | omega | (simp <;> omega)) _) : Below w.heap.size w _).trans (hb2.mono (by first | omega | (simp <;> omega))))
  have nz_2 : w.heap.size ≤ w2.heap.size := HB_2.out.size
  clear hb2 HB_1
  go_wp2_with fail
  refine (HAz.out _).mono ?_
  rintro e w3 ⟨rfl, hb3⟩
  have x0_3 : w3.cell? ⟨w1.heap.size, 0, none⟩ = some (.int .i64 0) := carry hb3 (by go_simp)
  have x1_3 : w3.cell? ⟨w1.heap.size, 1, none⟩ = some (.int .i64 0) := carry hb3 (by go_simp)
  have xz_3 : w1.heap.size < w3.heap.size := by have := hb3.size; first | omega | (simp at this; omega)
  have y0_3 : w3.cell? ⟨w2.heap.size, 0, none⟩ = some (.int .i64 ym) := carry hb3 (by go_simp)
  have y1_3 : w3.cell? ⟨w2.heap.size, 1, none⟩ = some (.int .i64 ye) := carry hb3 (by go_simp)
  have yz_3 : w2.heap.size < w3.heap.size := by have := hb3.size; first | omega | (simp at this; omega)
  have HB_3 := Lib.hid ((by repeat (first | exact HB_2.out | refine Below.alloc ?_ (by first | omega | (simp <;> omega)) _) : Below w.heap.size w _).trans (hb3.mono (by first | omega | (simp <;> omega))))
  have nz_3 : w.heap.size ≤ w3.heap.size := HB_3.out.size
  clear hb3 x0_2 x1_2 HB_2
  go_wp2_with fail
  refine (HSx.out _).mono ?_
  rintro e w4 ⟨rfl, hb4⟩
  have x0_4 : w4.cell? ⟨w1.heap.size, 0, none⟩ = some (.int .i64 0) := carry hb4 (by go_simp)
  have x1_4 : w4.cell? ⟨w1.heap.size, 1, none⟩ = some (.int .i64 0) := carry hb4 (by go_simp)
  have xz_4 : w1.heap.size < w4.heap.size := by have := hb4.size; first | omega | (simp at this; omega)
  have y0_4 : w4.cell? ⟨w2.heap.size, 0, none⟩ = some (.int .i64 ym) := carry hb4 (by go_simp)
  have y1_4 : w4.cell? ⟨w2.heap.size, 1, none⟩ = some (.int .i64 ye) := carry hb4 (by go_simp)
  have yz_4 : w2.heap.size < w4.heap.size := by have := hb4.size; first | omega | (simp at this; omega)
  have z0_4 : w4.cell? ⟨w3.heap.size, 0, none⟩ = some (.int .i64 zm) := carry hb4 (by go_simp)
  have z1_4 : w4.cell? ⟨w3.heap.size, 1, none⟩ = some (.int .i64 ze) := carry hb4 (by go_simp)
  have zz_4 : w3.heap.size < w4.heap.size := by have := hb4.size; first | omega | (simp at this; omega)
  have HB_4 := Lib.hid ((by repeat (first | exact HB_3.out | refine Below.alloc ?_ (by first | omega | (simp <;> omega)) _) : Below w.heap.size w _).trans (hb4.mono (by first | omega | (simp <;> omega))))
  have nz_4 : w.heap.size ≤ w4.heap.size := HB_4.out.size
  clear hb4 x0_3 x1_3 y0_3 y1_3 HB_3
  go_wp2_with fail
  refine (HSy.out _).mono ?_
  rintro e w5 ⟨rfl, hb5⟩
  have x0_5 : w5.cell? ⟨w1.heap.size, 0, none⟩ = some (.int .i64 0) := carry hb5 (by go_simp)
  have x1_5 : w5.cell? ⟨w1.heap.size, 1, none⟩ = some (.int .i64 0) := carry hb5 (by go_simp)
  have xz_5 : w1.heap.size < w5.heap.size := by have := hb5.size; first | omega | (simp at this; omega)
  have y0_5 : w5.cell? ⟨w2.heap.size, 0, none⟩ = some (.int .i64 ym) := carry hb5 (by go_simp)
  have y1_5 : w5.cell? ⟨w2.heap.size, 1, none⟩ = some (.int .i64 ye) := carry hb5 (by go_simp)
  have yz_5 : w2.heap.size < w5.heap.size := by have := hb5.size; first | omega | (simp at this; omega)
  have z0_5 : w5.cell? ⟨w3.heap.size, 0, none⟩ = some (.int .i64 zm) := carry hb5 (by go_simp)
  have z1_5 : w5.cell? ⟨w3.heap.size, 1, none⟩ = some (.int .i64 ze) := carry hb5 (by go_simp)
  have zz_5 : w3.heap.size < w5.heap.size := by have := hb5.size; first | omega | (simp at this; omega)
  have HB_5 := Lib.hid ((by repeat (first | exact HB_4.out | refine Below.alloc ?_ (by first | omega | (simp <;> omega)) _) : Below w.heap.size w _).trans (hb5.mono (by first | omega | (simp <;> omega))))
  have nz_5 : w.heap.size ≤ w5.heap.size := HB_5.out.size
  clear hb5 x0_4 x1_4 y0_4 y1_4 z0_4 z1_4 HB_4
  go_wp2_with fail
  refine (HSz.out _).mono ?_
  rintro e w6 ⟨rfl, hb6⟩
  have x0_6 : w6.cell? ⟨w1.heap.size, 0, none⟩ = some (.int .i64 0) := carry hb6 (by go_simp)
  have x1_6 : w6.cell? ⟨w1.heap.size, 1, none⟩ = some (.int .i64 0) := carry hb6 (by go_simp)
  have xz_6 : w1.heap.size < w6.heap.size := by have := hb6.size; first | omega | (simp at this; omega)
  have y0_6 : w6.cell? ⟨w2.heap.size, 0, none⟩ = some (.int .i64 ym) := carry hb6 (by go_simp)
  have y1_6 : w6.cell? ⟨w2.heap.size, 1, none⟩ = some (.int .i64 ye) := carry hb6 (by go_simp)
  have yz_6 : w2.heap.size < w6.heap.size := by have := hb6.size; first | omega | (simp at this; omega)
  have z0_6 : w6.cell? ⟨w3.heap.size, 0, none⟩ = some (.int .i64 zm) := carry hb6 (by go_simp)
  have z1_6 : w6.cell? ⟨w3.heap.size, 1, none⟩ = some (.int .i64 ze) := carry hb6 (by go_simp)
  have zz_6 : w3.heap.size < w6.heap.size := by have := hb6.size; first | omega | (simp at this; omega)
  have HB_6 := Lib.hid ((by repeat (first | exact HB_5.out | refine Below.alloc ?_ (by first | omega | (simp <;> omega)) _) : Below w.heap.size w _).trans (hb6.mono (by first | omega | (simp <;> omega))))
  have nz_6 : w.heap.size ≤ w6.heap.size := HB_6.out.size
  clear hb6 x0_5 x1_5 y0_5 y1_5 z0_5 z1_5 HB_5
  go_wp2_with fail
  refine (HAdd.out _).mono ?_
  rintro e w7 ⟨rfl, hb7⟩
  have x0_7 : w7.cell? ⟨w1.heap.size, 0, none⟩ = some (.int .i64 0) := carry hb7 (by go_simp)
  have x1_7 : w7.cell? ⟨w1.heap.size, 1, none⟩ = some (.int .i64 0) := carry hb7 (by go_simp)
  have xz_7 : w1.heap.size < w7.heap.size := by have := hb7.size; first | omega | (simp at this; omega)
  have y0_7 : w7.cell? ⟨w2.heap.size, 0, none⟩ = some (.int .i64 ym) := carry hb7 (by go_simp)
  have y1_7 : w7.cell? ⟨w2.heap.size, 1, none⟩ = some (.int .i64 ye) := carry hb7 (by go_simp)
  have yz_7 : w2.heap.size < w7.heap.size := by have := hb7.size; first | omega | (simp at this; omega)
  have z0_7 : w7.cell? ⟨w3.heap.size, 0, none⟩ = some (.int .i64 zm) := carry hb7 (by go_simp)
  have z1_7 : w7.cell? ⟨w3.heap.size, 1, none⟩ = some (.int .i64 ze) := carry hb7 (by go_simp)
  have zz_7 : w3.heap.size < w7.heap.size := by have := hb7.size; first | omega | (simp at this; omega)
  have HB_7 := Lib.hid ((by repeat (first | exact HB_6.out | refine Below.alloc ?_ (by first | omega | (simp <;> omega)) _) : Below w.heap.size w _).trans (hb7.mono (by first | omega | (simp <;> omega))))
  have nz_7 : w.heap.size ≤ w7.heap.size := HB_7.out.size
  clear hb7 x0_6 x1_6 y0_6 y1_6 z0_6 z1_6 HB_6
  go_wp2_with fail
  refine (HSub.out _).mono ?_
  rintro e w8 ⟨rfl, hb8⟩
  have x0_8 : w8.cell? ⟨w1.heap.size, 0, none⟩ = some (.int .i64 0) := carry hb8 (by go_simp)
  have x1_8 : w8.cell? ⟨w1.heap.size, 1, none⟩ = some (.int .i64 0) := carry hb8 (by go_simp)
  have xz_8 : w1.heap.size < w8.heap.size := by have := hb8.size; first | omega | (simp at this; omega)
  have y0_8 : w8.cell? ⟨w2.heap.size, 0, none⟩ = some (.int .i64 ym) := carry hb8 (by go_simp)
  have y1_8 : w8.cell? ⟨w2.heap.size, 1, none⟩ = some (.int .i64 ye) := carry hb8 (by go_simp)
  have yz_8 : w2.heap.size < w8.heap.size := by have := hb8.size; first | omega | (simp at this; omega)
  have z0_8 : w8.cell? ⟨w3.heap.size, 0, none⟩ = some (.int .i64 zm) := carry hb8 (by go_simp)
  have z1_8 : w8.cell? ⟨w3.heap.size, 1, none⟩ = some (.int .i64 ze) := carry hb8 (by go_simp)
  have zz_8 : w3.heap.size < w8.heap.size := by have := hb8.size; first | omega | (simp at this; omega)
  have s0_8 : w8.cell? ⟨w7.heap.size, 0, none⟩ = some (.int .i64 sm) := carry hb8 (by go_simp)
  have s1_8 : w8.cell? ⟨w7.heap.size, 1, none⟩ = some (.int .i64 se) := carry hb8 (by go_simp)
  have sz_8 : w7.heap.size < w8.heap.size := by have := hb8.size; first | omega | (simp at this; omega)
  have HB_8 := Lib.hid ((by repeat (first | exact HB_7.out | refine Below.alloc ?_ (by first | omega | (simp <;> omega)) _) : Below w.heap.size w _).trans (hb8.mono (by first | omega | (simp <;> omega))))
  have nz_8 : w.heap.size ≤ w8.heap.size := HB_8.out.size
  clear hb8 x0_7 x1_7 y0_7 y1_7 z0_7 z1_7 HB_7
  go_wp2_with fail
  refine (HSan.out _ (by repeat (first | exact HB_8.out | refine Below.alloc ?_ (by first | omega | (simp <;> omega)) _))).mono ?_
  rintro e w9 ⟨rfl, hb9⟩
  have x0_9 : w9.cell? ⟨w1.heap.size, 0, none⟩ = some (.int .i64 0) := carry hb9 (by go_simp)
  have x1_9 : w9.cell? ⟨w1.heap.size, 1, none⟩ = some (.int .i64 0) := carry hb9 (by go_simp)
  have xz_9 : w1.heap.size < w9.heap.size := by have := hb9.size; first | omega | (simp at this; omega)
  have y0_9 : w9.cell? ⟨w2.heap.size, 0, none⟩ = some (.int .i64 ym) := carry hb9 (by go_simp)
  have y1_9 : w9.cell? ⟨w2.heap.size, 1, none⟩ = some (.int .i64 ye) := carry hb9 (by go_simp)
  have yz_9 : w2.heap.size < w9.heap.size := by have := hb9.size; first | omega | (simp at this; omega)
  have z0_9 : w9.cell? ⟨w3.heap.size, 0, none⟩ = some (.int .i64 zm) := carry hb9 (by go_simp)
  have z1_9 : w9.cell? ⟨w3.heap.size, 1, none⟩ = some (.int .i64 ze) := carry hb9 (by go_simp)
  have zz_9 : w3.heap.size < w9.heap.size := by have := hb9.size; first | omega | (simp at this; omega)
  have s0_9 : w9.cell? ⟨w7.heap.size, 0, none⟩ = some (.int .i64 sm) := carry hb9 (by go_simp)
  have s1_9 : w9.cell? ⟨w7.heap.size, 1, none⟩ = some (.int .i64 se) := carry hb9 (by go_simp)
  have sz_9 : w7.heap.size < w9.heap.size := by have := hb9.size; first | omega | (simp at this; omega)
  have d0_9 : w9.cell? ⟨w8.heap.size, 0, none⟩ = some (.int .i64 dm) := carry hb9 (by go_simp)
  have d1_9 : w9.cell? ⟨w8.heap.size, 1, none⟩ = some (.int .i64 de) := carry hb9 (by go_simp)
  have dz_9 : w8.heap.size < w9.heap.size := by have := hb9.size; first | omega | (simp at this; omega)
  have HB_9 := Lib.hid ((by repeat (first | exact HB_8.out | refine Below.alloc ?_ (by first | omega | (simp <;> omega)) _) : Below w.heap.size w _).trans (hb9.mono (by first | omega | (simp <;> omega))))
  have nz_9 : w.heap.size ≤ w9.heap.size := HB_9.out.size
  clear hb9 x0_8 x1_8 y0_8 y1_8 z0_8 z1_8 s0_8 s1_8 HB_8
  go_wp2_with fail
  go_ret
  exact ⟨rfl, by repeat (first | exact HB_9.out | refine Below.alloc ?_ (by first | omega | (simp <;> omega)) _)⟩

end Go.Proofs.YtoofdihnflnaiaaGreatDoor.realNearest
