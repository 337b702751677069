/-
  RealNearest: the ways.
-/
import Derived.Test.YtoofdihnflnaiaaGreatDoorNear
import Derived.Deep.RegionHeld3
import Derived.Test.YtoofdihnflnaiaaGreatDoorSanH

namespace Go.Proofs.YtoofdihnflnaiaaGreatDoor.realNearest
open Go.RowKit
set_option linter.unusedVariables false

set_option maxRecDepth 100000 in
set_option maxHeartbeats 8000000 in
theorem m_zn_ff (i j k xm xe ym ye zm ze a b c sm se dm de u v : Int) (w : World) (HAx : Hid (∀ W : World, Calls Tryz.prog 8 #[.int .i64 i] W fun r w' => r = .returned (realV 0 0) ∧ Below W.heap.size W w')) (HAy : Hid (∀ W : World, Calls Tryz.prog 8 #[.int .i64 j] W fun r w' => r = .returned (realV ym ye) ∧ Below W.heap.size W w')) (HAz : Hid (∀ W : World, Calls Tryz.prog 8 #[.int .i64 k] W fun r w' => r = .returned (realV zm ze) ∧ Below W.heap.size W w')) (HSx : Hid (∀ W : World, Calls Tryz.prog 20 #[realV 0 0] W fun r w' => r = .returned (.tuple #[.int .i64 a, .bool true]) ∧ Below W.heap.size W w')) (HSy : Hid (∀ W : World, Calls Tryz.prog 20 #[realV ym ye] W fun r w' => r = .returned (.tuple #[.int .i64 b, .bool true]) ∧ Below W.heap.size W w')) (HSz : Hid (∀ W : World, Calls Tryz.prog 20 #[realV zm ze] W fun r w' => r = .returned (.tuple #[.int .i64 c, .bool true]) ∧ Below W.heap.size W w')) (HAdd : Hid (∀ W : World, Calls Tryz.prog 11 #[realV 0 0, realV ym ye] W fun r w' => r = .returned (rE sm se 0) ∧ Below W.heap.size W w')) (HSub : Hid (∀ W : World, Calls Tryz.prog 15 #[realV 0 0, realV ym ye] W fun r w' => r = .returned (rE dm de 0) ∧ Below W.heap.size W w')) (HSan : Hid (∀ W, Below w.heap.size w W → Calls Tryz.prog 19 #[] W fun r W' => r = .returned (.bool true) ∧ Below W.heap.size W W')) (y1 : ¬ -24 < ye) (HSs : Hid (∀ W : World, Calls Tryz.prog 20 #[realV sm se] W fun r w' => r = .returned (.tuple #[.int .i64 u, .bool false]) ∧ Below W.heap.size W w')) (HSd : Hid (∀ W : World, Calls Tryz.prog 20 #[realV dm de] W fun r w' => r = .returned (.tuple #[.int .i64 v, .bool false]) ∧ Below W.heap.size W w')) (s1 : ¬ -60 ≤ se) (t1 : ¬ -60 ≤ de)  :
    Calls Tryz.prog 4 #[.int .i64 i, .int .i64 j, .int .i64 k] w fun r w' => r = .returned (.bool true) ∧ Below w.heap.size w w' := by
  go_enter Tryz.func4, Tryz.ntmps4
  go_wp2_with fail
  refine (HAx.out _).mono ?_
  rintro e w1 ⟨rfl, hb1⟩
  have HB_1 := Lib.hid ((by repeat (first | exact Below.refl _ _ | refine Below.alloc ?_ (by first | omega | (simp <;> omega)) _) : Below w.heap.size w _).trans (hb1.mono (by first | omega | (simp <;> omega))))
  have nz_1 : w.heap.size ≤ w1.heap.size := HB_1.out.size
  clear hb1
  go_wp2_with fail
  refine (HAy.out _).mono ?_
  rintro e w2 ⟨rfl, hb2⟩
  have x0_2 : w2.cell? ⟨w1.heap.size, 0, none⟩ = some (.int .i64 0) := carry hb2 (by go_simp)
  have x1_2 : w2.cell? ⟨w1.heap.size, 1, none⟩ = some (.int .i64 0) := carry hb2 (by go_simp)
  have xz_2 : w1.heap.size < w2.heap.size := by have := hb2.size; first | omega | (simp at this; omega)
  have HB_2 := Lib.hid ((by repeat (first | exact HB_1.out | refine Below.alloc ?_ (by first | omega | (simp <;> omega)) _) : Below w.heap.size w _).trans (hb2.mono (by first | omega | (simp <;> omega))))
  have nz_2 : w.heap.size ≤ w2.heap.size := HB_2.out.size
  clear hb2 HB_1
  go_wp2_with fail
  refine (HAz.out _).mono ?_
  rintro e w3 ⟨rfl, hb3⟩
  have x0_3 : w3.cell? ⟨w1.heap.size, 0, none⟩ = some (.int .i64 0) := carry hb3 (by go_simp)
  have x1_3 : w3.cell? ⟨w1.heap.size, 1, none⟩ = some (.int .i64 0) := carry hb3 (by go_simp)
  have xz_3 : w1.heap.size < w3.heap.size := by have := hb3.size; first | omega | (simp at this; omega)
  have y0_3 : w3.cell? ⟨w2.heap.size, 0, none⟩ = some (.int .i64 ym) := carry hb3 (by go_simp)
  have y1_3 : w3.cell? ⟨w2.heap.size, 1, none⟩ = some (.int .i64 ye) := carry hb3 (by go_simp)
  have yz_3 : w2.heap.size < w3.heap.size := by have := hb3.size; first | omega | (simp at this; omega)
  have HB_3 := Lib.hid ((by repeat (first | exact HB_2.out | refine Below.alloc ?_ (by first | omega | (simp <;> omega)) _) : Below w.heap.size w _).trans (hb3.mono (by first | omega | (simp <;> omega))))
  have nz_3 : w.heap.size ≤ w3.heap.size := HB_3.out.size
  clear hb3 x0_2 x1_2 HB_2
  go_wp2_with fail
  refine (HSx.out _).mono ?_
  rintro e w4 ⟨rfl, hb4⟩
  have x0_4 : w4.cell? ⟨w1.heap.size, 0, none⟩ = some (.int .i64 0) := carry hb4 (by go_simp)
  have x1_4 : w4.cell? ⟨w1.heap.size, 1, none⟩ = some (.int .i64 0) := carry hb4 (by go_simp)
  have xz_4 : w1.heap.size < w4.heap.size := by have := hb4.size; first | omega | (simp at this; omega)
  have y0_4 : w4.cell? ⟨w2.heap.size, 0, none⟩ = some (.int .i64 ym) := carry hb4 (by go_simp)
  have y1_4 : w4.cell? ⟨w2.heap.size, 1, none⟩ = some (.int .i64 ye) := carry hb4 (by go_simp)
  have yz_4 : w2.heap.size < w4.heap.size := by have := hb4.size; first | omega | (simp at this; omega)
  have z0_4 : w4.cell? ⟨w3.heap.size, 0, none⟩ = some (.int .i64 zm) := carry hb4 (by go_simp)
  have z1_4 : w4.cell? ⟨w3.heap.size, 1, none⟩ = some (.int .i64 ze) := carry hb4 (by go_simp)
  have zz_4 : w3.heap.size < w4.heap.size := by have := hb4.size; first | omega | (simp at this; omega)
  have HB_4 := Lib.hid ((by repeat (first | exact HB_3.out | refine Below.alloc ?_ (by first | omega | (simp <;> omega)) _) : Below w.heap.size w _).trans (hb4.mono (by first | omega | (simp <;> omega))))
  have nz_4 : w.heap.size ≤ w4.heap.size := HB_4.out.size
  clear hb4 x0_3 x1_3 y0_3 y1_3 HB_3
  go_wp2_with fail
  refine (HSy.out _).mono ?_
  rintro e w5 ⟨rfl, hb5⟩
  have x0_5 : w5.cell? ⟨w1.heap.size, 0, none⟩ = some (.int .i64 0) := carry hb5 (by go_simp)
  have x1_5 : w5.cell? ⟨w1.heap.size, 1, none⟩ = some (.int .i64 0) := carry hb5 (by go_simp)
  have xz_5 : w1.heap.size < w5.heap.size := by have := hb5.size; first | omega | (simp at this; omega)
  have y0_5 : w5.cell? ⟨w2.heap.size, 0, none⟩ = some (.int .i64 ym) := carry hb5 (by go_simp)
  have y1_5 : w5.cell? ⟨w2.heap.size, 1, none⟩ = some (.int .i64 ye) := carry hb5 (by go_simp)
  have yz_5 : w2.heap.size < w5.heap.size := by have := hb5.size; first | omega | (simp at this; omega)
  have z0_5 : w5.cell? ⟨w3.heap.size, 0, none⟩ = some (.int .i64 zm) := carry hb5 (by go_simp)
  have z1_5 : w5.cell? ⟨w3.heap.size, 1, none⟩ = some (.int .i64 ze) := carry hb5 (by go_simp)
  have zz_5 : w3.heap.size < w5.heap.size := by have := hb5.size; first | omega | (simp at this; omega)
  have HB_5 := Lib.hid ((by repeat (first | exact HB_4.out | refine Below.alloc ?_ (by first | omega | (simp <;> omega)) _) : Below w.heap.size w _).trans (hb5.mono (by first | omega | (simp <;> omega))))
  have nz_5 : w.heap.size ≤ w5.heap.size := HB_5.out.size
  clear hb5 x0_4 x1_4 y0_4 y1_4 z0_4 z1_4 HB_4
  go_wp2_with fail
  refine (HSz.out _).mono ?_
  rintro e w6 ⟨rfl, hb6⟩
  have x0_6 : w6.cell? ⟨w1.heap.size, 0, none⟩ = some (.int .i64 0) := carry hb6 (by go_simp)
  have x1_6 : w6.cell? ⟨w1.heap.size, 1, none⟩ = some (.int .i64 0) := carry hb6 (by go_simp)
  have xz_6 : w1.heap.size < w6.heap.size := by have := hb6.size; first | omega | (simp at this; omega)
  have y0_6 : w6.cell? ⟨w2.heap.size, 0, none⟩ = some (.int .i64 ym) := carry hb6 (by go_simp)
  have y1_6 : w6.cell? ⟨w2.heap.size, 1, none⟩ = some (.int .i64 ye) := carry hb6 (by go_simp)
  have yz_6 : w2.heap.size < w6.heap.size := by have := hb6.size; first | omega | (simp at this; omega)
  have z0_6 : w6.cell? ⟨w3.heap.size, 0, none⟩ = some (.int .i64 zm) := carry hb6 (by go_simp)
  have z1_6 : w6.cell? ⟨w3.heap.size, 1, none⟩ = some (.int .i64 ze) := carry hb6 (by go_simp)
  have zz_6 : w3.heap.size < w6.heap.size := by have := hb6.size; first | omega | (simp at this; omega)
  have HB_6 := Lib.hid ((by repeat (first | exact HB_5.out | refine Below.alloc ?_ (by first | omega | (simp <;> omega)) _) : Below w.heap.size w _).trans (hb6.mono (by first | omega | (simp <;> omega))))
  have nz_6 : w.heap.size ≤ w6.heap.size := HB_6.out.size
  clear hb6 x0_5 x1_5 y0_5 y1_5 z0_5 z1_5 HB_5
  go_wp2_with fail
  refine (HAdd.out _).mono ?_
  rintro e w7 ⟨rfl, hb7⟩
  have x0_7 : w7.cell? ⟨w1.heap.size, 0, none⟩ = some (.int .i64 0) := carry hb7 (by go_simp)
  have x1_7 : w7.cell? ⟨w1.heap.size, 1, none⟩ = some (.int .i64 0) := carry hb7 (by go_simp)
  have xz_7 : w1.heap.size < w7.heap.size := by have := hb7.size; first | omega | (simp at this; omega)
  have y0_7 : w7.cell? ⟨w2.heap.size, 0, none⟩ = some (.int .i64 ym) := carry hb7 (by go_simp)
  have y1_7 : w7.cell? ⟨w2.heap.size, 1, none⟩ = some (.int .i64 ye) := carry hb7 (by go_simp)
  have yz_7 : w2.heap.size < w7.heap.size := by have := hb7.size; first | omega | (simp at this; omega)
  have z0_7 : w7.cell? ⟨w3.heap.size, 0, none⟩ = some (.int .i64 zm) := carry hb7 (by go_simp)
  have z1_7 : w7.cell? ⟨w3.heap.size, 1, none⟩ = some (.int .i64 ze) := carry hb7 (by go_simp)
  have zz_7 : w3.heap.size < w7.heap.size := by have := hb7.size; first | omega | (simp at this; omega)
  have HB_7 := Lib.hid ((by repeat (first | exact HB_6.out | refine Below.alloc ?_ (by first | omega | (simp <;> omega)) _) : Below w.heap.size w _).trans (hb7.mono (by first | omega | (simp <;> omega))))
  have nz_7 : w.heap.size ≤ w7.heap.size := HB_7.out.size
  clear hb7 x0_6 x1_6 y0_6 y1_6 z0_6 z1_6 HB_6
  go_wp2_with fail
  refine (HSub.out _).mono ?_
  rintro e w8 ⟨rfl, hb8⟩
  have x0_8 : w8.cell? ⟨w1.heap.size, 0, none⟩ = some (.int .i64 0) := carry hb8 (by go_simp)
  have x1_8 : w8.cell? ⟨w1.heap.size, 1, none⟩ = some (.int .i64 0) := carry hb8 (by go_simp)
  have xz_8 : w1.heap.size < w8.heap.size := by have := hb8.size; first | omega | (simp at this; omega)
  have y0_8 : w8.cell? ⟨w2.heap.size, 0, none⟩ = some (.int .i64 ym) := carry hb8 (by go_simp)
  have y1_8 : w8.cell? ⟨w2.heap.size, 1, none⟩ = some (.int .i64 ye) := carry hb8 (by go_simp)
  have yz_8 : w2.heap.size < w8.heap.size := by have := hb8.size; first | omega | (simp at this; omega)
  have z0_8 : w8.cell? ⟨w3.heap.size, 0, none⟩ = some (.int .i64 zm) := carry hb8 (by go_simp)
  have z1_8 : w8.cell? ⟨w3.heap.size, 1, none⟩ = some (.int .i64 ze) := carry hb8 (by go_simp)
  have zz_8 : w3.heap.size < w8.heap.size := by have := hb8.size; first | omega | (simp at this; omega)
  have s0_8 : w8.cell? ⟨w7.heap.size, 0, none⟩ = some (.int .i64 sm) := carry hb8 (by go_simp)
  have s1_8 : w8.cell? ⟨w7.heap.size, 1, none⟩ = some (.int .i64 se) := carry hb8 (by go_simp)
  have sz_8 : w7.heap.size < w8.heap.size := by have := hb8.size; first | omega | (simp at this; omega)
  have HB_8 := Lib.hid ((by repeat (first | exact HB_7.out | refine Below.alloc ?_ (by first | omega | (simp <;> omega)) _) : Below w.heap.size w _).trans (hb8.mono (by first | omega | (simp <;> omega))))
  have nz_8 : w.heap.size ≤ w8.heap.size := HB_8.out.size
  clear hb8 x0_7 x1_7 y0_7 y1_7 z0_7 z1_7 HB_7
  go_wp2_with fail
  refine (HSs.out _).mono ?_
  rintro e w9 ⟨rfl, hb9⟩
  have s0_9 : w9.cell? ⟨w7.heap.size, 0, none⟩ = some (.int .i64 sm) := carry hb9 (by go_simp)
  have s1_9 : w9.cell? ⟨w7.heap.size, 1, none⟩ = some (.int .i64 se) := carry hb9 (by go_simp)
  have sz_9 : w7.heap.size < w9.heap.size := by have := hb9.size; first | omega | (simp at this; omega)
  have d0_9 : w9.cell? ⟨w8.heap.size, 0, none⟩ = some (.int .i64 dm) := carry hb9 (by go_simp)
  have d1_9 : w9.cell? ⟨w8.heap.size, 1, none⟩ = some (.int .i64 de) := carry hb9 (by go_simp)
  have dz_9 : w8.heap.size < w9.heap.size := by have := hb9.size; first | omega | (simp at this; omega)
  have HB_9 := Lib.hid ((by repeat (first | exact HB_8.out | refine Below.alloc ?_ (by first | omega | (simp <;> omega)) _) : Below w.heap.size w _).trans (hb9.mono (by first | omega | (simp <;> omega))))
  have nz_9 : w.heap.size ≤ w9.heap.size := HB_9.out.size
  clear hb9 x0_8 x1_8 y0_8 y1_8 z0_8 z1_8 s0_8 s1_8 HB_8
  go_wp2_with fail
  refine (HSd.out _).mono ?_
  rintro e w10 ⟨rfl, hb10⟩
  have s0_10 : w10.cell? ⟨w7.heap.size, 0, none⟩ = some (.int .i64 sm) := carry hb10 (by go_simp)
  have s1_10 : w10.cell? ⟨w7.heap.size, 1, none⟩ = some (.int .i64 se) := carry hb10 (by go_simp)
  have sz_10 : w7.heap.size < w10.heap.size := by have := hb10.size; first | omega | (simp at this; omega)
  have d0_10 : w10.cell? ⟨w8.heap.size, 0, none⟩ = some (.int .i64 dm) := carry hb10 (by go_simp)
  have d1_10 : w10.cell? ⟨w8.heap.size, 1, none⟩ = some (.int .i64 de) := carry hb10 (by go_simp)
  have dz_10 : w8.heap.size < w10.heap.size := by have := hb10.size; first | omega | (simp at this; omega)
  have HB_10 := Lib.hid ((by repeat (first | exact HB_9.out | refine Below.alloc ?_ (by first | omega | (simp <;> omega)) _) : Below w.heap.size w _).trans (hb10.mono (by first | omega | (simp <;> omega))))
  have nz_10 : w.heap.size ≤ w10.heap.size := HB_10.out.size
  clear hb10 s0_9 s1_9 d0_9 d1_9 HB_9
  go_wp2_with fail
  refine (HSan.out _ (by repeat (first | exact HB_10.out | refine Below.alloc ?_ (by first | omega | (simp <;> omega)) _))).mono ?_
  rintro e w11 ⟨rfl, hb11⟩
  have s0_11 : w11.cell? ⟨w7.heap.size, 0, none⟩ = some (.int .i64 sm) := carry hb11 (by go_simp)
  have s1_11 : w11.cell? ⟨w7.heap.size, 1, none⟩ = some (.int .i64 se) := carry hb11 (by go_simp)
  have sz_11 : w7.heap.size < w11.heap.size := by have := hb11.size; first | omega | (simp at this; omega)
  have d0_11 : w11.cell? ⟨w8.heap.size, 0, none⟩ = some (.int .i64 dm) := carry hb11 (by go_simp)
  have d1_11 : w11.cell? ⟨w8.heap.size, 1, none⟩ = some (.int .i64 de) := carry hb11 (by go_simp)
  have dz_11 : w8.heap.size < w11.heap.size := by have := hb11.size; first | omega | (simp at this; omega)
  have HB_11 := Lib.hid ((by repeat (first | exact HB_10.out | refine Below.alloc ?_ (by first | omega | (simp <;> omega)) _) : Below w.heap.size w _).trans (hb11.mono (by first | omega | (simp <;> omega))))
  have nz_11 : w.heap.size ≤ w11.heap.size := HB_11.out.size
  clear hb11 s0_10 s1_10 d0_10 d1_10 HB_10
  go_wp2_with fail
  go_ret
  exact ⟨rfl, by repeat (first | exact HB_11.out | refine Below.alloc ?_ (by first | omega | (simp <;> omega)) _)⟩

set_option maxRecDepth 100000 in
set_option maxHeartbeats 8000000 in
theorem m_zn_ft (i j k xm xe ym ye zm ze a b c sm se dm de u v : Int) (w : World) (HAx : Hid (∀ W : World, Calls Tryz.prog 8 #[.int .i64 i] W fun r w' => r = .returned (realV 0 0) ∧ Below W.heap.size W w')) (HAy : Hid (∀ W : World, Calls Tryz.prog 8 #[.int .i64 j] W fun r w' => r = .returned (realV ym ye) ∧ Below W.heap.size W w')) (HAz : Hid (∀ W : World, Calls Tryz.prog 8 #[.int .i64 k] W fun r w' => r = .returned (realV zm ze) ∧ Below W.heap.size W w')) (HSx : Hid (∀ W : World, Calls Tryz.prog 20 #[realV 0 0] W fun r w' => r = .returned (.tuple #[.int .i64 a, .bool true]) ∧ Below W.heap.size W w')) (HSy : Hid (∀ W : World, Calls Tryz.prog 20 #[realV ym ye] W fun r w' => r = .returned (.tuple #[.int .i64 b, .bool true]) ∧ Below W.heap.size W w')) (HSz : Hid (∀ W : World, Calls Tryz.prog 20 #[realV zm ze] W fun r w' => r = .returned (.tuple #[.int .i64 c, .bool true]) ∧ Below W.heap.size W w')) (HAdd : Hid (∀ W : World, Calls Tryz.prog 11 #[realV 0 0, realV ym ye] W fun r w' => r = .returned (rE sm se 0) ∧ Below W.heap.size W w')) (HSub : Hid (∀ W : World, Calls Tryz.prog 15 #[realV 0 0, realV ym ye] W fun r w' => r = .returned (rE dm de 0) ∧ Below W.heap.size W w')) (HSan : Hid (∀ W, Below w.heap.size w W → Calls Tryz.prog 19 #[] W fun r W' => r = .returned (.bool true) ∧ Below W.heap.size W W')) (y1 : ¬ -24 < ye) (HSs : Hid (∀ W : World, Calls Tryz.prog 20 #[realV sm se] W fun r w' => r = .returned (.tuple #[.int .i64 u, .bool false]) ∧ Below W.heap.size W w')) (HSd : Hid (∀ W : World, Calls Tryz.prog 20 #[realV dm de] W fun r w' => r = .returned (.tuple #[.int .i64 v, .bool true]) ∧ Below W.heap.size W w')) (s1 : ¬ -60 ≤ se)  :
    Calls Tryz.prog 4 #[.int .i64 i, .int .i64 j, .int .i64 k] w fun r w' => r = .returned (.bool true) ∧ Below w.heap.size w w' := by
  go_enter Tryz.func4, Tryz.ntmps4
  go_wp2_with fail
  refine (HAx.out _).mono ?_
  rintro e w1 ⟨rfl, hb1⟩
  have HB_1 := Lib.hid ((by repeat (first | exact Below.refl _ _ | refine Below.alloc ?_ (by first | omega | (simp <;> omega)) _) : Below w.heap.size w _).trans (hb1.mono (by first | omega | (simp <;> omega))))
  have nz_1 : w.heap.size ≤ w1.heap.size := HB_1.out.size
  clear hb1
  go_wp2_with fail
  refine (HAy.out _).mono ?_
  rintro e w2 ⟨rfl, hb2⟩
  have x0_2 : w2.cell? ⟨w1.heap.size, 0, none⟩ = some (.int .i64 0) := carry hb2 (by go_simp)
  have x1_2 : w2.cell? ⟨w1.heap.size, 1, none⟩ = some (.int .i64 0) := carry hb2 (by go_simp)
  have xz_2 : w1.heap.size < w2.heap.size := by have := hb2.size; first | omega | (simp at this; omega)
  have HB_2 := Lib.hid ((by repeat (first | exact HB_1.out | refine Below.alloc ?_ (by first | omega | (simp <;> omega)) _) : Below w.heap.size w _).trans (hb2.mono (by first | omega | (simp <;> omega))))
  have nz_2 : w.heap.size ≤ w2.heap.size := HB_2.out.size
  clear hb2 HB_1
  go_wp2_with fail
  refine (HAz.out _).mono ?_
  rintro e w3 ⟨rfl, hb3⟩
  have x0_3 : w3.cell? ⟨w1.heap.size, 0, none⟩ = some (.int .i64 0) := carry hb3 (by go_simp)
  have x1_3 : w3.cell? ⟨w1.heap.size, 1, none⟩ = some (.int .i64 0) := carry hb3 (by go_simp)
  have xz_3 : w1.heap.size < w3.heap.size := by have := hb3.size; first | omega | (simp at this; omega)
  have y0_3 : w3.cell? ⟨w2.heap.size, 0, none⟩ = some (.int .i64 ym) := carry hb3 (by go_simp)
  have y1_3 : w3.cell? ⟨w2.heap.size, 1, none⟩ = some (.int .i64 ye) := carry hb3 (by go_simp)
  have yz_3 : w2.heap.size < w3.heap.size := by have := hb3.size; first | omega | (simp at this; omega)
  have HB_3 := Lib.hid ((by repeat (first | exact HB_2.out | refine Below.alloc ?_ (by first | omega | (simp <;> omega)) _) : Below w.heap.size w _).trans (hb3.mono (by first | omega | (simp <;> omega))))
  have nz_3 : w.heap.size ≤ w3.heap.size := HB_3.out.size
  clear hb3 x0_2 x1_2 HB_2
  go_wp2_with fail
  refine (HSx.out _).mono ?_
  rintro e w4 ⟨rfl, hb4⟩
  have x0_4 : w4.cell? ⟨w1.heap.size, 0, none⟩ = some (.int .i64 0) := carry hb4 (by go_simp)
  have x1_4 : w4.cell? ⟨w1.heap.size, 1, none⟩ = some (.int .i64 0) := carry hb4 (by go_simp)
  have xz_4 : w1.heap.size < w4.heap.size := by have := hb4.size; first | omega | (simp at this; omega)
  have y0_4 : w4.cell? ⟨w2.heap.size, 0, none⟩ = some (.int .i64 ym) := carry hb4 (by go_simp)
  have y1_4 : w4.cell? ⟨w2.heap.size, 1, none⟩ = some (.int .i64 ye) := carry hb4 (by go_simp)
  have yz_4 : w2.heap.size < w4.heap.size := by have := hb4.size; first | omega | (simp at this; omega)
  have z0_4 : w4.cell? ⟨w3.heap.size, 0, none⟩ = some (.int .i64 zm) := carry hb4 (by go_simp)
  have z1_4 : w4.cell? ⟨w3.heap.size, 1, none⟩ = some (.int .i64 ze) := carry hb4 (by go_simp)
  have zz_4 : w3.heap.size < w4.heap.size := by have := hb4.size; first | omega | (simp at this; omega)
  have HB_4 := Lib.hid ((by repeat (first | exact HB_3.out | refine Below.alloc ?_ (by first | omega | (simp <;> omega)) _) : Below w.heap.size w _).trans (hb4.mono (by first | omega | (simp <;> omega))))
  have nz_4 : w.heap.size ≤ w4.heap.size := HB_4.out.size
  clear hb4 x0_3 x1_3 y0_3 y1_3 HB_3
  go_wp2_with fail
  refine (HSy.out _).mono ?_
  rintro e w5 ⟨rfl, hb5⟩
  have x0_5 : w5.cell? ⟨w1.heap.size, 0, none⟩ = some (.int .i64 0) := carry hb5 (by go_simp)
  have x1_5 : w5.cell? ⟨w1.heap.size, 1, none⟩ = some (.int .i64 0) := carry hb5 (by go_simp)
  have xz_5 : w1.heap.size < w5.heap.size := by have := hb5.size; first | omega | (simp at this; omega)
  have y0_5 : w5.cell? ⟨w2.heap.size, 0, none⟩ = some (.int .i64 ym) := carry hb5 (by go_simp)
  have y1_5 : w5.cell? ⟨w2.heap.size, 1, none⟩ = some (.int .i64 ye) := carry hb5 (by go_simp)
  have yz_5 : w2.heap.size < w5.heap.size := by have := hb5.size; first | omega | (simp at this; omega)
  have z0_5 : w5.cell? ⟨w3.heap.size, 0, none⟩ = some (.int .i64 zm) := carry hb5 (by go_simp)
  have z1_5 : w5.cell? ⟨w3.heap.size, 1, none⟩ = some (.int .i64 ze) := carry hb5 (by go_simp)
  have zz_5 : w3.heap.size < w5.heap.size := by have := hb5.size; first | omega | (simp at this; omega)
  have HB_5 := Lib.hid ((by repeat (first | exact HB_4.out | refine Below.alloc ?_ (by first | omega | (simp <;> omega)) _) : Below w.heap.size w _).trans (hb5.mono (by first | omega | (simp <;> omega))))
  have nz_5 : w.heap.size ≤ w5.heap.size := HB_5.out.size
  clear hb5 x0_4 x1_4 y0_4 y1_4 z0_4 z1_4 HB_4
  go_wp2_with fail
  refine (HSz.out _).mono ?_
  rintro e w6 ⟨rfl, hb6⟩
  have x0_6 : w6.cell? ⟨w1.heap.size, 0, none⟩ = some (.int .i64 0) := carry hb6 (by go_simp)
  have x1_6 : w6.cell? ⟨w1.heap.size, 1, none⟩ = some (.int .i64 0) := carry hb6 (by go_simp)
  have xz_6 : w1.heap.size < w6.heap.size := by have := hb6.size; first | omega | (simp at this; omega)
  have y0_6 : w6.cell? ⟨w2.heap.size, 0, none⟩ = some (.int .i64 ym) := carry hb6 (by go_simp)
  have y1_6 : w6.cell? ⟨w2.heap.size, 1, none⟩ = some (.int .i64 ye) := carry hb6 (by go_simp)
  have yz_6 : w2.heap.size < w6.heap.size := by have := hb6.size; first | omega | (simp at this; omega)
  have z0_6 : w6.cell? ⟨w3.heap.size, 0, none⟩ = some (.int .i64 zm) := carry hb6 (by go_simp)
  have z1_6 : w6.cell? ⟨w3.heap.size, 1, none⟩ = some (.int .i64 ze) := carry hb6 (by go_simp)
  have zz_6 : w3.heap.size < w6.heap.size := by have := hb6.size; first | omega | (simp at this; omega)
  have HB_6 := Lib.hid ((by repeat (first | exact HB_5.out | refine Below.alloc ?_ (by first | omega | (simp <;> omega)) _) : Below w.heap.size w _).trans (hb6.mono (by first | omega | (simp <;> omega))))
  have nz_6 : w.heap.size ≤ w6.heap.size := HB_6.out.size
  clear hb6 x0_5 x1_5 y0_5 y1_5 z0_5 z1_5 HB_5
  go_wp2_with fail
  refine (HAdd.out _).mono ?_
  rintro e w7 ⟨rfl, hb7⟩
  have x0_7 : w7.cell? ⟨w1.heap.size, 0, none⟩ = some (.int .i64 0) := carry hb7 (by go_simp)
  have x1_7 : w7.cell? ⟨w1.heap.size, 1, none⟩ = some (.int .i64 0) := carry hb7 (by go_simp)
  have xz_7 : w1.heap.size < w7.heap.size := by have := hb7.size; first | omega | (simp at this; omega)
  have y0_7 : w7.cell? ⟨w2.heap.size, 0, none⟩ = some (.int .i64 ym) := carry hb7 (by go_simp)
  have y1_7 : w7.cell? ⟨w2.heap.size, 1, none⟩ = some (.int .i64 ye) := carry hb7 (by go_simp)
  have yz_7 : w2.heap.size < w7.heap.size := by have := hb7.size; first | omega | (simp at this; omega)
  have z0_7 : w7.cell? ⟨w3.heap.size, 0, none⟩ = some (.int .i64 zm) := carry hb7 (by go_simp)
  have z1_7 : w7.cell? ⟨w3.heap.size, 1, none⟩ = some (.int .i64 ze) := carry hb7 (by go_simp)
  have zz_7 : w3.heap.size < w7.heap.size := by have := hb7.size; first | omega | (simp at this; omega)
  have HB_7 := Lib.hid ((by repeat (first | exact HB_6.out | refine Below.alloc ?_ (by first | omega | (simp <;> omega)) _) : Below w.heap.size w _).trans (hb7.mono (by first | omega | (simp <;> omega))))
  have nz_7 : w.heap.size ≤ w7.heap.size := HB_7.out.size
  clear hb7 x0_6 x1_6 y0_6 y1_6 z0_6 z1_6 HB_6
  go_wp2_with fail
  refine (HSub.out _).mono ?_
  rintro e w8 ⟨rfl, hb8⟩
  have x0_8 : w8.cell? ⟨w1.heap.size, 0, none⟩ = some (.int .i64 0) := carry hb8 (by go_simp)
  have x1_8 : w8.cell? ⟨w1.heap.size, 1, none⟩ = some (.int .i64 0) := carry hb8 (by go_simp)
  have xz_8 : w1.heap.size < w8.heap.size := by have := hb8.size; first | omega | (simp at this; omega)
  have y0_8 : w8.cell? ⟨w2.heap.size, 0, none⟩ = some (.int .i64 ym) := carry hb8 (by go_simp)
  have y1_8 : w8.cell? ⟨w2.heap.size, 1, none⟩ = some (.int .i64 ye) := carry hb8 (by go_simp)
  have yz_8 : w2.heap.size < w8.heap.size := by have := hb8.size; first | omega | (simp at this; omega)
  have z0_8 : w8.cell? ⟨w3.heap.size, 0, none⟩ = some (.int .i64 zm) := carry hb8 (by go_simp)
  have z1_8 : w8.cell? ⟨w3.heap.size, 1, none⟩ = some (.int .i64 ze) := carry hb8 (by go_simp)
  have zz_8 : w3.heap.size < w8.heap.size := by have := hb8.size; first | omega | (simp at this; omega)
  have s0_8 : w8.cell? ⟨w7.heap.size, 0, none⟩ = some (.int .i64 sm) := carry hb8 (by go_simp)
  have s1_8 : w8.cell? ⟨w7.heap.size, 1, none⟩ = some (.int .i64 se) := carry hb8 (by go_simp)
  have sz_8 : w7.heap.size < w8.heap.size := by have := hb8.size; first | omega | (simp at this; omega)
  have HB_8 := Lib.hid ((by repeat (first | exact HB_7.out | refine Below.alloc ?_ (by first | omega | (simp <;> omega)) _) : Below w.heap.size w _).trans (hb8.mono (by first | omega | (simp <;> omega))))
  have nz_8 : w.heap.size ≤ w8.heap.size := HB_8.out.size
  clear hb8 x0_7 x1_7 y0_7 y1_7 z0_7 z1_7 HB_7
  go_wp2_with fail
  refine (HSs.out _).mono ?_
  rintro e w9 ⟨rfl, hb9⟩
  have s0_9 : w9.cell? ⟨w7.heap.size, 0, none⟩ = some (.int .i64 sm) := carry hb9 (by go_simp)
  have s1_9 : w9.cell? ⟨w7.heap.size, 1, none⟩ = some (.int .i64 se) := carry hb9 (by go_simp)
  have sz_9 : w7.heap.size < w9.heap.size := by have := hb9.size; first | omega | (simp at this; omega)
  have d0_9 : w9.cell? ⟨w8.heap.size, 0, none⟩ = some (.int .i64 dm) := carry hb9 (by go_simp)
  have d1_9 : w9.cell? ⟨w8.heap.size, 1, none⟩ = some (.int .i64 de) := carry hb9 (by go_simp)
  have dz_9 : w8.heap.size < w9.heap.size := by have := hb9.size; first | omega | (simp at this; omega)
  have HB_9 := Lib.hid ((by repeat (first | exact HB_8.out | refine Below.alloc ?_ (by first | omega | (simp <;> omega)) _) : Below w.heap.size w _).trans (hb9.mono (by first | omega | (simp <;> omega))))
  have nz_9 : w.heap.size ≤ w9.heap.size := HB_9.out.size
  clear hb9 x0_8 x1_8 y0_8 y1_8 z0_8 z1_8 s0_8 s1_8 HB_8
  go_wp2_with fail
  refine (HSd.out _).mono ?_
  rintro e w10 ⟨rfl, hb10⟩
  have s0_10 : w10.cell? ⟨w7.heap.size, 0, none⟩ = some (.int .i64 sm) := carry hb10 (by go_simp)
  have s1_10 : w10.cell? ⟨w7.heap.size, 1, none⟩ = some (.int .i64 se) := carry hb10 (by go_simp)
  have sz_10 : w7.heap.size < w10.heap.size := by have := hb10.size; first | omega | (simp at this; omega)
  have HB_10 := Lib.hid ((by repeat (first | exact HB_9.out | refine Below.alloc ?_ (by first | omega | (simp <;> omega)) _) : Below w.heap.size w _).trans (hb10.mono (by first | omega | (simp <;> omega))))
  have nz_10 : w.heap.size ≤ w10.heap.size := HB_10.out.size
  clear hb10 s0_9 s1_9 d0_9 d1_9 HB_9
  go_wp2_with fail
  refine (HSan.out _ (by repeat (first | exact HB_10.out | refine Below.alloc ?_ (by first | omega | (simp <;> omega)) _))).mono ?_
  rintro e w11 ⟨rfl, hb11⟩
  have s0_11 : w11.cell? ⟨w7.heap.size, 0, none⟩ = some (.int .i64 sm) := carry hb11 (by go_simp)
  have s1_11 : w11.cell? ⟨w7.heap.size, 1, none⟩ = some (.int .i64 se) := carry hb11 (by go_simp)
  have sz_11 : w7.heap.size < w11.heap.size := by have := hb11.size; first | omega | (simp at this; omega)
  have HB_11 := Lib.hid ((by repeat (first | exact HB_10.out | refine Below.alloc ?_ (by first | omega | (simp <;> omega)) _) : Below w.heap.size w _).trans (hb11.mono (by first | omega | (simp <;> omega))))
  have nz_11 : w.heap.size ≤ w11.heap.size := HB_11.out.size
  clear hb11 s0_10 s1_10 HB_10
  go_wp2_with fail
  go_ret
  exact ⟨rfl, by repeat (first | exact HB_11.out | refine Below.alloc ?_ (by first | omega | (simp <;> omega)) _)⟩

set_option maxRecDepth 100000 in
set_option maxHeartbeats 8000000 in
theorem m_zn_tf (i j k xm xe ym ye zm ze a b c sm se dm de u v : Int) (w : World) (HAx : Hid (∀ W : World, Calls Tryz.prog 8 #[.int .i64 i] W fun r w' => r = .returned (realV 0 0) ∧ Below W.heap.size W w')) (HAy : Hid (∀ W : World, Calls Tryz.prog 8 #[.int .i64 j] W fun r w' => r = .returned (realV ym ye) ∧ Below W.heap.size W w')) (HAz : Hid (∀ W : World, Calls Tryz.prog 8 #[.int .i64 k] W fun r w' => r = .returned (realV zm ze) ∧ Below W.heap.size W w')) (HSx : Hid (∀ W : World, Calls Tryz.prog 20 #[realV 0 0] W fun r w' => r = .returned (.tuple #[.int .i64 a, .bool true]) ∧ Below W.heap.size W w')) (HSy : Hid (∀ W : World, Calls Tryz.prog 20 #[realV ym ye] W fun r w' => r = .returned (.tuple #[.int .i64 b, .bool true]) ∧ Below W.heap.size W w')) (HSz : Hid (∀ W : World, Calls Tryz.prog 20 #[realV zm ze] W fun r w' => r = .returned (.tuple #[.int .i64 c, .bool true]) ∧ Below W.heap.size W w')) (HAdd : Hid (∀ W : World, Calls Tryz.prog 11 #[realV 0 0, realV ym ye] W fun r w' => r = .returned (rE sm se 0) ∧ Below W.heap.size W w')) (HSub : Hid (∀ W : World, Calls Tryz.prog 15 #[realV 0 0, realV ym ye] W fun r w' => r = .returned (rE dm de 0) ∧ Below W.heap.size W w')) (HSan : Hid (∀ W, Below w.heap.size w W → Calls Tryz.prog 19 #[] W fun r W' => r = .returned (.bool true) ∧ Below W.heap.size W W')) (y1 : ¬ -24 < ye) (HSs : Hid (∀ W : World, Calls Tryz.prog 20 #[realV sm se] W fun r w' => r = .returned (.tuple #[.int .i64 u, .bool true]) ∧ Below W.heap.size W w')) (HSd : Hid (∀ W : World, Calls Tryz.prog 20 #[realV dm de] W fun r w' => r = .returned (.tuple #[.int .i64 v, .bool false]) ∧ Below W.heap.size W w')) (t1 : ¬ -60 ≤ de)  :
    Calls Tryz.prog 4 #[.int .i64 i, .int .i64 j, .int .i64 k] w fun r w' => r = .returned (.bool true) ∧ Below w.heap.size w w' := by
  go_enter Tryz.func4, Tryz.ntmps4
  go_wp2_with fail
  refine (HAx.out _).mono ?_
  rintro e w1 ⟨rfl, hb1⟩
  have HB_1 := Lib.hid ((by repeat (first | exact Below.refl _ _ | refine Below.alloc ?_ (by first | omega | (simp <;> omega)) _) : Below w.heap.size w _).trans (hb1.mono (by first | omega | (simp <;> omega))))
  have nz_1 : w.heap.size ≤ w1.heap.size := HB_1.out.size
  clear hb1
  go_wp2_with fail
  refine (HAy.out _).mono ?_
  rintro e w2 ⟨rfl, hb2⟩
  have x0_2 : w2.cell? ⟨w1.heap.size, 0, none⟩ = some (.int .i64 0) := carry hb2 (by go_simp)
  have x1_2 : w2.cell? ⟨w1.heap.size, 1, none⟩ = some (.int .i64 0) := carry hb2 (by go_simp)
  have xz_2 : w1.heap.size < w2.heap.size := by have := hb2.size; first | omega | (simp at this; omega)
  have HB_2 := Lib.hid ((by repeat (first | exact HB_1.out | refine Below.alloc ?_ (by first | omega | (simp <;> omega)) _) : Below w.heap.size w _).trans (hb2.mono (by first | omega | (simp <;> omega))))
  have nz_2 : w.heap.size ≤ w2.heap.size := HB_2.out.size
  clear hb2 HB_1
  go_wp2_with fail
  refine (HAz.out _).mono ?_
  rintro e w3 ⟨rfl, hb3⟩
  have x0_3 : w3.cell? ⟨w1.heap.size, 0, none⟩ = some (.int .i64 0) := carry hb3 (by go_simp)
  have x1_3 : w3.cell? ⟨w1.heap.size, 1, none⟩ = some (.int .i64 0) := carry hb3 (by go_simp)
  have xz_3 : w1.heap.size < w3.heap.size := by have := hb3.size; first | omega | (simp at this; omega)
  have y0_3 : w3.cell? ⟨w2.heap.size, 0, none⟩ = some (.int .i64 ym) := carry hb3 (by go_simp)
  have y1_3 : w3.cell? ⟨w2.heap.size, 1, none⟩ = some (.int .i64 ye) := carry hb3 (by go_simp)
  have yz_3 : w2.heap.size < w3.heap.size := by have := hb3.size; first | omega | (simp at this; omega)
  have HB_3 := Lib.hid ((by repeat (first | exact HB_2.out | refine Below.alloc ?_ (by first | omega | (simp <;> omega)) _) : Below w.heap.size w _).trans (hb3.mono (by first | omega | (simp <;> omega))))
  have nz_3 : w.heap.size ≤ w3.heap.size := HB_3.out.size
  clear hb3 x0_2 x1_2 HB_2
  go_wp2_with fail
  refine (HSx.out _).mono ?_
  rintro e w4 ⟨rfl, hb4⟩
  have x0_4 : w4.cell? ⟨w1.heap.size, 0, none⟩ = some (.int .i64 0) := carry hb4 (by go_simp)
  have x1_4 : w4.cell? ⟨w1.heap.size, 1, none⟩ = some (.int .i64 0) := carry hb4 (by go_simp)
  have xz_4 : w1.heap.size < w4.heap.size := by have := hb4.size; first | omega | (simp at this; omega)
  have y0_4 : w4.cell? ⟨w2.heap.size, 0, none⟩ = some (.int .i64 ym) := carry hb4 (by go_simp)
  have y1_4 : w4.cell? ⟨w2.heap.size, 1, none⟩ = some (.int .i64 ye) := carry hb4 (by go_simp)
  have yz_4 : w2.heap.size < w4.heap.size := by have := hb4.size; first | omega | (simp at this; omega)
  have z0_4 : w4.cell? ⟨w3.heap.size, 0, none⟩ = some (.int .i64 zm) := carry hb4 (by go_simp)
  have z1_4 : w4.cell? ⟨w3.heap.size, 1, none⟩ = some (.int .i64 ze) := carry hb4 (by go_simp)
  have zz_4 : w3.heap.size < w4.heap.size := by have := hb4.size; first | omega | (simp at this; omega)
  have HB_4 := Lib.hid ((by repeat (first | exact HB_3.out | refine Below.alloc ?_ (by first | omega | (simp <;> omega)) _) : Below w.heap.size w _).trans (hb4.mono (by first | omega | (simp <;> omega))))
  have nz_4 : w.heap.size ≤ w4.heap.size := HB_4.out.size
  clear hb4 x0_3 x1_3 y0_3 y1_3 HB_3
  go_wp2_with fail
  refine (HSy.out _).mono ?_
  rintro e w5 ⟨rfl, hb5⟩
  have x0_5 : w5.cell? ⟨w1.heap.size, 0, none⟩ = some (.int .i64 0) := carry hb5 (by go_simp)
  have x1_5 : w5.cell? ⟨w1.heap.size, 1, none⟩ = some (.int .i64 0) := carry hb5 (by go_simp)
  have xz_5 : w1.heap.size < w5.heap.size := by have := hb5.size; first | omega | (simp at this; omega)
  have y0_5 : w5.cell? ⟨w2.heap.size, 0, none⟩ = some (.int .i64 ym) := carry hb5 (by go_simp)
  have y1_5 : w5.cell? ⟨w2.heap.size, 1, none⟩ = some (.int .i64 ye) := carry hb5 (by go_simp)
  have yz_5 : w2.heap.size < w5.heap.size := by have := hb5.size; first | omega | (simp at this; omega)
  have z0_5 : w5.cell? ⟨w3.heap.size, 0, none⟩ = some (.int .i64 zm) := carry hb5 (by go_simp)
  have z1_5 : w5.cell? ⟨w3.heap.size, 1, none⟩ = some (.int .i64 ze) := carry hb5 (by go_simp)
  have zz_5 : w3.heap.size < w5.heap.size := by have := hb5.size; first | omega | (simp at this; omega)
  have HB_5 := Lib.hid ((by repeat (first | exact HB_4.out | refine Below.alloc ?_ (by first | omega | (simp <;> omega)) _) : Below w.heap.size w _).trans (hb5.mono (by first | omega | (simp <;> omega))))
  have nz_5 : w.heap.size ≤ w5.heap.size := HB_5.out.size
  clear hb5 x0_4 x1_4 y0_4 y1_4 z0_4 z1_4 HB_4
  go_wp2_with fail
  refine (HSz.out _).mono ?_
  rintro e w6 ⟨rfl, hb6⟩
  have x0_6 : w6.cell? ⟨w1.heap.size, 0, none⟩ = some (.int .i64 0) := carry hb6 (by go_simp)
  have x1_6 : w6.cell? ⟨w1.heap.size, 1, none⟩ = some (.int .i64 0) := carry hb6 (by go_simp)
  have xz_6 : w1.heap.size < w6.heap.size := by have := hb6.size; first | omega | (simp at this; omega)
  have y0_6 : w6.cell? ⟨w2.heap.size, 0, none⟩ = some (.int .i64 ym) := carry hb6 (by go_simp)
  have y1_6 : w6.cell? ⟨w2.heap.size, 1, none⟩ = some (.int .i64 ye) := carry hb6 (by go_simp)
  have yz_6 : w2.heap.size < w6.heap.size := by have := hb6.size; first | omega | (simp at this; omega)
  have z0_6 : w6.cell? ⟨w3.heap.size, 0, none⟩ = some (.int .i64 zm) := carry hb6 (by go_simp)
  have z1_6 : w6.cell? ⟨w3.heap.size, 1, none⟩ = some (.int .i64 ze) := carry hb6 (by go_simp)
  have zz_6 : w3.heap.size < w6.heap.size := by have := hb6.size; first | omega | (simp at this; omega)
  have HB_6 := Lib.hid ((by repeat (first | exact HB_5.out | refine Below.alloc ?_ (by first | omega | (simp <;> omega)) _) : Below w.heap.size w _).trans (hb6.mono (by first | omega | (simp <;> omega))))
  have nz_6 : w.heap.size ≤ w6.heap.size := HB_6.out.size
  clear hb6 x0_5 x1_5 y0_5 y1_5 z0_5 z1_5 HB_5
  go_wp2_with fail
  refine (HAdd.out _).mono ?_
  rintro e w7 ⟨rfl, hb7⟩
  have x0_7 : w7.cell? ⟨w1.heap.size, 0, none⟩ = some (.int .i64 0) := carry hb7 (by go_simp)
  have x1_7 : w7.cell? ⟨w1.heap.size, 1, none⟩ = some (.int .i64 0) := carry hb7 (by go_simp)
  have xz_7 : w1.heap.size < w7.heap.size := by have := hb7.size; first | omega | (simp at this; omega)
  have y0_7 : w7.cell? ⟨w2.heap.size, 0, none⟩ = some (.int .i64 ym) := carry hb7 (by go_simp)
  have y1_7 : w7.cell? ⟨w2.heap.size, 1, none⟩ = some (.int .i64 ye) := carry hb7 (by go_simp)
  have yz_7 : w2.heap.size < w7.heap.size := by have := hb7.size; first | omega | (simp at this; omega)
  have z0_7 : w7.cell? ⟨w3.heap.size, 0, none⟩ = some (.int .i64 zm) := carry hb7 (by go_simp)
  have z1_7 : w7.cell? ⟨w3.heap.size, 1, none⟩ = some (.int .i64 ze) := carry hb7 (by go_simp)
  have zz_7 : w3.heap.size < w7.heap.size := by have := hb7.size; first | omega | (simp at this; omega)
  have HB_7 := Lib.hid ((by repeat (first | exact HB_6.out | refine Below.alloc ?_ (by first | omega | (simp <;> omega)) _) : Below w.heap.size w _).trans (hb7.mono (by first | omega | (simp <;> omega))))
  have nz_7 : w.heap.size ≤ w7.heap.size := HB_7.out.size
  clear hb7 x0_6 x1_6 y0_6 y1_6 z0_6 z1_6 HB_6
  go_wp2_with fail
  refine (HSub.out _).mono ?_
  rintro e w8 ⟨rfl, hb8⟩
  have x0_8 : w8.cell? ⟨w1.heap.size, 0, none⟩ = some (.int .i64 0) := carry hb8 (by go_simp)
  have x1_8 : w8.cell? ⟨w1.heap.size, 1, none⟩ = some (.int .i64 0) := carry hb8 (by go_simp)
  have xz_8 : w1.heap.size < w8.heap.size := by have := hb8.size; first | omega | (simp at this; omega)
  have y0_8 : w8.cell? ⟨w2.heap.size, 0, none⟩ = some (.int .i64 ym) := carry hb8 (by go_simp)
  have y1_8 : w8.cell? ⟨w2.heap.size, 1, none⟩ = some (.int .i64 ye) := carry hb8 (by go_simp)
  have yz_8 : w2.heap.size < w8.heap.size := by have := hb8.size; first | omega | (simp at this; omega)
  have z0_8 : w8.cell? ⟨w3.heap.size, 0, none⟩ = some (.int .i64 zm) := carry hb8 (by go_simp)
  have z1_8 : w8.cell? ⟨w3.heap.size, 1, none⟩ = some (.int .i64 ze) := carry hb8 (by go_simp)
  have zz_8 : w3.heap.size < w8.heap.size := by have := hb8.size; first | omega | (simp at this; omega)
  have s0_8 : w8.cell? ⟨w7.heap.size, 0, none⟩ = some (.int .i64 sm) := carry hb8 (by go_simp)
  have s1_8 : w8.cell? ⟨w7.heap.size, 1, none⟩ = some (.int .i64 se) := carry hb8 (by go_simp)
  have sz_8 : w7.heap.size < w8.heap.size := by have := hb8.size; first | omega | (simp at this; omega)
  have HB_8 := Lib.hid ((by repeat (first | exact HB_7.out | refine Below.alloc ?_ (by first | omega | (simp <;> omega)) _) : Below w.heap.size w _).trans (hb8.mono (by first | omega | (simp <;> omega))))
  have nz_8 : w.heap.size ≤ w8.heap.size := HB_8.out.size
  clear hb8 x0_7 x1_7 y0_7 y1_7 z0_7 z1_7 HB_7
  go_wp2_with fail
  refine (HSs.out _).mono ?_
  rintro e w9 ⟨rfl, hb9⟩
  have d0_9 : w9.cell? ⟨w8.heap.size, 0, none⟩ = some (.int .i64 dm) := carry hb9 (by go_simp)
  have d1_9 : w9.cell? ⟨w8.heap.size, 1, none⟩ = some (.int .i64 de) := carry hb9 (by go_simp)
  have dz_9 : w8.heap.size < w9.heap.size := by have := hb9.size; first | omega | (simp at this; omega)
  have HB_9 := Lib.hid ((by repeat (first | exact HB_8.out | refine Below.alloc ?_ (by first | omega | (simp <;> omega)) _) : Below w.heap.size w _).trans (hb9.mono (by first | omega | (simp <;> omega))))
  have nz_9 : w.heap.size ≤ w9.heap.size := HB_9.out.size
  clear hb9 x0_8 x1_8 y0_8 y1_8 z0_8 z1_8 s0_8 s1_8 HB_8
  go_wp2_with fail
  refine (HSd.out _).mono ?_
  rintro e w10 ⟨rfl, hb10⟩
  have d0_10 : w10.cell? ⟨w8.heap.size, 0, none⟩ = some (.int .i64 dm) := carry hb10 (by go_simp)
  have d1_10 : w10.cell? ⟨w8.heap.size, 1, none⟩ = some (.int .i64 de) := carry hb10 (by go_simp)
  have dz_10 : w8.heap.size < w10.heap.size := by have := hb10.size; first | omega | (simp at this; omega)
  have HB_10 := Lib.hid ((by repeat (first | exact HB_9.out | refine Below.alloc ?_ (by first | omega | (simp <;> omega)) _) : Below w.heap.size w _).trans (hb10.mono (by first | omega | (simp <;> omega))))
  have nz_10 : w.heap.size ≤ w10.heap.size := HB_10.out.size
  clear hb10 d0_9 d1_9 HB_9
  go_wp2_with fail
  refine (HSan.out _ (by repeat (first | exact HB_10.out | refine Below.alloc ?_ (by first | omega | (simp <;> omega)) _))).mono ?_
  rintro e w11 ⟨rfl, hb11⟩
  have d0_11 : w11.cell? ⟨w8.heap.size, 0, none⟩ = some (.int .i64 dm) := carry hb11 (by go_simp)
  have d1_11 : w11.cell? ⟨w8.heap.size, 1, none⟩ = some (.int .i64 de) := carry hb11 (by go_simp)
  have dz_11 : w8.heap.size < w11.heap.size := by have := hb11.size; first | omega | (simp at this; omega)
  have HB_11 := Lib.hid ((by repeat (first | exact HB_10.out | refine Below.alloc ?_ (by first | omega | (simp <;> omega)) _) : Below w.heap.size w _).trans (hb11.mono (by first | omega | (simp <;> omega))))
  have nz_11 : w.heap.size ≤ w11.heap.size := HB_11.out.size
  clear hb11 d0_10 d1_10 HB_10
  go_wp2_with fail
  go_ret
  exact ⟨rfl, by repeat (first | exact HB_11.out | refine Below.alloc ?_ (by first | omega | (simp <;> omega)) _)⟩

set_option maxRecDepth 100000 in
set_option maxHeartbeats 8000000 in
theorem m_zn_nn (i j k xm xe ym ye zm ze a b c sm se dm de u v p q d1 d2 d3 d4 : Int) (w : World) (HAx : Hid (∀ W : World, Calls Tryz.prog 8 #[.int .i64 i] W fun r w' => r = .returned (realV 0 0) ∧ Below W.heap.size W w')) (HAy : Hid (∀ W : World, Calls Tryz.prog 8 #[.int .i64 j] W fun r w' => r = .returned (realV ym ye) ∧ Below W.heap.size W w')) (HAz : Hid (∀ W : World, Calls Tryz.prog 8 #[.int .i64 k] W fun r w' => r = .returned (realV zm ze) ∧ Below W.heap.size W w')) (HSx : Hid (∀ W : World, Calls Tryz.prog 20 #[realV 0 0] W fun r w' => r = .returned (.tuple #[.int .i64 a, .bool true]) ∧ Below W.heap.size W w')) (HSy : Hid (∀ W : World, Calls Tryz.prog 20 #[realV ym ye] W fun r w' => r = .returned (.tuple #[.int .i64 b, .bool true]) ∧ Below W.heap.size W w')) (HSz : Hid (∀ W : World, Calls Tryz.prog 20 #[realV zm ze] W fun r w' => r = .returned (.tuple #[.int .i64 c, .bool true]) ∧ Below W.heap.size W w')) (HAdd : Hid (∀ W : World, Calls Tryz.prog 11 #[realV 0 0, realV ym ye] W fun r w' => r = .returned (rE sm se 0) ∧ Below W.heap.size W w')) (HSub : Hid (∀ W : World, Calls Tryz.prog 15 #[realV 0 0, realV ym ye] W fun r w' => r = .returned (rE dm de 0) ∧ Below W.heap.size W w')) (HSan : Hid (∀ W, Below w.heap.size w W → Calls Tryz.prog 19 #[] W fun r W' => r = .returned (.bool true) ∧ Below W.heap.size W W')) (y1 : ¬ -24 < ye) (HSs : Hid (∀ W : World, Calls Tryz.prog 20 #[realV sm se] W fun r w' => r = .returned (.tuple #[.int .i64 u, .bool true]) ∧ Below W.heap.size W w')) (HSd : Hid (∀ W : World, Calls Tryz.prog 20 #[realV dm de] W fun r w' => r = .returned (.tuple #[.int .i64 v, .bool true]) ∧ Below W.heap.size W w')) (hp : IntKind.i64.wrap (a + b) = p) (hq : IntKind.i64.wrap (a - b) = q) (l1 : d1 ≤ d2) (l2 : d3 ≤ d4) (HD1 : Hid (∀ W : World, Calls Tryz.prog 21 #[.int .i64 u, .int .i64 p] W fun r w' => r = .returned (.int .i64 d1) ∧ Below W.heap.size W w')) (HD2 : Hid (∀ W : World, Calls Tryz.prog 21 #[.int .i64 c, .int .i64 p] W fun r w' => r = .returned (.int .i64 d2) ∧ Below W.heap.size W w')) (HD3 : Hid (∀ W : World, Calls Tryz.prog 21 #[.int .i64 v, .int .i64 q] W fun r w' => r = .returned (.int .i64 d3) ∧ Below W.heap.size W w')) (HD4 : Hid (∀ W : World, Calls Tryz.prog 21 #[.int .i64 c, .int .i64 q] W fun r w' => r = .returned (.int .i64 d4) ∧ Below W.heap.size W w')) (k1 : (c != p) = true) (k2 : (c != q) = true)  :
    Calls Tryz.prog 4 #[.int .i64 i, .int .i64 j, .int .i64 k] w fun r w' => r = .returned (.bool true) ∧ Below w.heap.size w w' := by
  go_enter Tryz.func4, Tryz.ntmps4
  go_wp2_with fail
  refine (HAx.out _).mono ?_
  rintro e w1 ⟨rfl, hb1⟩
  have HB_1 := Lib.hid ((by repeat (first | exact Below.refl _ _ | refine Below.alloc ?_ (by first | omega | (simp <;> omega)) _) : Below w.heap.size w _).trans (hb1.mono (by first | omega | (simp <;> omega))))
  have nz_1 : w.heap.size ≤ w1.heap.size := HB_1.out.size
  clear hb1
  go_wp2_with fail
  refine (HAy.out _).mono ?_
  rintro e w2 ⟨rfl, hb2⟩
  have x0_2 : w2.cell? ⟨w1.heap.size, 0, none⟩ = some (.int .i64 0) := carry hb2 (by go_simp)
  have x1_2 : w2.cell? ⟨w1.heap.size, 1, none⟩ = some (.int .i64 0) := carry hb2 (by go_simp)
  have xz_2 : w1.heap.size < w2.heap.size := by have := hb2.size; first | omega | (simp at this; omega)
  have HB_2 := Lib.hid ((by repeat (first | exact HB_1.out | refine Below.alloc ?_ (by first | omega | (simp <;> omega)) _) : Below w.heap.size w _).trans (hb2.mono (by first | omega | (simp <;> omega))))
  have nz_2 : w.heap.size ≤ w2.heap.size := HB_2.out.size
  clear hb2 HB_1
  go_wp2_with fail
  refine (HAz.out _).mono ?_
  rintro e w3 ⟨rfl, hb3⟩
  have x0_3 : w3.cell? ⟨w1.heap.size, 0, none⟩ = some (.int .i64 0) := carry hb3 (by go_simp)
  have x1_3 : w3.cell? ⟨w1.heap.size, 1, none⟩ = some (.int .i64 0) := carry hb3 (by go_simp)
  have xz_3 : w1.heap.size < w3.heap.size := by have := hb3.size; first | omega | (simp at this; omega)
  have y0_3 : w3.cell? ⟨w2.heap.size, 0, none⟩ = some (.int .i64 ym) := carry hb3 (by go_simp)
  have y1_3 : w3.cell? ⟨w2.heap.size, 1, none⟩ = some (.int .i64 ye) := carry hb3 (by go_simp)
  have yz_3 : w2.heap.size < w3.heap.size := by have := hb3.size; first | omega | (simp at this; omega)
  have HB_3 := Lib.hid ((by repeat (first | exact HB_2.out | refine Below.alloc ?_ (by first | omega | (simp <;> omega)) _) : Below w.heap.size w _).trans (hb3.mono (by first | omega | (simp <;> omega))))
  have nz_3 : w.heap.size ≤ w3.heap.size := HB_3.out.size
  clear hb3 x0_2 x1_2 HB_2
  go_wp2_with fail
  refine (HSx.out _).mono ?_
  rintro e w4 ⟨rfl, hb4⟩
  have x0_4 : w4.cell? ⟨w1.heap.size, 0, none⟩ = some (.int .i64 0) := carry hb4 (by go_simp)
  have x1_4 : w4.cell? ⟨w1.heap.size, 1, none⟩ = some (.int .i64 0) := carry hb4 (by go_simp)
  have xz_4 : w1.heap.size < w4.heap.size := by have := hb4.size; first | omega | (simp at this; omega)
  have y0_4 : w4.cell? ⟨w2.heap.size, 0, none⟩ = some (.int .i64 ym) := carry hb4 (by go_simp)
  have y1_4 : w4.cell? ⟨w2.heap.size, 1, none⟩ = some (.int .i64 ye) := carry hb4 (by go_simp)
  have yz_4 : w2.heap.size < w4.heap.size := by have := hb4.size; first | omega | (simp at this; omega)
  have z0_4 : w4.cell? ⟨w3.heap.size, 0, none⟩ = some (.int .i64 zm) := carry hb4 (by go_simp)
  have z1_4 : w4.cell? ⟨w3.heap.size, 1, none⟩ = some (.int .i64 ze) := carry hb4 (by go_simp)
  have zz_4 : w3.heap.size < w4.heap.size := by have := hb4.size; first | omega | (simp at this; omega)
  have HB_4 := Lib.hid ((by repeat (first | exact HB_3.out | refine Below.alloc ?_ (by first | omega | (simp <;> omega)) _) : Below w.heap.size w _).trans (hb4.mono (by first | omega | (simp <;> omega))))
  have nz_4 : w.heap.size ≤ w4.heap.size := HB_4.out.size
  clear hb4 x0_3 x1_3 y0_3 y1_3 HB_3
  go_wp2_with fail
  refine (HSy.out _).mono ?_
  rintro e w5 ⟨rfl, hb5⟩
  have x0_5 : w5.cell? ⟨w1.heap.size, 0, none⟩ = some (.int .i64 0) := carry hb5 (by go_simp)
  have x1_5 : w5.cell? ⟨w1.heap.size, 1, none⟩ = some (.int .i64 0) := carry hb5 (by go_simp)
  have xz_5 : w1.heap.size < w5.heap.size := by have := hb5.size; first | omega | (simp at this; omega)
  have y0_5 : w5.cell? ⟨w2.heap.size, 0, none⟩ = some (.int .i64 ym) := carry hb5 (by go_simp)
  have y1_5 : w5.cell? ⟨w2.heap.size, 1, none⟩ = some (.int .i64 ye) := carry hb5 (by go_simp)
  have yz_5 : w2.heap.size < w5.heap.size := by have := hb5.size; first | omega | (simp at this; omega)
  have z0_5 : w5.cell? ⟨w3.heap.size, 0, none⟩ = some (.int .i64 zm) := carry hb5 (by go_simp)
  have z1_5 : w5.cell? ⟨w3.heap.size, 1, none⟩ = some (.int .i64 ze) := carry hb5 (by go_simp)
  have zz_5 : w3.heap.size < w5.heap.size := by have := hb5.size; first | omega | (simp at this; omega)
  have HB_5 := Lib.hid ((by repeat (first | exact HB_4.out | refine Below.alloc ?_ (by first | omega | (simp <;> omega)) _) : Below w.heap.size w _).trans (hb5.mono (by first | omega | (simp <;> omega))))
  have nz_5 : w.heap.size ≤ w5.heap.size := HB_5.out.size
  clear hb5 x0_4 x1_4 y0_4 y1_4 z0_4 z1_4 HB_4
  go_wp2_with fail
  refine (HSz.out _).mono ?_
  rintro e w6 ⟨rfl, hb6⟩
  have x0_6 : w6.cell? ⟨w1.heap.size, 0, none⟩ = some (.int .i64 0) := carry hb6 (by go_simp)
  have x1_6 : w6.cell? ⟨w1.heap.size, 1, none⟩ = some (.int .i64 0) := carry hb6 (by go_simp)
  have xz_6 : w1.heap.size < w6.heap.size := by have := hb6.size; first | omega | (simp at this; omega)
  have y0_6 : w6.cell? ⟨w2.heap.size, 0, none⟩ = some (.int .i64 ym) := carry hb6 (by go_simp)
  have y1_6 : w6.cell? ⟨w2.heap.size, 1, none⟩ = some (.int .i64 ye) := carry hb6 (by go_simp)
  have yz_6 : w2.heap.size < w6.heap.size := by have := hb6.size; first | omega | (simp at this; omega)
  have z0_6 : w6.cell? ⟨w3.heap.size, 0, none⟩ = some (.int .i64 zm) := carry hb6 (by go_simp)
  have z1_6 : w6.cell? ⟨w3.heap.size, 1, none⟩ = some (.int .i64 ze) := carry hb6 (by go_simp)
  have zz_6 : w3.heap.size < w6.heap.size := by have := hb6.size; first | omega | (simp at this; omega)
  have HB_6 := Lib.hid ((by repeat (first | exact HB_5.out | refine Below.alloc ?_ (by first | omega | (simp <;> omega)) _) : Below w.heap.size w _).trans (hb6.mono (by first | omega | (simp <;> omega))))
  have nz_6 : w.heap.size ≤ w6.heap.size := HB_6.out.size
  clear hb6 x0_5 x1_5 y0_5 y1_5 z0_5 z1_5 HB_5
  go_wp2_with fail
  refine (HAdd.out _).mono ?_
  rintro e w7 ⟨rfl, hb7⟩
  have x0_7 : w7.cell? ⟨w1.heap.size, 0, none⟩ = some (.int .i64 0) := carry hb7 (by go_simp)
  have x1_7 : w7.cell? ⟨w1.heap.size, 1, none⟩ = some (.int .i64 0) := carry hb7 (by go_simp)
  have xz_7 : w1.heap.size < w7.heap.size := by have := hb7.size; first | omega | (simp at this; omega)
  have y0_7 : w7.cell? ⟨w2.heap.size, 0, none⟩ = some (.int .i64 ym) := carry hb7 (by go_simp)
  have y1_7 : w7.cell? ⟨w2.heap.size, 1, none⟩ = some (.int .i64 ye) := carry hb7 (by go_simp)
  have yz_7 : w2.heap.size < w7.heap.size := by have := hb7.size; first | omega | (simp at this; omega)
  have z0_7 : w7.cell? ⟨w3.heap.size, 0, none⟩ = some (.int .i64 zm) := carry hb7 (by go_simp)
  have z1_7 : w7.cell? ⟨w3.heap.size, 1, none⟩ = some (.int .i64 ze) := carry hb7 (by go_simp)
  have zz_7 : w3.heap.size < w7.heap.size := by have := hb7.size; first | omega | (simp at this; omega)
  have HB_7 := Lib.hid ((by repeat (first | exact HB_6.out | refine Below.alloc ?_ (by first | omega | (simp <;> omega)) _) : Below w.heap.size w _).trans (hb7.mono (by first | omega | (simp <;> omega))))
  have nz_7 : w.heap.size ≤ w7.heap.size := HB_7.out.size
  clear hb7 x0_6 x1_6 y0_6 y1_6 z0_6 z1_6 HB_6
  go_wp2_with fail
  refine (HSub.out _).mono ?_
  rintro e w8 ⟨rfl, hb8⟩
  have x0_8 : w8.cell? ⟨w1.heap.size, 0, none⟩ = some (.int .i64 0) := carry hb8 (by go_simp)
  have x1_8 : w8.cell? ⟨w1.heap.size, 1, none⟩ = some (.int .i64 0) := carry hb8 (by go_simp)
  have xz_8 : w1.heap.size < w8.heap.size := by have := hb8.size; first | omega | (simp at this; omega)
  have y0_8 : w8.cell? ⟨w2.heap.size, 0, none⟩ = some (.int .i64 ym) := carry hb8 (by go_simp)
  have y1_8 : w8.cell? ⟨w2.heap.size, 1, none⟩ = some (.int .i64 ye) := carry hb8 (by go_simp)
  have yz_8 : w2.heap.size < w8.heap.size := by have := hb8.size; first | omega | (simp at this; omega)
  have z0_8 : w8.cell? ⟨w3.heap.size, 0, none⟩ = some (.int .i64 zm) := carry hb8 (by go_simp)
  have z1_8 : w8.cell? ⟨w3.heap.size, 1, none⟩ = some (.int .i64 ze) := carry hb8 (by go_simp)
  have zz_8 : w3.heap.size < w8.heap.size := by have := hb8.size; first | omega | (simp at this; omega)
  have s0_8 : w8.cell? ⟨w7.heap.size, 0, none⟩ = some (.int .i64 sm) := carry hb8 (by go_simp)
  have s1_8 : w8.cell? ⟨w7.heap.size, 1, none⟩ = some (.int .i64 se) := carry hb8 (by go_simp)
  have sz_8 : w7.heap.size < w8.heap.size := by have := hb8.size; first | omega | (simp at this; omega)
  have HB_8 := Lib.hid ((by repeat (first | exact HB_7.out | refine Below.alloc ?_ (by first | omega | (simp <;> omega)) _) : Below w.heap.size w _).trans (hb8.mono (by first | omega | (simp <;> omega))))
  have nz_8 : w.heap.size ≤ w8.heap.size := HB_8.out.size
  clear hb8 x0_7 x1_7 y0_7 y1_7 z0_7 z1_7 HB_7
  go_wp2_with fail
  refine (HSs.out _).mono ?_
  rintro e w9 ⟨rfl, hb9⟩
  have d0_9 : w9.cell? ⟨w8.heap.size, 0, none⟩ = some (.int .i64 dm) := carry hb9 (by go_simp)
  have d1_9 : w9.cell? ⟨w8.heap.size, 1, none⟩ = some (.int .i64 de) := carry hb9 (by go_simp)
  have dz_9 : w8.heap.size < w9.heap.size := by have := hb9.size; first | omega | (simp at this; omega)
  have HB_9 := Lib.hid ((by repeat (first | exact HB_8.out | refine Below.alloc ?_ (by first | omega | (simp <;> omega)) _) : Below w.heap.size w _).trans (hb9.mono (by first | omega | (simp <;> omega))))
  have nz_9 : w.heap.size ≤ w9.heap.size := HB_9.out.size
  clear hb9 x0_8 x1_8 y0_8 y1_8 z0_8 z1_8 s0_8 s1_8 HB_8
  go_wp2_with fail
  refine (HSd.out _).mono ?_
  rintro e w10 ⟨rfl, hb10⟩
  have HB_10 := Lib.hid ((by repeat (first | exact HB_9.out | refine Below.alloc ?_ (by first | omega | (simp <;> omega)) _) : Below w.heap.size w _).trans (hb10.mono (by first | omega | (simp <;> omega))))
  have nz_10 : w.heap.size ≤ w10.heap.size := HB_10.out.size
  clear hb10 d0_9 d1_9 HB_9
  go_wp2_with fail
  try rw [hp]
  refine (HD1.out _).mono ?_
  rintro e w11 ⟨rfl, hb11⟩
  have HB_11 := Lib.hid ((by repeat (first | exact HB_10.out | refine Below.alloc ?_ (by first | omega | (simp <;> omega)) _) : Below w.heap.size w _).trans (hb11.mono (by first | omega | (simp <;> omega))))
  have nz_11 : w.heap.size ≤ w11.heap.size := HB_11.out.size
  clear hb11 HB_10
  go_wp2_with fail
  try rw [hp]
  refine (HD2.out _).mono ?_
  rintro e w12 ⟨rfl, hb12⟩
  have HB_12 := Lib.hid ((by repeat (first | exact HB_11.out | refine Below.alloc ?_ (by first | omega | (simp <;> omega)) _) : Below w.heap.size w _).trans (hb12.mono (by first | omega | (simp <;> omega))))
  have nz_12 : w.heap.size ≤ w12.heap.size := HB_12.out.size
  clear hb12 HB_11
  go_wp2_with fail
  try rw [hq]
  refine (HD3.out _).mono ?_
  rintro e w13 ⟨rfl, hb13⟩
  have HB_13 := Lib.hid ((by repeat (first | exact HB_12.out | refine Below.alloc ?_ (by first | omega | (simp <;> omega)) _) : Below w.heap.size w _).trans (hb13.mono (by first | omega | (simp <;> omega))))
  have nz_13 : w.heap.size ≤ w13.heap.size := HB_13.out.size
  clear hb13 HB_12
  go_wp2_with fail
  try rw [hq]
  refine (HD4.out _).mono ?_
  rintro e w14 ⟨rfl, hb14⟩
  have HB_14 := Lib.hid ((by repeat (first | exact HB_13.out | refine Below.alloc ?_ (by first | omega | (simp <;> omega)) _) : Below w.heap.size w _).trans (hb14.mono (by first | omega | (simp <;> omega))))
  have nz_14 : w.heap.size ≤ w14.heap.size := HB_14.out.size
  clear hb14 HB_13
  go_wp2_with fail
  refine (HSan.out _ (by repeat (first | exact HB_14.out | refine Below.alloc ?_ (by first | omega | (simp <;> omega)) _))).mono ?_
  rintro e w15 ⟨rfl, hb15⟩
  have HB_15 := Lib.hid ((by repeat (first | exact HB_14.out | refine Below.alloc ?_ (by first | omega | (simp <;> omega)) _) : Below w.heap.size w _).trans (hb15.mono (by first | omega | (simp <;> omega))))
  have nz_15 : w.heap.size ≤ w15.heap.size := HB_15.out.size
  clear hb15 HB_14
  go_wp2_with fail
  go_ret
  exact ⟨rfl, by repeat (first | exact HB_15.out | refine Below.alloc ?_ (by first | omega | (simp <;> omega)) _)⟩

set_option maxRecDepth 100000 in
set_option maxHeartbeats 8000000 in
theorem m_zn_ne (i j k xm xe ym ye zm ze a b c sm se dm de u v p q d1 d2 d3 d4 : Int) (w : World) (HAx : Hid (∀ W : World, Calls Tryz.prog 8 #[.int .i64 i] W fun r w' => r = .returned (realV 0 0) ∧ Below W.heap.size W w')) (HAy : Hid (∀ W : World, Calls Tryz.prog 8 #[.int .i64 j] W fun r w' => r = .returned (realV ym ye) ∧ Below W.heap.size W w')) (HAz : Hid (∀ W : World, Calls Tryz.prog 8 #[.int .i64 k] W fun r w' => r = .returned (realV zm ze) ∧ Below W.heap.size W w')) (HSx : Hid (∀ W : World, Calls Tryz.prog 20 #[realV 0 0] W fun r w' => r = .returned (.tuple #[.int .i64 a, .bool true]) ∧ Below W.heap.size W w')) (HSy : Hid (∀ W : World, Calls Tryz.prog 20 #[realV ym ye] W fun r w' => r = .returned (.tuple #[.int .i64 b, .bool true]) ∧ Below W.heap.size W w')) (HSz : Hid (∀ W : World, Calls Tryz.prog 20 #[realV zm ze] W fun r w' => r = .returned (.tuple #[.int .i64 c, .bool true]) ∧ Below W.heap.size W w')) (HAdd : Hid (∀ W : World, Calls Tryz.prog 11 #[realV 0 0, realV ym ye] W fun r w' => r = .returned (rE sm se 0) ∧ Below W.heap.size W w')) (HSub : Hid (∀ W : World, Calls Tryz.prog 15 #[realV 0 0, realV ym ye] W fun r w' => r = .returned (rE zm ze 0) ∧ Below W.heap.size W w')) (HSan : Hid (∀ W, Below w.heap.size w W → Calls Tryz.prog 19 #[] W fun r W' => r = .returned (.bool true) ∧ Below W.heap.size W W')) (y1 : ¬ -24 < ye) (HSs : Hid (∀ W : World, Calls Tryz.prog 20 #[realV sm se] W fun r w' => r = .returned (.tuple #[.int .i64 u, .bool true]) ∧ Below W.heap.size W w')) (HSd : Hid (∀ W : World, Calls Tryz.prog 20 #[realV zm ze] W fun r w' => r = .returned (.tuple #[.int .i64 v, .bool true]) ∧ Below W.heap.size W w')) (hp : IntKind.i64.wrap (a + b) = p) (hq : IntKind.i64.wrap (a - b) = q) (l1 : d1 ≤ d2) (l2 : d3 ≤ d4) (HD1 : Hid (∀ W : World, Calls Tryz.prog 21 #[.int .i64 u, .int .i64 p] W fun r w' => r = .returned (.int .i64 d1) ∧ Below W.heap.size W w')) (HD2 : Hid (∀ W : World, Calls Tryz.prog 21 #[.int .i64 c, .int .i64 p] W fun r w' => r = .returned (.int .i64 d2) ∧ Below W.heap.size W w')) (HD3 : Hid (∀ W : World, Calls Tryz.prog 21 #[.int .i64 v, .int .i64 q] W fun r w' => r = .returned (.int .i64 d3) ∧ Below W.heap.size W w')) (HD4 : Hid (∀ W : World, Calls Tryz.prog 21 #[.int .i64 c, .int .i64 q] W fun r w' => r = .returned (.int .i64 d4) ∧ Below W.heap.size W w')) (k1 : (c != p) = true) (k2 : (c != q) = false)  :
    Calls Tryz.prog 4 #[.int .i64 i, .int .i64 j, .int .i64 k] w fun r w' => r = .returned (.bool true) ∧ Below w.heap.size w w' := by
  go_enter Tryz.func4, Tryz.ntmps4
  go_wp2_with fail
  refine (HAx.out _).mono ?_
  rintro e w1 ⟨rfl, hb1⟩
  have HB_1 := Lib.hid ((by repeat (first | exact Below.refl _ _ | refine Below.alloc ?_ (by first | omega | (simp <;> omega)) _) : Below w.heap.size w _).trans (hb1.mono (by first | omega | (simp <;> omega))))
  have nz_1 : w.heap.size ≤ w1.heap.size := HB_1.out.size
  clear hb1
  go_wp2_with fail
  refine (HAy.out _).mono ?_
  rintro e w2 ⟨rfl, hb2⟩
  have x0_2 : w2.cell? ⟨w1.heap.size, 0, none⟩ = some (.int .i64 0) := carry hb2 (by go_simp)
  have x1_2 : w2.cell? ⟨w1.heap.size, 1, none⟩ = some (.int .i64 0) := carry hb2 (by go_simp)
  have xz_2 : w1.heap.size < w2.heap.size := by have := hb2.size; first | omega | (simp at this; omega)
  have HB_2 := Lib.hid ((by repeat (first | exact HB_1.out | refine Below.alloc ?_ (by first | omega | (simp <;> omega)) _) : Below w.heap.size w _).trans (hb2.mono (by first | omega | (simp <;> omega))))
  have nz_2 : w.heap.size ≤ w2.heap.size := HB_2.out.size
  clear hb2 HB_1
  go_wp2_with fail
  refine (HAz.out _).mono ?_
  rintro e w3 ⟨rfl, hb3⟩
  have x0_3 : w3.cell? ⟨w1.heap.size, 0, none⟩ = some (.int .i64 0) := carry hb3 (by go_simp)
  have x1_3 : w3.cell? ⟨w1.heap.size, 1, none⟩ = some (.int .i64 0) := carry hb3 (by go_simp)
  have xz_3 : w1.heap.size < w3.heap.size := by have := hb3.size; first | omega | (simp at this; omega)
  have y0_3 : w3.cell? ⟨w2.heap.size, 0, none⟩ = some (.int .i64 ym) := carry hb3 (by go_simp)
  have y1_3 : w3.cell? ⟨w2.heap.size, 1, none⟩ = some (.int .i64 ye) := carry hb3 (by go_simp)
  have yz_3 : w2.heap.size < w3.heap.size := by have := hb3.size; first | omega | (simp at this; omega)
  have HB_3 := Lib.hid ((by repeat (first | exact HB_2.out | refine Below.alloc ?_ (by first | omega | (simp <;> omega)) _) : Below w.heap.size w _).trans (hb3.mono (by first | omega | (simp <;> omega))))
  have nz_3 : w.heap.size ≤ w3.heap.size := HB_3.out.size
  clear hb3 x0_2 x1_2 HB_2
  go_wp2_with fail
  refine (HSx.out _).mono ?_
  rintro e w4 ⟨rfl, hb4⟩
  have x0_4 : w4.cell? ⟨w1.heap.size, 0, none⟩ = some (.int .i64 0) := carry hb4 (by go_simp)
  have x1_4 : w4.cell? ⟨w1.heap.size, 1, none⟩ = some (.int .i64 0) := carry hb4 (by go_simp)
  have xz_4 : w1.heap.size < w4.heap.size := by have := hb4.size; first | omega | (simp at this; omega)
  have y0_4 : w4.cell? ⟨w2.heap.size, 0, none⟩ = some (.int .i64 ym) := carry hb4 (by go_simp)
  have y1_4 : w4.cell? ⟨w2.heap.size, 1, none⟩ = some (.int .i64 ye) := carry hb4 (by go_simp)
  have yz_4 : w2.heap.size < w4.heap.size := by have := hb4.size; first | omega | (simp at this; omega)
  have z0_4 : w4.cell? ⟨w3.heap.size, 0, none⟩ = some (.int .i64 zm) := carry hb4 (by go_simp)
  have z1_4 : w4.cell? ⟨w3.heap.size, 1, none⟩ = some (.int .i64 ze) := carry hb4 (by go_simp)
  have zz_4 : w3.heap.size < w4.heap.size := by have := hb4.size; first | omega | (simp at this; omega)
  have HB_4 := Lib.hid ((by repeat (first | exact HB_3.out | refine Below.alloc ?_ (by first | omega | (simp <;> omega)) _) : Below w.heap.size w _).trans (hb4.mono (by first | omega | (simp <;> omega))))
  have nz_4 : w.heap.size ≤ w4.heap.size := HB_4.out.size
  clear hb4 x0_3 x1_3 y0_3 y1_3 HB_3
  go_wp2_with fail
  refine (HSy.out _).mono ?_
  rintro e w5 ⟨rfl, hb5⟩
  have x0_5 : w5.cell? ⟨w1.heap.size, 0, none⟩ = some (.int .i64 0) := carry hb5 (by go_simp)
  have x1_5 : w5.cell? ⟨w1.heap.size, 1, none⟩ = some (.int .i64 0) := carry hb5 (by go_simp)
  have xz_5 : w1.heap.size < w5.heap.size := by have := hb5.size; first | omega | (simp at this; omega)
  have y0_5 : w5.cell? ⟨w2.heap.size, 0, none⟩ = some (.int .i64 ym) := carry hb5 (by go_simp)
  have y1_5 : w5.cell? ⟨w2.heap.size, 1, none⟩ = some (.int .i64 ye) := carry hb5 (by go_simp)
  have yz_5 : w2.heap.size < w5.heap.size := by have := hb5.size; first | omega | (simp at this; omega)
  have z0_5 : w5.cell? ⟨w3.heap.size, 0, none⟩ = some (.int .i64 zm) := carry hb5 (by go_simp)
  have z1_5 : w5.cell? ⟨w3.heap.size, 1, none⟩ = some (.int .i64 ze) := carry hb5 (by go_simp)
  have zz_5 : w3.heap.size < w5.heap.size := by have := hb5.size; first | omega | (simp at this; omega)
  have HB_5 := Lib.hid ((by repeat (first | exact HB_4.out | refine Below.alloc ?_ (by first | omega | (simp <;> omega)) _) : Below w.heap.size w _).trans (hb5.mono (by first | omega | (simp <;> omega))))
  have nz_5 : w.heap.size ≤ w5.heap.size := HB_5.out.size
  clear hb5 x0_4 x1_4 y0_4 y1_4 z0_4 z1_4 HB_4
  go_wp2_with fail
  refine (HSz.out _).mono ?_
  rintro e w6 ⟨rfl, hb6⟩
  have x0_6 : w6.cell? ⟨w1.heap.size, 0, none⟩ = some (.int .i64 0) := carry hb6 (by go_simp)
  have x1_6 : w6.cell? ⟨w1.heap.size, 1, none⟩ = some (.int .i64 0) := carry hb6 (by go_simp)
  have xz_6 : w1.heap.size < w6.heap.size := by have := hb6.size; first | omega | (simp at this; omega)
  have y0_6 : w6.cell? ⟨w2.heap.size, 0, none⟩ = some (.int .i64 ym) := carry hb6 (by go_simp)
  have y1_6 : w6.cell? ⟨w2.heap.size, 1, none⟩ = some (.int .i64 ye) := carry hb6 (by go_simp)
  have yz_6 : w2.heap.size < w6.heap.size := by have := hb6.size; first | omega | (simp at this; omega)
  have z0_6 : w6.cell? ⟨w3.heap.size, 0, none⟩ = some (.int .i64 zm) := carry hb6 (by go_simp)
  have z1_6 : w6.cell? ⟨w3.heap.size, 1, none⟩ = some (.int .i64 ze) := carry hb6 (by go_simp)
  have zz_6 : w3.heap.size < w6.heap.size := by have := hb6.size; first | omega | (simp at this; omega)
  have HB_6 := Lib.hid ((by repeat (first | exact HB_5.out | refine Below.alloc ?_ (by first | omega | (simp <;> omega)) _) : Below w.heap.size w _).trans (hb6.mono (by first | omega | (simp <;> omega))))
  have nz_6 : w.heap.size ≤ w6.heap.size := HB_6.out.size
  clear hb6 x0_5 x1_5 y0_5 y1_5 z0_5 z1_5 HB_5
  go_wp2_with fail
  refine (HAdd.out _).mono ?_
  rintro e w7 ⟨rfl, hb7⟩
  have x0_7 : w7.cell? ⟨w1.heap.size, 0, none⟩ = some (.int .i64 0) := carry hb7 (by go_simp)
  have x1_7 : w7.cell? ⟨w1.heap.size, 1, none⟩ = some (.int .i64 0) := carry hb7 (by go_simp)
  have xz_7 : w1.heap.size < w7.heap.size := by have := hb7.size; first | omega | (simp at this; omega)
  have y0_7 : w7.cell? ⟨w2.heap.size, 0, none⟩ = some (.int .i64 ym) := carry hb7 (by go_simp)
  have y1_7 : w7.cell? ⟨w2.heap.size, 1, none⟩ = some (.int .i64 ye) := carry hb7 (by go_simp)
  have yz_7 : w2.heap.size < w7.heap.size := by have := hb7.size; first | omega | (simp at this; omega)
  have z0_7 : w7.cell? ⟨w3.heap.size, 0, none⟩ = some (.int .i64 zm) := carry hb7 (by go_simp)
  have z1_7 : w7.cell? ⟨w3.heap.size, 1, none⟩ = some (.int .i64 ze) := carry hb7 (by go_simp)
  have zz_7 : w3.heap.size < w7.heap.size := by have := hb7.size; first | omega | (simp at this; omega)
  have HB_7 := Lib.hid ((by repeat (first | exact HB_6.out | refine Below.alloc ?_ (by first | omega | (simp <;> omega)) _) : Below w.heap.size w _).trans (hb7.mono (by first | omega | (simp <;> omega))))
  have nz_7 : w.heap.size ≤ w7.heap.size := HB_7.out.size
  clear hb7 x0_6 x1_6 y0_6 y1_6 z0_6 z1_6 HB_6
  go_wp2_with fail
  refine (HSub.out _).mono ?_
  rintro e w8 ⟨rfl, hb8⟩
  have x0_8 : w8.cell? ⟨w1.heap.size, 0, none⟩ = some (.int .i64 0) := carry hb8 (by go_simp)
  have x1_8 : w8.cell? ⟨w1.heap.size, 1, none⟩ = some (.int .i64 0) := carry hb8 (by go_simp)
  have xz_8 : w1.heap.size < w8.heap.size := by have := hb8.size; first | omega | (simp at this; omega)
  have y0_8 : w8.cell? ⟨w2.heap.size, 0, none⟩ = some (.int .i64 ym) := carry hb8 (by go_simp)
  have y1_8 : w8.cell? ⟨w2.heap.size, 1, none⟩ = some (.int .i64 ye) := carry hb8 (by go_simp)
  have yz_8 : w2.heap.size < w8.heap.size := by have := hb8.size; first | omega | (simp at this; omega)
  have z0_8 : w8.cell? ⟨w3.heap.size, 0, none⟩ = some (.int .i64 zm) := carry hb8 (by go_simp)
  have z1_8 : w8.cell? ⟨w3.heap.size, 1, none⟩ = some (.int .i64 ze) := carry hb8 (by go_simp)
  have zz_8 : w3.heap.size < w8.heap.size := by have := hb8.size; first | omega | (simp at this; omega)
  have s0_8 : w8.cell? ⟨w7.heap.size, 0, none⟩ = some (.int .i64 sm) := carry hb8 (by go_simp)
  have s1_8 : w8.cell? ⟨w7.heap.size, 1, none⟩ = some (.int .i64 se) := carry hb8 (by go_simp)
  have sz_8 : w7.heap.size < w8.heap.size := by have := hb8.size; first | omega | (simp at this; omega)
  have HB_8 := Lib.hid ((by repeat (first | exact HB_7.out | refine Below.alloc ?_ (by first | omega | (simp <;> omega)) _) : Below w.heap.size w _).trans (hb8.mono (by first | omega | (simp <;> omega))))
  have nz_8 : w.heap.size ≤ w8.heap.size := HB_8.out.size
  clear hb8 x0_7 x1_7 y0_7 y1_7 z0_7 z1_7 HB_7
  go_wp2_with fail
  refine (HSs.out _).mono ?_
  rintro e w9 ⟨rfl, hb9⟩
  have z0_9 : w9.cell? ⟨w3.heap.size, 0, none⟩ = some (.int .i64 zm) := carry hb9 (by go_simp)
  have z1_9 : w9.cell? ⟨w3.heap.size, 1, none⟩ = some (.int .i64 ze) := carry hb9 (by go_simp)
  have zz_9 : w3.heap.size < w9.heap.size := by have := hb9.size; first | omega | (simp at this; omega)
  have d0_9 : w9.cell? ⟨w8.heap.size, 0, none⟩ = some (.int .i64 zm) := carry hb9 (by go_simp)
  have d1_9 : w9.cell? ⟨w8.heap.size, 1, none⟩ = some (.int .i64 ze) := carry hb9 (by go_simp)
  have dz_9 : w8.heap.size < w9.heap.size := by have := hb9.size; first | omega | (simp at this; omega)
  have HB_9 := Lib.hid ((by repeat (first | exact HB_8.out | refine Below.alloc ?_ (by first | omega | (simp <;> omega)) _) : Below w.heap.size w _).trans (hb9.mono (by first | omega | (simp <;> omega))))
  have nz_9 : w.heap.size ≤ w9.heap.size := HB_9.out.size
  clear hb9 x0_8 x1_8 y0_8 y1_8 z0_8 z1_8 s0_8 s1_8 HB_8
  go_wp2_with fail
  refine (HSd.out _).mono ?_
  rintro e w10 ⟨rfl, hb10⟩
  have z0_10 : w10.cell? ⟨w3.heap.size, 0, none⟩ = some (.int .i64 zm) := carry hb10 (by go_simp)
  have z1_10 : w10.cell? ⟨w3.heap.size, 1, none⟩ = some (.int .i64 ze) := carry hb10 (by go_simp)
  have zz_10 : w3.heap.size < w10.heap.size := by have := hb10.size; first | omega | (simp at this; omega)
  have d0_10 : w10.cell? ⟨w8.heap.size, 0, none⟩ = some (.int .i64 zm) := carry hb10 (by go_simp)
  have d1_10 : w10.cell? ⟨w8.heap.size, 1, none⟩ = some (.int .i64 ze) := carry hb10 (by go_simp)
  have dz_10 : w8.heap.size < w10.heap.size := by have := hb10.size; first | omega | (simp at this; omega)
  have HB_10 := Lib.hid ((by repeat (first | exact HB_9.out | refine Below.alloc ?_ (by first | omega | (simp <;> omega)) _) : Below w.heap.size w _).trans (hb10.mono (by first | omega | (simp <;> omega))))
  have nz_10 : w.heap.size ≤ w10.heap.size := HB_10.out.size
  clear hb10 z0_9 z1_9 d0_9 d1_9 HB_9
  go_wp2_with fail
  try rw [hp]
  refine (HD1.out _).mono ?_
  rintro e w11 ⟨rfl, hb11⟩
  have z0_11 : w11.cell? ⟨w3.heap.size, 0, none⟩ = some (.int .i64 zm) := carry hb11 (by go_simp)
  have z1_11 : w11.cell? ⟨w3.heap.size, 1, none⟩ = some (.int .i64 ze) := carry hb11 (by go_simp)
  have zz_11 : w3.heap.size < w11.heap.size := by have := hb11.size; first | omega | (simp at this; omega)
  have d0_11 : w11.cell? ⟨w8.heap.size, 0, none⟩ = some (.int .i64 zm) := carry hb11 (by go_simp)
  have d1_11 : w11.cell? ⟨w8.heap.size, 1, none⟩ = some (.int .i64 ze) := carry hb11 (by go_simp)
  have dz_11 : w8.heap.size < w11.heap.size := by have := hb11.size; first | omega | (simp at this; omega)
  have HB_11 := Lib.hid ((by repeat (first | exact HB_10.out | refine Below.alloc ?_ (by first | omega | (simp <;> omega)) _) : Below w.heap.size w _).trans (hb11.mono (by first | omega | (simp <;> omega))))
  have nz_11 : w.heap.size ≤ w11.heap.size := HB_11.out.size
  clear hb11 z0_10 z1_10 d0_10 d1_10 HB_10
  go_wp2_with fail
  try rw [hp]
  refine (HD2.out _).mono ?_
  rintro e w12 ⟨rfl, hb12⟩
  have z0_12 : w12.cell? ⟨w3.heap.size, 0, none⟩ = some (.int .i64 zm) := carry hb12 (by go_simp)
  have z1_12 : w12.cell? ⟨w3.heap.size, 1, none⟩ = some (.int .i64 ze) := carry hb12 (by go_simp)
  have zz_12 : w3.heap.size < w12.heap.size := by have := hb12.size; first | omega | (simp at this; omega)
  have d0_12 : w12.cell? ⟨w8.heap.size, 0, none⟩ = some (.int .i64 zm) := carry hb12 (by go_simp)
  have d1_12 : w12.cell? ⟨w8.heap.size, 1, none⟩ = some (.int .i64 ze) := carry hb12 (by go_simp)
  have dz_12 : w8.heap.size < w12.heap.size := by have := hb12.size; first | omega | (simp at this; omega)
  have HB_12 := Lib.hid ((by repeat (first | exact HB_11.out | refine Below.alloc ?_ (by first | omega | (simp <;> omega)) _) : Below w.heap.size w _).trans (hb12.mono (by first | omega | (simp <;> omega))))
  have nz_12 : w.heap.size ≤ w12.heap.size := HB_12.out.size
  clear hb12 z0_11 z1_11 d0_11 d1_11 HB_11
  go_wp2_with fail
  try rw [hq]
  refine (HD3.out _).mono ?_
  rintro e w13 ⟨rfl, hb13⟩
  have z0_13 : w13.cell? ⟨w3.heap.size, 0, none⟩ = some (.int .i64 zm) := carry hb13 (by go_simp)
  have z1_13 : w13.cell? ⟨w3.heap.size, 1, none⟩ = some (.int .i64 ze) := carry hb13 (by go_simp)
  have zz_13 : w3.heap.size < w13.heap.size := by have := hb13.size; first | omega | (simp at this; omega)
  have d0_13 : w13.cell? ⟨w8.heap.size, 0, none⟩ = some (.int .i64 zm) := carry hb13 (by go_simp)
  have d1_13 : w13.cell? ⟨w8.heap.size, 1, none⟩ = some (.int .i64 ze) := carry hb13 (by go_simp)
  have dz_13 : w8.heap.size < w13.heap.size := by have := hb13.size; first | omega | (simp at this; omega)
  have HB_13 := Lib.hid ((by repeat (first | exact HB_12.out | refine Below.alloc ?_ (by first | omega | (simp <;> omega)) _) : Below w.heap.size w _).trans (hb13.mono (by first | omega | (simp <;> omega))))
  have nz_13 : w.heap.size ≤ w13.heap.size := HB_13.out.size
  clear hb13 z0_12 z1_12 d0_12 d1_12 HB_12
  go_wp2_with fail
  try rw [hq]
  refine (HD4.out _).mono ?_
  rintro e w14 ⟨rfl, hb14⟩
  have z0_14 : w14.cell? ⟨w3.heap.size, 0, none⟩ = some (.int .i64 zm) := carry hb14 (by go_simp)
  have z1_14 : w14.cell? ⟨w3.heap.size, 1, none⟩ = some (.int .i64 ze) := carry hb14 (by go_simp)
  have zz_14 : w3.heap.size < w14.heap.size := by have := hb14.size; first | omega | (simp at this; omega)
  have d0_14 : w14.cell? ⟨w8.heap.size, 0, none⟩ = some (.int .i64 zm) := carry hb14 (by go_simp)
  have d1_14 : w14.cell? ⟨w8.heap.size, 1, none⟩ = some (.int .i64 ze) := carry hb14 (by go_simp)
  have dz_14 : w8.heap.size < w14.heap.size := by have := hb14.size; first | omega | (simp at this; omega)
  have HB_14 := Lib.hid ((by repeat (first | exact HB_13.out | refine Below.alloc ?_ (by first | omega | (simp <;> omega)) _) : Below w.heap.size w _).trans (hb14.mono (by first | omega | (simp <;> omega))))
  have nz_14 : w.heap.size ≤ w14.heap.size := HB_14.out.size
  clear hb14 z0_13 z1_13 d0_13 d1_13 HB_13
  go_wp2_with fail
  refine (HSan.out _ (by repeat (first | exact HB_14.out | refine Below.alloc ?_ (by first | omega | (simp <;> omega)) _))).mono ?_
  rintro e w15 ⟨rfl, hb15⟩
  have z0_15 : w15.cell? ⟨w3.heap.size, 0, none⟩ = some (.int .i64 zm) := carry hb15 (by go_simp)
  have z1_15 : w15.cell? ⟨w3.heap.size, 1, none⟩ = some (.int .i64 ze) := carry hb15 (by go_simp)
  have zz_15 : w3.heap.size < w15.heap.size := by have := hb15.size; first | omega | (simp at this; omega)
  have d0_15 : w15.cell? ⟨w8.heap.size, 0, none⟩ = some (.int .i64 zm) := carry hb15 (by go_simp)
  have d1_15 : w15.cell? ⟨w8.heap.size, 1, none⟩ = some (.int .i64 ze) := carry hb15 (by go_simp)
  have dz_15 : w8.heap.size < w15.heap.size := by have := hb15.size; first | omega | (simp at this; omega)
  have HB_15 := Lib.hid ((by repeat (first | exact HB_14.out | refine Below.alloc ?_ (by first | omega | (simp <;> omega)) _) : Below w.heap.size w _).trans (hb15.mono (by first | omega | (simp <;> omega))))
  have nz_15 : w.heap.size ≤ w15.heap.size := HB_15.out.size
  clear hb15 z0_14 z1_14 d0_14 d1_14 HB_14
  go_wp2_with fail
  go_ret
  exact ⟨rfl, by repeat (first | exact HB_15.out | refine Below.alloc ?_ (by first | omega | (simp <;> omega)) _)⟩

set_option maxRecDepth 100000 in
set_option maxHeartbeats 8000000 in
theorem m_zn_en (i j k xm xe ym ye zm ze a b c sm se dm de u v p q d1 d2 d3 d4 : Int) (w : World) (HAx : Hid (∀ W : World, Calls Tryz.prog 8 #[.int .i64 i] W fun r w' => r = .returned (realV 0 0) ∧ Below W.heap.size W w')) (HAy : Hid (∀ W : World, Calls Tryz.prog 8 #[.int .i64 j] W fun r w' => r = .returned (realV ym ye) ∧ Below W.heap.size W w')) (HAz : Hid (∀ W : World, Calls Tryz.prog 8 #[.int .i64 k] W fun r w' => r = .returned (realV zm ze) ∧ Below W.heap.size W w')) (HSx : Hid (∀ W : World, Calls Tryz.prog 20 #[realV 0 0] W fun r w' => r = .returned (.tuple #[.int .i64 a, .bool true]) ∧ Below W.heap.size W w')) (HSy : Hid (∀ W : World, Calls Tryz.prog 20 #[realV ym ye] W fun r w' => r = .returned (.tuple #[.int .i64 b, .bool true]) ∧ Below W.heap.size W w')) (HSz : Hid (∀ W : World, Calls Tryz.prog 20 #[realV zm ze] W fun r w' => r = .returned (.tuple #[.int .i64 c, .bool true]) ∧ Below W.heap.size W w')) (HAdd : Hid (∀ W : World, Calls Tryz.prog 11 #[realV 0 0, realV ym ye] W fun r w' => r = .returned (rE zm ze 0) ∧ Below W.heap.size W w')) (HSub : Hid (∀ W : World, Calls Tryz.prog 15 #[realV 0 0, realV ym ye] W fun r w' => r = .returned (rE dm de 0) ∧ Below W.heap.size W w')) (HSan : Hid (∀ W, Below w.heap.size w W → Calls Tryz.prog 19 #[] W fun r W' => r = .returned (.bool true) ∧ Below W.heap.size W W')) (y1 : ¬ -24 < ye) (HSs : Hid (∀ W : World, Calls Tryz.prog 20 #[realV zm ze] W fun r w' => r = .returned (.tuple #[.int .i64 u, .bool true]) ∧ Below W.heap.size W w')) (HSd : Hid (∀ W : World, Calls Tryz.prog 20 #[realV dm de] W fun r w' => r = .returned (.tuple #[.int .i64 v, .bool true]) ∧ Below W.heap.size W w')) (hp : IntKind.i64.wrap (a + b) = p) (hq : IntKind.i64.wrap (a - b) = q) (l1 : d1 ≤ d2) (l2 : d3 ≤ d4) (HD1 : Hid (∀ W : World, Calls Tryz.prog 21 #[.int .i64 u, .int .i64 p] W fun r w' => r = .returned (.int .i64 d1) ∧ Below W.heap.size W w')) (HD2 : Hid (∀ W : World, Calls Tryz.prog 21 #[.int .i64 c, .int .i64 p] W fun r w' => r = .returned (.int .i64 d2) ∧ Below W.heap.size W w')) (HD3 : Hid (∀ W : World, Calls Tryz.prog 21 #[.int .i64 v, .int .i64 q] W fun r w' => r = .returned (.int .i64 d3) ∧ Below W.heap.size W w')) (HD4 : Hid (∀ W : World, Calls Tryz.prog 21 #[.int .i64 c, .int .i64 q] W fun r w' => r = .returned (.int .i64 d4) ∧ Below W.heap.size W w')) (k1 : (c != p) = false) (k2 : (c != q) = true)  :
    Calls Tryz.prog 4 #[.int .i64 i, .int .i64 j, .int .i64 k] w fun r w' => r = .returned (.bool true) ∧ Below w.heap.size w w' := by
  go_enter Tryz.func4, Tryz.ntmps4
  go_wp2_with fail
  refine (HAx.out _).mono ?_
  rintro e w1 ⟨rfl, hb1⟩
  have HB_1 := Lib.hid ((by repeat (first | exact Below.refl _ _ | refine Below.alloc ?_ (by first | omega | (simp <;> omega)) _) : Below w.heap.size w _).trans (hb1.mono (by first | omega | (simp <;> omega))))
  have nz_1 : w.heap.size ≤ w1.heap.size := HB_1.out.size
  clear hb1
  go_wp2_with fail
  refine (HAy.out _).mono ?_
  rintro e w2 ⟨rfl, hb2⟩
  have x0_2 : w2.cell? ⟨w1.heap.size, 0, none⟩ = some (.int .i64 0) := carry hb2 (by go_simp)
  have x1_2 : w2.cell? ⟨w1.heap.size, 1, none⟩ = some (.int .i64 0) := carry hb2 (by go_simp)
  have xz_2 : w1.heap.size < w2.heap.size := by have := hb2.size; first | omega | (simp at this; omega)
  have HB_2 := Lib.hid ((by repeat (first | exact HB_1.out | refine Below.alloc ?_ (by first | omega | (simp <;> omega)) _) : Below w.heap.size w _).trans (hb2.mono (by first | omega | (simp <;> omega))))
  have nz_2 : w.heap.size ≤ w2.heap.size := HB_2.out.size
  clear hb2 HB_1
  go_wp2_with fail
  refine (HAz.out _).mono ?_
  rintro e w3 ⟨rfl, hb3⟩
  have x0_3 : w3.cell? ⟨w1.heap.size, 0, none⟩ = some (.int .i64 0) := carry hb3 (by go_simp)
  have x1_3 : w3.cell? ⟨w1.heap.size, 1, none⟩ = some (.int .i64 0) := carry hb3 (by go_simp)
  have xz_3 : w1.heap.size < w3.heap.size := by have := hb3.size; first | omega | (simp at this; omega)
  have y0_3 : w3.cell? ⟨w2.heap.size, 0, none⟩ = some (.int .i64 ym) := carry hb3 (by go_simp)
  have y1_3 : w3.cell? ⟨w2.heap.size, 1, none⟩ = some (.int .i64 ye) := carry hb3 (by go_simp)
  have yz_3 : w2.heap.size < w3.heap.size := by have := hb3.size; first | omega | (simp at this; omega)
  have HB_3 := Lib.hid ((by repeat (first | exact HB_2.out | refine Below.alloc ?_ (by first | omega | (simp <;> omega)) _) : Below w.heap.size w _).trans (hb3.mono (by first | omega | (simp <;> omega))))
  have nz_3 : w.heap.size ≤ w3.heap.size := HB_3.out.size
  clear hb3 x0_2 x1_2 HB_2
  go_wp2_with fail
  refine (HSx.out _).mono ?_
  rintro e w4 ⟨rfl, hb4⟩
  have x0_4 : w4.cell? ⟨w1.heap.size, 0, none⟩ = some (.int .i64 0) := carry hb4 (by go_simp)
  have x1_4 : w4.cell? ⟨w1.heap.size, 1, none⟩ = some (.int .i64 0) := carry hb4 (by go_simp)
  have xz_4 : w1.heap.size < w4.heap.size := by have := hb4.size; first | omega | (simp at this; omega)
  have y0_4 : w4.cell? ⟨w2.heap.size, 0, none⟩ = some (.int .i64 ym) := carry hb4 (by go_simp)
  have y1_4 : w4.cell? ⟨w2.heap.size, 1, none⟩ = some (.int .i64 ye) := carry hb4 (by go_simp)
  have yz_4 : w2.heap.size < w4.heap.size := by have := hb4.size; first | omega | (simp at this; omega)
  have z0_4 : w4.cell? ⟨w3.heap.size, 0, none⟩ = some (.int .i64 zm) := carry hb4 (by go_simp)
  have z1_4 : w4.cell? ⟨w3.heap.size, 1, none⟩ = some (.int .i64 ze) := carry hb4 (by go_simp)
  have zz_4 : w3.heap.size < w4.heap.size := by have := hb4.size; first | omega | (simp at this; omega)
  have HB_4 := Lib.hid ((by repeat (first | exact HB_3.out | refine Below.alloc ?_ (by first | omega | (simp <;> omega)) _) : Below w.heap.size w _).trans (hb4.mono (by first | omega | (simp <;> omega))))
  have nz_4 : w.heap.size ≤ w4.heap.size := HB_4.out.size
  clear hb4 x0_3 x1_3 y0_3 y1_3 HB_3
  go_wp2_with fail
  refine (HSy.out _).mono ?_
  rintro e w5 ⟨rfl, hb5⟩
  have x0_5 : w5.cell? ⟨w1.heap.size, 0, none⟩ = some (.int .i64 0) := carry hb5 (by go_simp)
  have x1_5 : w5.cell? ⟨w1.heap.size, 1, none⟩ = some (.int .i64 0) := carry hb5 (by go_simp)
  have xz_5 : w1.heap.size < w5.heap.size := by have := hb5.size; first | omega | (simp at this; omega)
  have y0_5 : w5.cell? ⟨w2.heap.size, 0, none⟩ = some (.int .i64 ym) := carry hb5 (by go_simp)
  have y1_5 : w5.cell? ⟨w2.heap.size, 1, none⟩ = some (.int .i64 ye) := carry hb5 (by go_simp)
  have yz_5 : w2.heap.size < w5.heap.size := by have := hb5.size; first | omega | (simp at this; omega)
  have z0_5 : w5.cell? ⟨w3.heap.size, 0, none⟩ = some (.int .i64 zm) := carry hb5 (by go_simp)
  have z1_5 : w5.cell? ⟨w3.heap.size, 1, none⟩ = some (.int .i64 ze) := carry hb5 (by go_simp)
  have zz_5 : w3.heap.size < w5.heap.size := by have := hb5.size; first | omega | (simp at this; omega)
  have HB_5 := Lib.hid ((by repeat (first | exact HB_4.out | refine Below.alloc ?_ (by first | omega | (simp <;> omega)) _) : Below w.heap.size w _).trans (hb5.mono (by first | omega | (simp <;> omega))))
  have nz_5 : w.heap.size ≤ w5.heap.size := HB_5.out.size
  clear hb5 x0_4 x1_4 y0_4 y1_4 z0_4 z1_4 HB_4
  go_wp2_with fail
  refine (HSz.out _).mono ?_
  rintro e w6 ⟨rfl, hb6⟩
  have x0_6 : w6.cell? ⟨w1.heap.size, 0, none⟩ = some (.int .i64 0) := carry hb6 (by go_simp)
  have x1_6 : w6.cell? ⟨w1.heap.size, 1, none⟩ = some (.int .i64 0) := carry hb6 (by go_simp)
  have xz_6 : w1.heap.size < w6.heap.size := by have := hb6.size; first | omega | (simp at this; omega)
  have y0_6 : w6.cell? ⟨w2.heap.size, 0, none⟩ = some (.int .i64 ym) := carry hb6 (by go_simp)
  have y1_6 : w6.cell? ⟨w2.heap.size, 1, none⟩ = some (.int .i64 ye) := carry hb6 (by go_simp)
  have yz_6 : w2.heap.size < w6.heap.size := by have := hb6.size; first | omega | (simp at this; omega)
  have z0_6 : w6.cell? ⟨w3.heap.size, 0, none⟩ = some (.int .i64 zm) := carry hb6 (by go_simp)
  have z1_6 : w6.cell? ⟨w3.heap.size, 1, none⟩ = some (.int .i64 ze) := carry hb6 (by go_simp)
  have zz_6 : w3.heap.size < w6.heap.size := by have := hb6.size; first | omega | (simp at this; omega)
  have HB_6 := Lib.hid ((by repeat (first | exact HB_5.out | refine Below.alloc ?_ (by first | omega | (simp <;> omega)) _) : Below w.heap.size w _).trans (hb6.mono (by first | omega | (simp <;> omega))))
  have nz_6 : w.heap.size ≤ w6.heap.size := HB_6.out.size
  clear hb6 x0_5 x1_5 y0_5 y1_5 z0_5 z1_5 HB_5
  go_wp2_with fail
  refine (HAdd.out _).mono ?_
  rintro e w7 ⟨rfl, hb7⟩
  have x0_7 : w7.cell? ⟨w1.heap.size, 0, none⟩ = some (.int .i64 0) := carry hb7 (by go_simp)
  have x1_7 : w7.cell? ⟨w1.heap.size, 1, none⟩ = some (.int .i64 0) := carry hb7 (by go_simp)
  have xz_7 : w1.heap.size < w7.heap.size := by have := hb7.size; first | omega | (simp at this; omega)
  have y0_7 : w7.cell? ⟨w2.heap.size, 0, none⟩ = some (.int .i64 ym) := carry hb7 (by go_simp)
  have y1_7 : w7.cell? ⟨w2.heap.size, 1, none⟩ = some (.int .i64 ye) := carry hb7 (by go_simp)
  have yz_7 : w2.heap.size < w7.heap.size := by have := hb7.size; first | omega | (simp at this; omega)
  have z0_7 : w7.cell? ⟨w3.heap.size, 0, none⟩ = some (.int .i64 zm) := carry hb7 (by go_simp)
  have z1_7 : w7.cell? ⟨w3.heap.size, 1, none⟩ = some (.int .i64 ze) := carry hb7 (by go_simp)
  have zz_7 : w3.heap.size < w7.heap.size := by have := hb7.size; first | omega | (simp at this; omega)
  have HB_7 := Lib.hid ((by repeat (first | exact HB_6.out | refine Below.alloc ?_ (by first | omega | (simp <;> omega)) _) : Below w.heap.size w _).trans (hb7.mono (by first | omega | (simp <;> omega))))
  have nz_7 : w.heap.size ≤ w7.heap.size := HB_7.out.size
  clear hb7 x0_6 x1_6 y0_6 y1_6 z0_6 z1_6 HB_6
  go_wp2_with fail
  refine (HSub.out _).mono ?_
  rintro e w8 ⟨rfl, hb8⟩
  have x0_8 : w8.cell? ⟨w1.heap.size, 0, none⟩ = some (.int .i64 0) := carry hb8 (by go_simp)
  have x1_8 : w8.cell? ⟨w1.heap.size, 1, none⟩ = some (.int .i64 0) := carry hb8 (by go_simp)
  have xz_8 : w1.heap.size < w8.heap.size := by have := hb8.size; first | omega | (simp at this; omega)
  have y0_8 : w8.cell? ⟨w2.heap.size, 0, none⟩ = some (.int .i64 ym) := carry hb8 (by go_simp)
  have y1_8 : w8.cell? ⟨w2.heap.size, 1, none⟩ = some (.int .i64 ye) := carry hb8 (by go_simp)
  have yz_8 : w2.heap.size < w8.heap.size := by have := hb8.size; first | omega | (simp at this; omega)
  have z0_8 : w8.cell? ⟨w3.heap.size, 0, none⟩ = some (.int .i64 zm) := carry hb8 (by go_simp)
  have z1_8 : w8.cell? ⟨w3.heap.size, 1, none⟩ = some (.int .i64 ze) := carry hb8 (by go_simp)
  have zz_8 : w3.heap.size < w8.heap.size := by have := hb8.size; first | omega | (simp at this; omega)
  have s0_8 : w8.cell? ⟨w7.heap.size, 0, none⟩ = some (.int .i64 zm) := carry hb8 (by go_simp)
  have s1_8 : w8.cell? ⟨w7.heap.size, 1, none⟩ = some (.int .i64 ze) := carry hb8 (by go_simp)
  have sz_8 : w7.heap.size < w8.heap.size := by have := hb8.size; first | omega | (simp at this; omega)
  have HB_8 := Lib.hid ((by repeat (first | exact HB_7.out | refine Below.alloc ?_ (by first | omega | (simp <;> omega)) _) : Below w.heap.size w _).trans (hb8.mono (by first | omega | (simp <;> omega))))
  have nz_8 : w.heap.size ≤ w8.heap.size := HB_8.out.size
  clear hb8 x0_7 x1_7 y0_7 y1_7 z0_7 z1_7 HB_7
  go_wp2_with fail
  refine (HSs.out _).mono ?_
  rintro e w9 ⟨rfl, hb9⟩
  have z0_9 : w9.cell? ⟨w3.heap.size, 0, none⟩ = some (.int .i64 zm) := carry hb9 (by go_simp)
  have z1_9 : w9.cell? ⟨w3.heap.size, 1, none⟩ = some (.int .i64 ze) := carry hb9 (by go_simp)
  have zz_9 : w3.heap.size < w9.heap.size := by have := hb9.size; first | omega | (simp at this; omega)
  have s0_9 : w9.cell? ⟨w7.heap.size, 0, none⟩ = some (.int .i64 zm) := carry hb9 (by go_simp)
  have s1_9 : w9.cell? ⟨w7.heap.size, 1, none⟩ = some (.int .i64 ze) := carry hb9 (by go_simp)
  have sz_9 : w7.heap.size < w9.heap.size := by have := hb9.size; first | omega | (simp at this; omega)
  have d0_9 : w9.cell? ⟨w8.heap.size, 0, none⟩ = some (.int .i64 dm) := carry hb9 (by go_simp)
  have d1_9 : w9.cell? ⟨w8.heap.size, 1, none⟩ = some (.int .i64 de) := carry hb9 (by go_simp)
  have dz_9 : w8.heap.size < w9.heap.size := by have := hb9.size; first | omega | (simp at this; omega)
  have HB_9 := Lib.hid ((by repeat (first | exact HB_8.out | refine Below.alloc ?_ (by first | omega | (simp <;> omega)) _) : Below w.heap.size w _).trans (hb9.mono (by first | omega | (simp <;> omega))))
  have nz_9 : w.heap.size ≤ w9.heap.size := HB_9.out.size
  clear hb9 x0_8 x1_8 y0_8 y1_8 z0_8 z1_8 s0_8 s1_8 HB_8
  go_wp2_with fail
  refine (HSd.out _).mono ?_
  rintro e w10 ⟨rfl, hb10⟩
  have z0_10 : w10.cell? ⟨w3.heap.size, 0, none⟩ = some (.int .i64 zm) := carry hb10 (by go_simp)
  have z1_10 : w10.cell? ⟨w3.heap.size, 1, none⟩ = some (.int .i64 ze) := carry hb10 (by go_simp)
  have zz_10 : w3.heap.size < w10.heap.size := by have := hb10.size; first | omega | (simp at this; omega)
  have s0_10 : w10.cell? ⟨w7.heap.size, 0, none⟩ = some (.int .i64 zm) := carry hb10 (by go_simp)
  have s1_10 : w10.cell? ⟨w7.heap.size, 1, none⟩ = some (.int .i64 ze) := carry hb10 (by go_simp)
  have sz_10 : w7.heap.size < w10.heap.size := by have := hb10.size; first | omega | (simp at this; omega)
  have HB_10 := Lib.hid ((by repeat (first | exact HB_9.out | refine Below.alloc ?_ (by first | omega | (simp <;> omega)) _) : Below w.heap.size w _).trans (hb10.mono (by first | omega | (simp <;> omega))))
  have nz_10 : w.heap.size ≤ w10.heap.size := HB_10.out.size
  clear hb10 z0_9 z1_9 s0_9 s1_9 d0_9 d1_9 HB_9
  go_wp2_with fail
  try rw [hp]
  refine (HD1.out _).mono ?_
  rintro e w11 ⟨rfl, hb11⟩
  have z0_11 : w11.cell? ⟨w3.heap.size, 0, none⟩ = some (.int .i64 zm) := carry hb11 (by go_simp)
  have z1_11 : w11.cell? ⟨w3.heap.size, 1, none⟩ = some (.int .i64 ze) := carry hb11 (by go_simp)
  have zz_11 : w3.heap.size < w11.heap.size := by have := hb11.size; first | omega | (simp at this; omega)
  have s0_11 : w11.cell? ⟨w7.heap.size, 0, none⟩ = some (.int .i64 zm) := carry hb11 (by go_simp)
  have s1_11 : w11.cell? ⟨w7.heap.size, 1, none⟩ = some (.int .i64 ze) := carry hb11 (by go_simp)
  have sz_11 : w7.heap.size < w11.heap.size := by have := hb11.size; first | omega | (simp at this; omega)
  have HB_11 := Lib.hid ((by repeat (first | exact HB_10.out | refine Below.alloc ?_ (by first | omega | (simp <;> omega)) _) : Below w.heap.size w _).trans (hb11.mono (by first | omega | (simp <;> omega))))
  have nz_11 : w.heap.size ≤ w11.heap.size := HB_11.out.size
  clear hb11 z0_10 z1_10 s0_10 s1_10 HB_10
  go_wp2_with fail
  try rw [hp]
  refine (HD2.out _).mono ?_
  rintro e w12 ⟨rfl, hb12⟩
  have z0_12 : w12.cell? ⟨w3.heap.size, 0, none⟩ = some (.int .i64 zm) := carry hb12 (by go_simp)
  have z1_12 : w12.cell? ⟨w3.heap.size, 1, none⟩ = some (.int .i64 ze) := carry hb12 (by go_simp)
  have zz_12 : w3.heap.size < w12.heap.size := by have := hb12.size; first | omega | (simp at this; omega)
  have s0_12 : w12.cell? ⟨w7.heap.size, 0, none⟩ = some (.int .i64 zm) := carry hb12 (by go_simp)
  have s1_12 : w12.cell? ⟨w7.heap.size, 1, none⟩ = some (.int .i64 ze) := carry hb12 (by go_simp)
  have sz_12 : w7.heap.size < w12.heap.size := by have := hb12.size; first | omega | (simp at this; omega)
  have HB_12 := Lib.hid ((by repeat (first | exact HB_11.out | refine Below.alloc ?_ (by first | omega | (simp <;> omega)) _) : Below w.heap.size w _).trans (hb12.mono (by first | omega | (simp <;> omega))))
  have nz_12 : w.heap.size ≤ w12.heap.size := HB_12.out.size
  clear hb12 z0_11 z1_11 s0_11 s1_11 HB_11
  go_wp2_with fail
  try rw [hq]
  refine (HD3.out _).mono ?_
  rintro e w13 ⟨rfl, hb13⟩
  have z0_13 : w13.cell? ⟨w3.heap.size, 0, none⟩ = some (.int .i64 zm) := carry hb13 (by go_simp)
  have z1_13 : w13.cell? ⟨w3.heap.size, 1, none⟩ = some (.int .i64 ze) := carry hb13 (by go_simp)
  have zz_13 : w3.heap.size < w13.heap.size := by have := hb13.size; first | omega | (simp at this; omega)
  have s0_13 : w13.cell? ⟨w7.heap.size, 0, none⟩ = some (.int .i64 zm) := carry hb13 (by go_simp)
  have s1_13 : w13.cell? ⟨w7.heap.size, 1, none⟩ = some (.int .i64 ze) := carry hb13 (by go_simp)
  have sz_13 : w7.heap.size < w13.heap.size := by have := hb13.size; first | omega | (simp at this; omega)
  have HB_13 := Lib.hid ((by repeat (first | exact HB_12.out | refine Below.alloc ?_ (by first | omega | (simp <;> omega)) _) : Below w.heap.size w _).trans (hb13.mono (by first | omega | (simp <;> omega))))
  have nz_13 : w.heap.size ≤ w13.heap.size := HB_13.out.size
  clear hb13 z0_12 z1_12 s0_12 s1_12 HB_12
  go_wp2_with fail
  try rw [hq]
  refine (HD4.out _).mono ?_
  rintro e w14 ⟨rfl, hb14⟩
  have z0_14 : w14.cell? ⟨w3.heap.size, 0, none⟩ = some (.int .i64 zm) := carry hb14 (by go_simp)
  have z1_14 : w14.cell? ⟨w3.heap.size, 1, none⟩ = some (.int .i64 ze) := carry hb14 (by go_simp)
  have zz_14 : w3.heap.size < w14.heap.size := by have := hb14.size; first | omega | (simp at this; omega)
  have s0_14 : w14.cell? ⟨w7.heap.size, 0, none⟩ = some (.int .i64 zm) := carry hb14 (by go_simp)
  have s1_14 : w14.cell? ⟨w7.heap.size, 1, none⟩ = some (.int .i64 ze) := carry hb14 (by go_simp)
  have sz_14 : w7.heap.size < w14.heap.size := by have := hb14.size; first | omega | (simp at this; omega)
  have HB_14 := Lib.hid ((by repeat (first | exact HB_13.out | refine Below.alloc ?_ (by first | omega | (simp <;> omega)) _) : Below w.heap.size w _).trans (hb14.mono (by first | omega | (simp <;> omega))))
  have nz_14 : w.heap.size ≤ w14.heap.size := HB_14.out.size
  clear hb14 z0_13 z1_13 s0_13 s1_13 HB_13
  go_wp2_with fail
  refine (HSan.out _ (by repeat (first | exact HB_14.out | refine Below.alloc ?_ (by first | omega | (simp <;> omega)) _))).mono ?_
  rintro e w15 ⟨rfl, hb15⟩
  have z0_15 : w15.cell? ⟨w3.heap.size, 0, none⟩ = some (.int .i64 zm) := carry hb15 (by go_simp)
  have z1_15 : w15.cell? ⟨w3.heap.size, 1, none⟩ = some (.int .i64 ze) := carry hb15 (by go_simp)
  have zz_15 : w3.heap.size < w15.heap.size := by have := hb15.size; first | omega | (simp at this; omega)
  have s0_15 : w15.cell? ⟨w7.heap.size, 0, none⟩ = some (.int .i64 zm) := carry hb15 (by go_simp)
  have s1_15 : w15.cell? ⟨w7.heap.size, 1, none⟩ = some (.int .i64 ze) := carry hb15 (by go_simp)
  have sz_15 : w7.heap.size < w15.heap.size := by have := hb15.size; first | omega | (simp at this; omega)
  have HB_15 := Lib.hid ((by repeat (first | exact HB_14.out | refine Below.alloc ?_ (by first | omega | (simp <;> omega)) _) : Below w.heap.size w _).trans (hb15.mono (by first | omega | (simp <;> omega))))
  have nz_15 : w.heap.size ≤ w15.heap.size := HB_15.out.size
  clear hb15 z0_14 z1_14 s0_14 s1_14 HB_14
  go_wp2_with fail
  go_ret
  exact ⟨rfl, by repeat (first | exact HB_15.out | refine Below.alloc ?_ (by first | omega | (simp <;> omega)) _)⟩

set_option maxRecDepth 100000 in
set_option maxHeartbeats 8000000 in
theorem m_zn_ee (i j k xm xe ym ye zm ze a b c sm se dm de u v p q d1 d2 d3 d4 : Int) (w : World) (HAx : Hid (∀ W : World, Calls Tryz.prog 8 #[.int .i64 i] W fun r w' => r = .returned (realV 0 0) ∧ Below W.heap.size W w')) (HAy : Hid (∀ W : World, Calls Tryz.prog 8 #[.int .i64 j] W fun r w' => r = .returned (realV ym ye) ∧ Below W.heap.size W w')) (HAz : Hid (∀ W : World, Calls Tryz.prog 8 #[.int .i64 k] W fun r w' => r = .returned (realV zm ze) ∧ Below W.heap.size W w')) (HSx : Hid (∀ W : World, Calls Tryz.prog 20 #[realV 0 0] W fun r w' => r = .returned (.tuple #[.int .i64 a, .bool true]) ∧ Below W.heap.size W w')) (HSy : Hid (∀ W : World, Calls Tryz.prog 20 #[realV ym ye] W fun r w' => r = .returned (.tuple #[.int .i64 b, .bool true]) ∧ Below W.heap.size W w')) (HSz : Hid (∀ W : World, Calls Tryz.prog 20 #[realV zm ze] W fun r w' => r = .returned (.tuple #[.int .i64 c, .bool true]) ∧ Below W.heap.size W w')) (HAdd : Hid (∀ W : World, Calls Tryz.prog 11 #[realV 0 0, realV ym ye] W fun r w' => r = .returned (rE zm ze 0) ∧ Below W.heap.size W w')) (HSub : Hid (∀ W : World, Calls Tryz.prog 15 #[realV 0 0, realV ym ye] W fun r w' => r = .returned (rE zm ze 0) ∧ Below W.heap.size W w')) (HSan : Hid (∀ W, Below w.heap.size w W → Calls Tryz.prog 19 #[] W fun r W' => r = .returned (.bool true) ∧ Below W.heap.size W W')) (y1 : ¬ -24 < ye) (HSs : Hid (∀ W : World, Calls Tryz.prog 20 #[realV zm ze] W fun r w' => r = .returned (.tuple #[.int .i64 u, .bool true]) ∧ Below W.heap.size W w')) (HSd : Hid (∀ W : World, Calls Tryz.prog 20 #[realV zm ze] W fun r w' => r = .returned (.tuple #[.int .i64 v, .bool true]) ∧ Below W.heap.size W w')) (hp : IntKind.i64.wrap (a + b) = p) (hq : IntKind.i64.wrap (a - b) = q) (l1 : d1 ≤ d2) (l2 : d3 ≤ d4) (HD1 : Hid (∀ W : World, Calls Tryz.prog 21 #[.int .i64 u, .int .i64 p] W fun r w' => r = .returned (.int .i64 d1) ∧ Below W.heap.size W w')) (HD2 : Hid (∀ W : World, Calls Tryz.prog 21 #[.int .i64 c, .int .i64 p] W fun r w' => r = .returned (.int .i64 d2) ∧ Below W.heap.size W w')) (HD3 : Hid (∀ W : World, Calls Tryz.prog 21 #[.int .i64 v, .int .i64 q] W fun r w' => r = .returned (.int .i64 d3) ∧ Below W.heap.size W w')) (HD4 : Hid (∀ W : World, Calls Tryz.prog 21 #[.int .i64 c, .int .i64 q] W fun r w' => r = .returned (.int .i64 d4) ∧ Below W.heap.size W w')) (k1 : (c != p) = false) (k2 : (c != q) = false)  :
    Calls Tryz.prog 4 #[.int .i64 i, .int .i64 j, .int .i64 k] w fun r w' => r = .returned (.bool true) ∧ Below w.heap.size w w' := by
  go_enter Tryz.func4, Tryz.ntmps4
  go_wp2_with fail
  refine (HAx.out _).mono ?_
  rintro e w1 ⟨rfl, hb1⟩
  have HB_1 := Lib.hid ((by repeat (first | exact Below.refl _ _ | refine Below.alloc ?_ (by first | omega | (simp <;> omega)) _) : Below w.heap.size w _).trans (hb1.mono (by first | omega | (simp <;> omega))))
  have nz_1 : w.heap.size ≤ w1.heap.size := HB_1.out.size
  clear hb1
  go_wp2_with fail
  refine (HAy.out _).mono ?_
  rintro e w2 ⟨rfl, hb2⟩
  have x0_2 : w2.cell? ⟨w1.heap.size, 0, none⟩ = some (.int .i64 0) := carry hb2 (by go_simp)
  have x1_2 : w2.cell? ⟨w1.heap.size, 1, none⟩ = some (.int .i64 0) := carry hb2 (by go_simp)
  have xz_2 : w1.heap.size < w2.heap.size := by have := hb2.size; first | omega | (simp at this; omega)
  have HB_2 := Lib.hid ((by repeat (first | exact HB_1.out | refine Below.alloc ?_ (by first | omega | (simp <;> omega)) _) : Below w.heap.size w _).trans (hb2.mono (by first | omega | (simp <;> omega))))
  have nz_2 : w.heap.size ≤ w2.heap.size := HB_2.out.size
  clear hb2 HB_1
  go_wp2_with fail
  refine (HAz.out _).mono ?_
  rintro e w3 ⟨rfl, hb3⟩
  have x0_3 : w3.cell? ⟨w1.heap.size, 0, none⟩ = some (.int .i64 0) := carry hb3 (by go_simp)
  have x1_3 : w3.cell? ⟨w1.heap.size, 1, none⟩ = some (.int .i64 0) := carry hb3 (by go_simp)
  have xz_3 : w1.heap.size < w3.heap.size := by have := hb3.size; first | omega | (simp at this; omega)
  have y0_3 : w3.cell? ⟨w2.heap.size, 0, none⟩ = some (.int .i64 ym) := carry hb3 (by go_simp)
  have y1_3 : w3.cell? ⟨w2.heap.size, 1, none⟩ = some (.int .i64 ye) := carry hb3 (by go_simp)
  have yz_3 : w2.heap.size < w3.heap.size := by have := hb3.size; first | omega | (simp at this; omega)
  have HB_3 := Lib.hid ((by repeat (first | exact HB_2.out | refine Below.alloc ?_ (by first | omega | (simp <;> omega)) _) : Below w.heap.size w _).trans (hb3.mono (by first | omega | (simp <;> omega))))
  have nz_3 : w.heap.size ≤ w3.heap.size := HB_3.out.size
  clear hb3 x0_2 x1_2 HB_2
  go_wp2_with fail
  refine (HSx.out _).mono ?_
  rintro e w4 ⟨rfl, hb4⟩
  have x0_4 : w4.cell? ⟨w1.heap.size, 0, none⟩ = some (.int .i64 0) := carry hb4 (by go_simp)
  have x1_4 : w4.cell? ⟨w1.heap.size, 1, none⟩ = some (.int .i64 0) := carry hb4 (by go_simp)
  have xz_4 : w1.heap.size < w4.heap.size := by have := hb4.size; first | omega | (simp at this; omega)
  have y0_4 : w4.cell? ⟨w2.heap.size, 0, none⟩ = some (.int .i64 ym) := carry hb4 (by go_simp)
  have y1_4 : w4.cell? ⟨w2.heap.size, 1, none⟩ = some (.int .i64 ye) := carry hb4 (by go_simp)
  have yz_4 : w2.heap.size < w4.heap.size := by have := hb4.size; first | omega | (simp at this; omega)
  have z0_4 : w4.cell? ⟨w3.heap.size, 0, none⟩ = some (.int .i64 zm) := carry hb4 (by go_simp)
  have z1_4 : w4.cell? ⟨w3.heap.size, 1, none⟩ = some (.int .i64 ze) := carry hb4 (by go_simp)
  have zz_4 : w3.heap.size < w4.heap.size := by have := hb4.size; first | omega | (simp at this; omega)
  have HB_4 := Lib.hid ((by repeat (first | exact HB_3.out | refine Below.alloc ?_ (by first | omega | (simp <;> omega)) _) : Below w.heap.size w _).trans (hb4.mono (by first | omega | (simp <;> omega))))
  have nz_4 : w.heap.size ≤ w4.heap.size := HB_4.out.size
  clear hb4 x0_3 x1_3 y0_3 y1_3 HB_3
  go_wp2_with fail
  refine (HSy.out _).mono ?_
  rintro e w5 ⟨rfl, hb5⟩
  have x0_5 : w5.cell? ⟨w1.heap.size, 0, none⟩ = some (.int .i64 0) := carry hb5 (by go_simp)
  have x1_5 : w5.cell? ⟨w1.heap.size, 1, none⟩ = some (.int .i64 0) := carry hb5 (by go_simp)
  have xz_5 : w1.heap.size < w5.heap.size := by have := hb5.size; first | omega | (simp at this; omega)
  have y0_5 : w5.cell? ⟨w2.heap.size, 0, none⟩ = some (.int .i64 ym) := carry hb5 (by go_simp)
  have y1_5 : w5.cell? ⟨w2.heap.size, 1, none⟩ = some (.int .i64 ye) := carry hb5 (by go_simp)
  have yz_5 : w2.heap.size < w5.heap.size := by have := hb5.size; first | omega | (simp at this; omega)
  have z0_5 : w5.cell? ⟨w3.heap.size, 0, none⟩ = some (.int .i64 zm) := carry hb5 (by go_simp)
  have z1_5 : w5.cell? ⟨w3.heap.size, 1, none⟩ = some (.int .i64 ze) := carry hb5 (by go_simp)
  have zz_5 : w3.heap.size < w5.heap.size := by have := hb5.size; first | omega | (simp at this; omega)
  have HB_5 := Lib.hid ((by repeat (first | exact HB_4.out | refine Below.alloc ?_ (by first | omega | (simp <;> omega)) _) : Below w.heap.size w _).trans (hb5.mono (by first | omega | (simp <;> omega))))
  have nz_5 : w.heap.size ≤ w5.heap.size := HB_5.out.size
  clear hb5 x0_4 x1_4 y0_4 y1_4 z0_4 z1_4 HB_4
  go_wp2_with fail
  refine (HSz.out _).mono ?_
  rintro e w6 ⟨rfl, hb6⟩
  have x0_6 : w6.cell? ⟨w1.heap.size, 0, none⟩ = some (.int .i64 0) := carry hb6 (by go_simp)
  have x1_6 : w6.cell? ⟨w1.heap.size, 1, none⟩ = some (.int .i64 0) := carry hb6 (by go_simp)
  have xz_6 : w1.heap.size < w6.heap.size := by have := hb6.size; first | omega | (simp at this; omega)
  have y0_6 : w6.cell? ⟨w2.heap.size, 0, none⟩ = some (.int .i64 ym) := carry hb6 (by go_simp)
  have y1_6 : w6.cell? ⟨w2.heap.size, 1, none⟩ = some (.int .i64 ye) := carry hb6 (by go_simp)
  have yz_6 : w2.heap.size < w6.heap.size := by have := hb6.size; first | omega | (simp at this; omega)
  have z0_6 : w6.cell? ⟨w3.heap.size, 0, none⟩ = some (.int .i64 zm) := carry hb6 (by go_simp)
  have z1_6 : w6.cell? ⟨w3.heap.size, 1, none⟩ = some (.int .i64 ze) := carry hb6 (by go_simp)
  have zz_6 : w3.heap.size < w6.heap.size := by have := hb6.size; first | omega | (simp at this; omega)
  have HB_6 := Lib.hid ((by repeat (first | exact HB_5.out | refine Below.alloc ?_ (by first | omega | (simp <;> omega)) _) : Below w.heap.size w _).trans (hb6.mono (by first | omega | (simp <;> omega))))
  have nz_6 : w.heap.size ≤ w6.heap.size := HB_6.out.size
  clear hb6 x0_5 x1_5 y0_5 y1_5 z0_5 z1_5 HB_5
  go_wp2_with fail
  refine (HAdd.out _).mono ?_
  rintro e w7 ⟨rfl, hb7⟩
  have x0_7 : w7.cell? ⟨w1.heap.size, 0, none⟩ = some (.int .i64 0) := carry hb7 (by go_simp)
  have x1_7 : w7.cell? ⟨w1.heap.size, 1, none⟩ = some (.int .i64 0) := carry hb7 (by go_simp)
  have xz_7 : w1.heap.size < w7.heap.size := by have := hb7.size; first | omega | (simp at this; omega)
  have y0_7 : w7.cell? ⟨w2.heap.size, 0, none⟩ = some (.int .i64 ym) := carry hb7 (by go_simp)
  have y1_7 : w7.cell? ⟨w2.heap.size, 1, none⟩ = some (.int .i64 ye) := carry hb7 (by go_simp)
  have yz_7 : w2.heap.size < w7.heap.size := by have := hb7.size; first | omega | (simp at this; omega)
  have z0_7 : w7.cell? ⟨w3.heap.size, 0, none⟩ = some (.int .i64 zm) := carry hb7 (by go_simp)
  have z1_7 : w7.cell? ⟨w3.heap.size, 1, none⟩ = some (.int .i64 ze) := carry hb7 (by go_simp)
  have zz_7 : w3.heap.size < w7.heap.size := by have := hb7.size; first | omega | (simp at this; omega)
  have HB_7 := Lib.hid ((by repeat (first | exact HB_6.out | refine Below.alloc ?_ (by first | omega | (simp <;> omega)) _) : Below w.heap.size w _).trans (hb7.mono (by first | omega | (simp <;> omega))))
  have nz_7 : w.heap.size ≤ w7.heap.size := HB_7.out.size
  clear hb7 x0_6 x1_6 y0_6 y1_6 z0_6 z1_6 HB_6
  go_wp2_with fail
  refine (HSub.out _).mono ?_
  rintro e w8 ⟨rfl, hb8⟩
  have x0_8 : w8.cell? ⟨w1.heap.size, 0, none⟩ = some (.int .i64 0) := carry hb8 (by go_simp)
  have x1_8 : w8.cell? ⟨w1.heap.size, 1, none⟩ = some (.int .i64 0) := carry hb8 (by go_simp)
  have xz_8 : w1.heap.size < w8.heap.size := by have := hb8.size; first | omega | (simp at this; omega)
  have y0_8 : w8.cell? ⟨w2.heap.size, 0, none⟩ = some (.int .i64 ym) := carry hb8 (by go_simp)
  have y1_8 : w8.cell? ⟨w2.heap.size, 1, none⟩ = some (.int .i64 ye) := carry hb8 (by go_simp)
  have yz_8 : w2.heap.size < w8.heap.size := by have := hb8.size; first | omega | (simp at this; omega)
  have z0_8 : w8.cell? ⟨w3.heap.size, 0, none⟩ = some (.int .i64 zm) := carry hb8 (by go_simp)
  have z1_8 : w8.cell? ⟨w3.heap.size, 1, none⟩ = some (.int .i64 ze) := carry hb8 (by go_simp)
  have zz_8 : w3.heap.size < w8.heap.size := by have := hb8.size; first | omega | (simp at this; omega)
  have s0_8 : w8.cell? ⟨w7.heap.size, 0, none⟩ = some (.int .i64 zm) := carry hb8 (by go_simp)
  have s1_8 : w8.cell? ⟨w7.heap.size, 1, none⟩ = some (.int .i64 ze) := carry hb8 (by go_simp)
  have sz_8 : w7.heap.size < w8.heap.size := by have := hb8.size; first | omega | (simp at this; omega)
  have HB_8 := Lib.hid ((by repeat (first | exact HB_7.out | refine Below.alloc ?_ (by first | omega | (simp <;> omega)) _) : Below w.heap.size w _).trans (hb8.mono (by first | omega | (simp <;> omega))))
  have nz_8 : w.heap.size ≤ w8.heap.size := HB_8.out.size
  clear hb8 x0_7 x1_7 y0_7 y1_7 z0_7 z1_7 HB_7
  go_wp2_with fail
  refine (HSs.out _).mono ?_
  rintro e w9 ⟨rfl, hb9⟩
  have z0_9 : w9.cell? ⟨w3.heap.size, 0, none⟩ = some (.int .i64 zm) := carry hb9 (by go_simp)
  have z1_9 : w9.cell? ⟨w3.heap.size, 1, none⟩ = some (.int .i64 ze) := carry hb9 (by go_simp)
  have zz_9 : w3.heap.size < w9.heap.size := by have := hb9.size; first | omega | (simp at this; omega)
  have s0_9 : w9.cell? ⟨w7.heap.size, 0, none⟩ = some (.int .i64 zm) := carry hb9 (by go_simp)
  have s1_9 : w9.cell? ⟨w7.heap.size, 1, none⟩ = some (.int .i64 ze) := carry hb9 (by go_simp)
  have sz_9 : w7.heap.size < w9.heap.size := by have := hb9.size; first | omega | (simp at this; omega)
  have d0_9 : w9.cell? ⟨w8.heap.size, 0, none⟩ = some (.int .i64 zm) := carry hb9 (by go_simp)
  have d1_9 : w9.cell? ⟨w8.heap.size, 1, none⟩ = some (.int .i64 ze) := carry hb9 (by go_simp)
  have dz_9 : w8.heap.size < w9.heap.size := by have := hb9.size; first | omega | (simp at this; omega)
  have HB_9 := Lib.hid ((by repeat (first | exact HB_8.out | refine Below.alloc ?_ (by first | omega | (simp <;> omega)) _) : Below w.heap.size w _).trans (hb9.mono (by first | omega | (simp <;> omega))))
  have nz_9 : w.heap.size ≤ w9.heap.size := HB_9.out.size
  clear hb9 x0_8 x1_8 y0_8 y1_8 z0_8 z1_8 s0_8 s1_8 HB_8
  go_wp2_with fail
  refine (HSd.out _).mono ?_
  rintro e w10 ⟨rfl, hb10⟩
  have z0_10 : w10.cell? ⟨w3.heap.size, 0, none⟩ = some (.int .i64 zm) := carry hb10 (by go_simp)
  have z1_10 : w10.cell? ⟨w3.heap.size, 1, none⟩ = some (.int .i64 ze) := carry hb10 (by go_simp)
  have zz_10 : w3.heap.size < w10.heap.size := by have := hb10.size; first | omega | (simp at this; omega)
  have s0_10 : w10.cell? ⟨w7.heap.size, 0, none⟩ = some (.int .i64 zm) := carry hb10 (by go_simp)
  have s1_10 : w10.cell? ⟨w7.heap.size, 1, none⟩ = some (.int .i64 ze) := carry hb10 (by go_simp)
  have sz_10 : w7.heap.size < w10.heap.size := by have := hb10.size; first | omega | (simp at this; omega)
  have d0_10 : w10.cell? ⟨w8.heap.size, 0, none⟩ = some (.int .i64 zm) := carry hb10 (by go_simp)
  have d1_10 : w10.cell? ⟨w8.heap.size, 1, none⟩ = some (.int .i64 ze) := carry hb10 (by go_simp)
  have dz_10 : w8.heap.size < w10.heap.size := by have := hb10.size; first | omega | (simp at this; omega)
  have HB_10 := Lib.hid ((by repeat (first | exact HB_9.out | refine Below.alloc ?_ (by first | omega | (simp <;> omega)) _) : Below w.heap.size w _).trans (hb10.mono (by first | omega | (simp <;> omega))))
  have nz_10 : w.heap.size ≤ w10.heap.size := HB_10.out.size
  clear hb10 z0_9 z1_9 s0_9 s1_9 d0_9 d1_9 HB_9
  go_wp2_with fail
  try rw [hp]
  refine (HD1.out _).mono ?_
  rintro e w11 ⟨rfl, hb11⟩
  have z0_11 : w11.cell? ⟨w3.heap.size, 0, none⟩ = some (.int .i64 zm) := carry hb11 (by go_simp)
  have z1_11 : w11.cell? ⟨w3.heap.size, 1, none⟩ = some (.int .i64 ze) := carry hb11 (by go_simp)
  have zz_11 : w3.heap.size < w11.heap.size := by have := hb11.size; first | omega | (simp at this; omega)
  have s0_11 : w11.cell? ⟨w7.heap.size, 0, none⟩ = some (.int .i64 zm) := carry hb11 (by go_simp)
  have s1_11 : w11.cell? ⟨w7.heap.size, 1, none⟩ = some (.int .i64 ze) := carry hb11 (by go_simp)
  have sz_11 : w7.heap.size < w11.heap.size := by have := hb11.size; first | omega | (simp at this; omega)
  have d0_11 : w11.cell? ⟨w8.heap.size, 0, none⟩ = some (.int .i64 zm) := carry hb11 (by go_simp)
  have d1_11 : w11.cell? ⟨w8.heap.size, 1, none⟩ = some (.int .i64 ze) := carry hb11 (by go_simp)
  have dz_11 : w8.heap.size < w11.heap.size := by have := hb11.size; first | omega | (simp at this; omega)
  have HB_11 := Lib.hid ((by repeat (first | exact HB_10.out | refine Below.alloc ?_ (by first | omega | (simp <;> omega)) _) : Below w.heap.size w _).trans (hb11.mono (by first | omega | (simp <;> omega))))
  have nz_11 : w.heap.size ≤ w11.heap.size := HB_11.out.size
  clear hb11 z0_10 z1_10 s0_10 s1_10 d0_10 d1_10 HB_10
  go_wp2_with fail
  try rw [hp]
  refine (HD2.out _).mono ?_
  rintro e w12 ⟨rfl, hb12⟩
  have z0_12 : w12.cell? ⟨w3.heap.size, 0, none⟩ = some (.int .i64 zm) := carry hb12 (by go_simp)
  have z1_12 : w12.cell? ⟨w3.heap.size, 1, none⟩ = some (.int .i64 ze) := carry hb12 (by go_simp)
  have zz_12 : w3.heap.size < w12.heap.size := by have := hb12.size; first | omega | (simp at this; omega)
  have s0_12 : w12.cell? ⟨w7.heap.size, 0, none⟩ = some (.int .i64 zm) := carry hb12 (by go_simp)
  have s1_12 : w12.cell? ⟨w7.heap.size, 1, none⟩ = some (.int .i64 ze) := carry hb12 (by go_simp)
  have sz_12 : w7.heap.size < w12.heap.size := by have := hb12.size; first | omega | (simp at this; omega)
  have d0_12 : w12.cell? ⟨w8.heap.size, 0, none⟩ = some (.int .i64 zm) := carry hb12 (by go_simp)
  have d1_12 : w12.cell? ⟨w8.heap.size, 1, none⟩ = some (.int .i64 ze) := carry hb12 (by go_simp)
  have dz_12 : w8.heap.size < w12.heap.size := by have := hb12.size; first | omega | (simp at this; omega)
  have HB_12 := Lib.hid ((by repeat (first | exact HB_11.out | refine Below.alloc ?_ (by first | omega | (simp <;> omega)) _) : Below w.heap.size w _).trans (hb12.mono (by first | omega | (simp <;> omega))))
  have nz_12 : w.heap.size ≤ w12.heap.size := HB_12.out.size
  clear hb12 z0_11 z1_11 s0_11 s1_11 d0_11 d1_11 HB_11
  go_wp2_with fail
  try rw [hq]
  refine (HD3.out _).mono ?_
  rintro e w13 ⟨rfl, hb13⟩
  have z0_13 : w13.cell? ⟨w3.heap.size, 0, none⟩ = some (.int .i64 zm) := carry hb13 (by go_simp)
  have z1_13 : w13.cell? ⟨w3.heap.size, 1, none⟩ = some (.int .i64 ze) := carry hb13 (by go_simp)
  have zz_13 : w3.heap.size < w13.heap.size := by have := hb13.size; first | omega | (simp at this; omega)
  have s0_13 : w13.cell? ⟨w7.heap.size, 0, none⟩ = some (.int .i64 zm) := carry hb13 (by go_simp)
  have s1_13 : w13.cell? ⟨w7.heap.size, 1, none⟩ = some (.int .i64 ze) := carry hb13 (by go_simp)
  have sz_13 : w7.heap.size < w13.heap.size := by have := hb13.size; first | omega | (simp at this; omega)
  have d0_13 : w13.cell? ⟨w8.heap.size, 0, none⟩ = some (.int .i64 zm) := carry hb13 (by go_simp)
  have d1_13 : w13.cell? ⟨w8.heap.size, 1, none⟩ = some (.int .i64 ze) := carry hb13 (by go_simp)
  have dz_13 : w8.heap.size < w13.heap.size := by have := hb13.size; first | omega | (simp at this; omega)
  have HB_13 := Lib.hid ((by repeat (first | exact HB_12.out | refine Below.alloc ?_ (by first | omega | (simp <;> omega)) _) : Below w.heap.size w _).trans (hb13.mono (by first | omega | (simp <;> omega))))
  have nz_13 : w.heap.size ≤ w13.heap.size := HB_13.out.size
  clear hb13 z0_12 z1_12 s0_12 s1_12 d0_12 d1_12 HB_12
  go_wp2_with fail
  try rw [hq]
  refine (HD4.out _).mono ?_
  rintro e w14 ⟨rfl, hb14⟩
  have z0_14 : w14.cell? ⟨w3.heap.size, 0, none⟩ = some (.int .i64 zm) := carry hb14 (by go_simp)
  have z1_14 : w14.cell? ⟨w3.heap.size, 1, none⟩ = some (.int .i64 ze) := carry hb14 (by go_simp)
  have zz_14 : w3.heap.size < w14.heap.size := by have := hb14.size; first | omega | (simp at this; omega)
  have s0_14 : w14.cell? ⟨w7.heap.size, 0, none⟩ = some (.int .i64 zm) := carry hb14 (by go_simp)
  have s1_14 : w14.cell? ⟨w7.heap.size, 1, none⟩ = some (.int .i64 ze) := carry hb14 (by go_simp)
  have sz_14 : w7.heap.size < w14.heap.size := by have := hb14.size; first | omega | (simp at this; omega)
  have d0_14 : w14.cell? ⟨w8.heap.size, 0, none⟩ = some (.int .i64 zm) := carry hb14 (by go_simp)
  have d1_14 : w14.cell? ⟨w8.heap.size, 1, none⟩ = some (.int .i64 ze) := carry hb14 (by go_simp)
  have dz_14 : w8.heap.size < w14.heap.size := by have := hb14.size; first | omega | (simp at this; omega)
  have HB_14 := Lib.hid ((by repeat (first | exact HB_13.out | refine Below.alloc ?_ (by first | omega | (simp <;> omega)) _) : Below w.heap.size w _).trans (hb14.mono (by first | omega | (simp <;> omega))))
  have nz_14 : w.heap.size ≤ w14.heap.size := HB_14.out.size
  clear hb14 z0_13 z1_13 s0_13 s1_13 d0_13 d1_13 HB_13
  go_wp2_with fail
  refine (HSan.out _ (by repeat (first | exact HB_14.out | refine Below.alloc ?_ (by first | omega | (simp <;> omega)) _))).mono ?_
  rintro e w15 ⟨rfl, hb15⟩
  have z0_15 : w15.cell? ⟨w3.heap.size, 0, none⟩ = some (.int .i64 zm) := carry hb15 (by go_simp)
  have z1_15 : w15.cell? ⟨w3.heap.size, 1, none⟩ = some (.int .i64 ze) := carry hb15 (by go_simp)
  have zz_15 : w3.heap.size < w15.heap.size := by have := hb15.size; first | omega | (simp at this; omega)
  have s0_15 : w15.cell? ⟨w7.heap.size, 0, none⟩ = some (.int .i64 zm) := carry hb15 (by go_simp)
  have s1_15 : w15.cell? ⟨w7.heap.size, 1, none⟩ = some (.int .i64 ze) := carry hb15 (by go_simp)
  have sz_15 : w7.heap.size < w15.heap.size := by have := hb15.size; first | omega | (simp at this; omega)
  have d0_15 : w15.cell? ⟨w8.heap.size, 0, none⟩ = some (.int .i64 zm) := carry hb15 (by go_simp)
  have d1_15 : w15.cell? ⟨w8.heap.size, 1, none⟩ = some (.int .i64 ze) := carry hb15 (by go_simp)
  have dz_15 : w8.heap.size < w15.heap.size := by have := hb15.size; first | omega | (simp at this; omega)
  have HB_15 := Lib.hid ((by repeat (first | exact HB_14.out | refine Below.alloc ?_ (by first | omega | (simp <;> omega)) _) : Below w.heap.size w _).trans (hb15.mono (by first | omega | (simp <;> omega))))
  have nz_15 : w.heap.size ≤ w15.heap.size := HB_15.out.size
  clear hb15 z0_14 z1_14 s0_14 s1_14 d0_14 d1_14 HB_14
  go_wp2_with fail
  go_ret
  exact ⟨rfl, by repeat (first | exact HB_15.out | refine Below.alloc ?_ (by first | omega | (simp <;> omega)) _)⟩

set_option maxRecDepth 100000 in
set_option maxHeartbeats 8000000 in
theorem m_zz_ff (i j k xm xe ym ye zm ze a b c sm se dm de u v : Int) (w : World) (HAx : Hid (∀ W : World, Calls Tryz.prog 8 #[.int .i64 i] W fun r w' => r = .returned (realV 0 0) ∧ Below W.heap.size W w')) (HAy : Hid (∀ W : World, Calls Tryz.prog 8 #[.int .i64 j] W fun r w' => r = .returned (realV 0 0) ∧ Below W.heap.size W w')) (HAz : Hid (∀ W : World, Calls Tryz.prog 8 #[.int .i64 k] W fun r w' => r = .returned (realV zm ze) ∧ Below W.heap.size W w')) (HSx : Hid (∀ W : World, Calls Tryz.prog 20 #[realV 0 0] W fun r w' => r = .returned (.tuple #[.int .i64 a, .bool true]) ∧ Below W.heap.size W w')) (HSy : Hid (∀ W : World, Calls Tryz.prog 20 #[realV 0 0] W fun r w' => r = .returned (.tuple #[.int .i64 b, .bool true]) ∧ Below W.heap.size W w')) (HSz : Hid (∀ W : World, Calls Tryz.prog 20 #[realV zm ze] W fun r w' => r = .returned (.tuple #[.int .i64 c, .bool true]) ∧ Below W.heap.size W w')) (HAdd : Hid (∀ W : World, Calls Tryz.prog 11 #[realV 0 0, realV 0 0] W fun r w' => r = .returned (rE sm se 0) ∧ Below W.heap.size W w')) (HSub : Hid (∀ W : World, Calls Tryz.prog 15 #[realV 0 0, realV 0 0] W fun r w' => r = .returned (rE dm de 0) ∧ Below W.heap.size W w')) (HSan : Hid (∀ W, Below w.heap.size w W → Calls Tryz.prog 19 #[] W fun r W' => r = .returned (.bool true) ∧ Below W.heap.size W W')) (HSs : Hid (∀ W : World, Calls Tryz.prog 20 #[realV sm se] W fun r w' => r = .returned (.tuple #[.int .i64 u, .bool false]) ∧ Below W.heap.size W w')) (HSd : Hid (∀ W : World, Calls Tryz.prog 20 #[realV dm de] W fun r w' => r = .returned (.tuple #[.int .i64 v, .bool false]) ∧ Below W.heap.size W w')) (s1 : ¬ -60 ≤ se) (t1 : ¬ -60 ≤ de)  :
    Calls Tryz.prog 4 #[.int .i64 i, .int .i64 j, .int .i64 k] w fun r w' => r = .returned (.bool true) ∧ Below w.heap.size w w' := by
  go_enter Tryz.func4, Tryz.ntmps4
  go_wp2_with fail
  refine (HAx.out _).mono ?_
  rintro e w1 ⟨rfl, hb1⟩
  have HB_1 := Lib.hid ((by repeat (first | exact Below.refl _ _ | refine Below.alloc ?_ (by first | omega | (simp <;> omega)) _) : Below w.heap.size w _).trans (hb1.mono (by first | omega | (simp <;> omega))))
  have nz_1 : w.heap.size ≤ w1.heap.size := HB_1.out.size
  clear hb1
  go_wp2_with fail
  refine (HAy.out _).mono ?_
  rintro e w2 ⟨rfl, hb2⟩
  have x0_2 : w2.cell? ⟨w1.heap.size, 0, none⟩ = some (.int .i64 0) := carry hb2 (by go_simp)
  have x1_2 : w2.cell? ⟨w1.heap.size, 1, none⟩ = some (.int .i64 0) := carry hb2 (by go_simp)
  have xz_2 : w1.heap.size < w2.heap.size := by have := hb2.size; first | omega | (simp at this; omega)
  have HB_2 := Lib.hid ((by repeat (first | exact HB_1.out | refine Below.alloc ?_ (by first | omega | (simp <;> omega)) _) : Below w.heap.size w _).trans (hb2.mono (by first | omega | (simp <;> omega))))
  have nz_2 : w.heap.size ≤ w2.heap.size := HB_2.out.size
  clear hb2 HB_1
  go_wp2_with fail
  refine (HAz.out _).mono ?_
  rintro e w3 ⟨rfl, hb3⟩
  have x0_3 : w3.cell? ⟨w1.heap.size, 0, none⟩ = some (.int .i64 0) := carry hb3 (by go_simp)
  have x1_3 : w3.cell? ⟨w1.heap.size, 1, none⟩ = some (.int .i64 0) := carry hb3 (by go_simp)
  have xz_3 : w1.heap.size < w3.heap.size := by have := hb3.size; first | omega | (simp at this; omega)
  have y0_3 : w3.cell? ⟨w2.heap.size, 0, none⟩ = some (.int .i64 0) := carry hb3 (by go_simp)
  have y1_3 : w3.cell? ⟨w2.heap.size, 1, none⟩ = some (.int .i64 0) := carry hb3 (by go_simp)
  have yz_3 : w2.heap.size < w3.heap.size := by have := hb3.size; first | omega | (simp at this; omega)
  have HB_3 := Lib.hid ((by repeat (first | exact HB_2.out | refine Below.alloc ?_ (by first | omega | (simp <;> omega)) _) : Below w.heap.size w _).trans (hb3.mono (by first | omega | (simp <;> omega))))
  have nz_3 : w.heap.size ≤ w3.heap.size := HB_3.out.size
  clear hb3 x0_2 x1_2 HB_2
  go_wp2_with fail
  refine (HSx.out _).mono ?_
  rintro e w4 ⟨rfl, hb4⟩
  have x0_4 : w4.cell? ⟨w1.heap.size, 0, none⟩ = some (.int .i64 0) := carry hb4 (by go_simp)
  have x1_4 : w4.cell? ⟨w1.heap.size, 1, none⟩ = some (.int .i64 0) := carry hb4 (by go_simp)
  have xz_4 : w1.heap.size < w4.heap.size := by have := hb4.size; first | omega | (simp at this; omega)
  have y0_4 : w4.cell? ⟨w2.heap.size, 0, none⟩ = some (.int .i64 0) := carry hb4 (by go_simp)
  have y1_4 : w4.cell? ⟨w2.heap.size, 1, none⟩ = some (.int .i64 0) := carry hb4 (by go_simp)
  have yz_4 : w2.heap.size < w4.heap.size := by have := hb4.size; first | omega | (simp at this; omega)
  have z0_4 : w4.cell? ⟨w3.heap.size, 0, none⟩ = some (.int .i64 zm) := carry hb4 (by go_simp)
  have z1_4 : w4.cell? ⟨w3.heap.size, 1, none⟩ = some (.int .i64 ze) := carry hb4 (by go_simp)
  have zz_4 : w3.heap.size < w4.heap.size := by have := hb4.size; first | omega | (simp at this; omega)
  have HB_4 := Lib.hid ((by repeat (first | exact HB_3.out | refine Below.alloc ?_ (by first | omega | (simp <;> omega)) _) : Below w.heap.size w _).trans (hb4.mono (by first | omega | (simp <;> omega))))
  have nz_4 : w.heap.size ≤ w4.heap.size := HB_4.out.size
  clear hb4 x0_3 x1_3 y0_3 y1_3 HB_3
  go_wp2_with fail
  refine (HSy.out _).mono ?_
  rintro e w5 ⟨rfl, hb5⟩
  have x0_5 : w5.cell? ⟨w1.heap.size, 0, none⟩ = some (.int .i64 0) := carry hb5 (by go_simp)
  have x1_5 : w5.cell? ⟨w1.heap.size, 1, none⟩ = some (.int .i64 0) := carry hb5 (by go_simp)
  have xz_5 : w1.heap.size < w5.heap.size := by have := hb5.size; first | omega | (simp at this; omega)
  have y0_5 : w5.cell? ⟨w2.heap.size, 0, none⟩ = some (.int .i64 0) := carry hb5 (by go_simp)
  have y1_5 : w5.cell? ⟨w2.heap.size, 1, none⟩ = some (.int .i64 0) := carry hb5 (by go_simp)
  have yz_5 : w2.heap.size < w5.heap.size := by have := hb5.size; first | omega | (simp at this; omega)
  have z0_5 : w5.cell? ⟨w3.heap.size, 0, none⟩ = some (.int .i64 zm) := carry hb5 (by go_simp)
  have z1_5 : w5.cell? ⟨w3.heap.size, 1, none⟩ = some (.int .i64 ze) := carry hb5 (by go_simp)
  have zz_5 : w3.heap.size < w5.heap.size := by have := hb5.size; first | omega | (simp at this; omega)
  have HB_5 := Lib.hid ((by repeat (first | exact HB_4.out | refine Below.alloc ?_ (by first | omega | (simp <;> omega)) _) : Below w.heap.size w _).trans (hb5.mono (by first | omega | (simp <;> omega))))
  have nz_5 : w.heap.size ≤ w5.heap.size := HB_5.out.size
  clear hb5 x0_4 x1_4 y0_4 y1_4 z0_4 z1_4 HB_4
  go_wp2_with fail
  refine (HSz.out _).mono ?_
  rintro e w6 ⟨rfl, hb6⟩
  have x0_6 : w6.cell? ⟨w1.heap.size, 0, none⟩ = some (.int .i64 0) := carry hb6 (by go_simp)
  have x1_6 : w6.cell? ⟨w1.heap.size, 1, none⟩ = some (.int .i64 0) := carry hb6 (by go_simp)
  have xz_6 : w1.heap.size < w6.heap.size := by have := hb6.size; first | omega | (simp at this; omega)
  have y0_6 : w6.cell? ⟨w2.heap.size, 0, none⟩ = some (.int .i64 0) := carry hb6 (by go_simp)
  have y1_6 : w6.cell? ⟨w2.heap.size, 1, none⟩ = some (.int .i64 0) := carry hb6 (by go_simp)
  have yz_6 : w2.heap.size < w6.heap.size := by have := hb6.size; first | omega | (simp at this; omega)
  have z0_6 : w6.cell? ⟨w3.heap.size, 0, none⟩ = some (.int .i64 zm) := carry hb6 (by go_simp)
  have z1_6 : w6.cell? ⟨w3.heap.size, 1, none⟩ = some (.int .i64 ze) := carry hb6 (by go_simp)
  have zz_6 : w3.heap.size < w6.heap.size := by have := hb6.size; first | omega | (simp at this; omega)
  have HB_6 := Lib.hid ((by repeat (first | exact HB_5.out | refine Below.alloc ?_ (by first | omega | (simp <;> omega)) _) : Below w.heap.size w _).trans (hb6.mono (by first | omega | (simp <;> omega))))
  have nz_6 : w.heap.size ≤ w6.heap.size := HB_6.out.size
  clear hb6 x0_5 x1_5 y0_5 y1_5 z0_5 z1_5 HB_5
  go_wp2_with fail
  refine (HAdd.out _).mono ?_
  rintro e w7 ⟨rfl, hb7⟩
  have x0_7 : w7.cell? ⟨w1.heap.size, 0, none⟩ = some (.int .i64 0) := carry hb7 (by go_simp)
  have x1_7 : w7.cell? ⟨w1.heap.size, 1, none⟩ = some (.int .i64 0) := carry hb7 (by go_simp)
  have xz_7 : w1.heap.size < w7.heap.size := by have := hb7.size; first | omega | (simp at this; omega)
  have y0_7 : w7.cell? ⟨w2.heap.size, 0, none⟩ = some (.int .i64 0) := carry hb7 (by go_simp)
  have y1_7 : w7.cell? ⟨w2.heap.size, 1, none⟩ = some (.int .i64 0) := carry hb7 (by go_simp)
  have yz_7 : w2.heap.size < w7.heap.size := by have := hb7.size; first | omega | (simp at this; omega)
  have z0_7 : w7.cell? ⟨w3.heap.size, 0, none⟩ = some (.int .i64 zm) := carry hb7 (by go_simp)
  have z1_7 : w7.cell? ⟨w3.heap.size, 1, none⟩ = some (.int .i64 ze) := carry hb7 (by go_simp)
  have zz_7 : w3.heap.size < w7.heap.size := by have := hb7.size; first | omega | (simp at this; omega)
  have HB_7 := Lib.hid ((by repeat (first | exact HB_6.out | refine Below.alloc ?_ (by first | omega | (simp <;> omega)) _) : Below w.heap.size w _).trans (hb7.mono (by first | omega | (simp <;> omega))))
  have nz_7 : w.heap.size ≤ w7.heap.size := HB_7.out.size
  clear hb7 x0_6 x1_6 y0_6 y1_6 z0_6 z1_6 HB_6
  go_wp2_with fail
  refine (HSub.out _).mono ?_
  rintro e w8 ⟨rfl, hb8⟩
  have x0_8 : w8.cell? ⟨w1.heap.size, 0, none⟩ = some (.int .i64 0) := carry hb8 (by go_simp)
  have x1_8 : w8.cell? ⟨w1.heap.size, 1, none⟩ = some (.int .i64 0) := carry hb8 (by go_simp)
  have xz_8 : w1.heap.size < w8.heap.size := by have := hb8.size; first | omega | (simp at this; omega)
  have y0_8 : w8.cell? ⟨w2.heap.size, 0, none⟩ = some (.int .i64 0) := carry hb8 (by go_simp)
  have y1_8 : w8.cell? ⟨w2.heap.size, 1, none⟩ = some (.int .i64 0) := carry hb8 (by go_simp)
  have yz_8 : w2.heap.size < w8.heap.size := by have := hb8.size; first | omega | (simp at this; omega)
  have z0_8 : w8.cell? ⟨w3.heap.size, 0, none⟩ = some (.int .i64 zm) := carry hb8 (by go_simp)
  have z1_8 : w8.cell? ⟨w3.heap.size, 1, none⟩ = some (.int .i64 ze) := carry hb8 (by go_simp)
  have zz_8 : w3.heap.size < w8.heap.size := by have := hb8.size; first | omega | (simp at this; omega)
  have s0_8 : w8.cell? ⟨w7.heap.size, 0, none⟩ = some (.int .i64 sm) := carry hb8 (by go_simp)
  have s1_8 : w8.cell? ⟨w7.heap.size, 1, none⟩ = some (.int .i64 se) := carry hb8 (by go_simp)
  have sz_8 : w7.heap.size < w8.heap.size := by have := hb8.size; first | omega | (simp at this; omega)
  have HB_8 := Lib.hid ((by repeat (first | exact HB_7.out | refine Below.alloc ?_ (by first | omega | (simp <;> omega)) _) : Below w.heap.size w _).trans (hb8.mono (by first | omega | (simp <;> omega))))
  have nz_8 : w.heap.size ≤ w8.heap.size := HB_8.out.size
  clear hb8 x0_7 x1_7 y0_7 y1_7 z0_7 z1_7 HB_7
  go_wp2_with fail
  refine (HSs.out _).mono ?_
  rintro e w9 ⟨rfl, hb9⟩
  have s0_9 : w9.cell? ⟨w7.heap.size, 0, none⟩ = some (.int .i64 sm) := carry hb9 (by go_simp)
  have s1_9 : w9.cell? ⟨w7.heap.size, 1, none⟩ = some (.int .i64 se) := carry hb9 (by go_simp)
  have sz_9 : w7.heap.size < w9.heap.size := by have := hb9.size; first | omega | (simp at this; omega)
  have d0_9 : w9.cell? ⟨w8.heap.size, 0, none⟩ = some (.int .i64 dm) := carry hb9 (by go_simp)
  have d1_9 : w9.cell? ⟨w8.heap.size, 1, none⟩ = some (.int .i64 de) := carry hb9 (by go_simp)
  have dz_9 : w8.heap.size < w9.heap.size := by have := hb9.size; first | omega | (simp at this; omega)
  have HB_9 := Lib.hid ((by repeat (first | exact HB_8.out | refine Below.alloc ?_ (by first | omega | (simp <;> omega)) _) : Below w.heap.size w _).trans (hb9.mono (by first | omega | (simp <;> omega))))
  have nz_9 : w.heap.size ≤ w9.heap.size := HB_9.out.size
  clear hb9 x0_8 x1_8 y0_8 y1_8 z0_8 z1_8 s0_8 s1_8 HB_8
  go_wp2_with fail
  refine (HSd.out _).mono ?_
  rintro e w10 ⟨rfl, hb10⟩
  have s0_10 : w10.cell? ⟨w7.heap.size, 0, none⟩ = some (.int .i64 sm) := carry hb10 (by go_simp)
  have s1_10 : w10.cell? ⟨w7.heap.size, 1, none⟩ = some (.int .i64 se) := carry hb10 (by go_simp)
  have sz_10 : w7.heap.size < w10.heap.size := by have := hb10.size; first | omega | (simp at this; omega)
  have d0_10 : w10.cell? ⟨w8.heap.size, 0, none⟩ = some (.int .i64 dm) := carry hb10 (by go_simp)
  have d1_10 : w10.cell? ⟨w8.heap.size, 1, none⟩ = some (.int .i64 de) := carry hb10 (by go_simp)
  have dz_10 : w8.heap.size < w10.heap.size := by have := hb10.size; first | omega | (simp at this; omega)
  have HB_10 := Lib.hid ((by repeat (first | exact HB_9.out | refine Below.alloc ?_ (by first | omega | (simp <;> omega)) _) : Below w.heap.size w _).trans (hb10.mono (by first | omega | (simp <;> omega))))
  have nz_10 : w.heap.size ≤ w10.heap.size := HB_10.out.size
  clear hb10 s0_9 s1_9 d0_9 d1_9 HB_9
  go_wp2_with fail
  refine (HSan.out _ (by repeat (first | exact HB_10.out | refine Below.alloc ?_ (by first | omega | (simp <;> omega)) _))).mono ?_
  rintro e w11 ⟨rfl, hb11⟩
  have s0_11 : w11.cell? ⟨w7.heap.size, 0, none⟩ = some (.int .i64 sm) := carry hb11 (by go_simp)
  have s1_11 : w11.cell? ⟨w7.heap.size, 1, none⟩ = some (.int .i64 se) := carry hb11 (by go_simp)
  have sz_11 : w7.heap.size < w11.heap.size := by have := hb11.size; first | omega | (simp at this; omega)
  have d0_11 : w11.cell? ⟨w8.heap.size, 0, none⟩ = some (.int .i64 dm) := carry hb11 (by go_simp)
  have d1_11 : w11.cell? ⟨w8.heap.size, 1, none⟩ = some (.int .i64 de) := carry hb11 (by go_simp)
  have dz_11 : w8.heap.size < w11.heap.size := by have := hb11.size; first | omega | (simp at this; omega)
  have HB_11 := Lib.hid ((by repeat (first | exact HB_10.out | refine Below.alloc ?_ (by first | omega | (simp <;> omega)) _) : Below w.heap.size w _).trans (hb11.mono (by first | omega | (simp <;> omega))))
  have nz_11 : w.heap.size ≤ w11.heap.size := HB_11.out.size
  clear hb11 s0_10 s1_10 d0_10 d1_10 HB_10
  go_wp2_with fail
  go_ret
  exact ⟨rfl, by repeat (first | exact HB_11.out | refine Below.alloc ?_ (by first | omega | (simp <;> omega)) _)⟩

set_option maxRecDepth 100000 in
set_option maxHeartbeats 8000000 in
theorem m_zz_ft (i j k xm xe ym ye zm ze a b c sm se dm de u v : Int) (w : World) (HAx : Hid (∀ W : World, Calls Tryz.prog 8 #[.int .i64 i] W fun r w' => r = .returned (realV 0 0) ∧ Below W.heap.size W w')) (HAy : Hid (∀ W : World, Calls Tryz.prog 8 #[.int .i64 j] W fun r w' => r = .returned (realV 0 0) ∧ Below W.heap.size W w')) (HAz : Hid (∀ W : World, Calls Tryz.prog 8 #[.int .i64 k] W fun r w' => r = .returned (realV zm ze) ∧ Below W.heap.size W w')) (HSx : Hid (∀ W : World, Calls Tryz.prog 20 #[realV 0 0] W fun r w' => r = .returned (.tuple #[.int .i64 a, .bool true]) ∧ Below W.heap.size W w')) (HSy : Hid (∀ W : World, Calls Tryz.prog 20 #[realV 0 0] W fun r w' => r = .returned (.tuple #[.int .i64 b, .bool true]) ∧ Below W.heap.size W w')) (HSz : Hid (∀ W : World, Calls Tryz.prog 20 #[realV zm ze] W fun r w' => r = .returned (.tuple #[.int .i64 c, .bool true]) ∧ Below W.heap.size W w')) (HAdd : Hid (∀ W : World, Calls Tryz.prog 11 #[realV 0 0, realV 0 0] W fun r w' => r = .returned (rE sm se 0) ∧ Below W.heap.size W w')) (HSub : Hid (∀ W : World, Calls Tryz.prog 15 #[realV 0 0, realV 0 0] W fun r w' => r = .returned (rE dm de 0) ∧ Below W.heap.size W w')) (HSan : Hid (∀ W, Below w.heap.size w W → Calls Tryz.prog 19 #[] W fun r W' => r = .returned (.bool true) ∧ Below W.heap.size W W')) (HSs : Hid (∀ W : World, Calls Tryz.prog 20 #[realV sm se] W fun r w' => r = .returned (.tuple #[.int .i64 u, .bool false]) ∧ Below W.heap.size W w')) (HSd : Hid (∀ W : World, Calls Tryz.prog 20 #[realV dm de] W fun r w' => r = .returned (.tuple #[.int .i64 v, .bool true]) ∧ Below W.heap.size W w')) (s1 : ¬ -60 ≤ se)  :
    Calls Tryz.prog 4 #[.int .i64 i, .int .i64 j, .int .i64 k] w fun r w' => r = .returned (.bool true) ∧ Below w.heap.size w w' := by
  go_enter Tryz.func4, Tryz.ntmps4
  go_wp2_with fail
  refine (HAx.out _).mono ?_
  rintro e w1 ⟨rfl, hb1⟩
  have HB_1 := Lib.hid ((by repeat (first | exact Below.refl _ _ | refine Below.alloc ?_ (by first | omega | (simp <;> omega)) _) : Below w.heap.size w _).trans (hb1.mono (by first | omega | (simp <;> omega))))
  have nz_1 : w.heap.size ≤ w1.heap.size := HB_1.out.size
  clear hb1
  go_wp2_with fail
  refine (HAy.out _).mono ?_
  rintro e w2 ⟨rfl, hb2⟩
  have x0_2 : w2.cell? ⟨w1.heap.size, 0, none⟩ = some (.int .i64 0) := carry hb2 (by go_simp)
  have x1_2 : w2.cell? ⟨w1.heap.size, 1, none⟩ = some (.int .i64 0) := carry hb2 (by go_simp)
  have xz_2 : w1.heap.size < w2.heap.size := by have := hb2.size; first | omega | (simp at this; omega)
  have HB_2 := Lib.hid ((by repeat (first | exact HB_1.out | refine Below.alloc ?_ (by first | omega | (simp <;> omega)) _) : Below w.heap.size w _).trans (hb2.mono (by first | omega | (simp <;> omega))))
  have nz_2 : w.heap.size ≤ w2.heap.size := HB_2.out.size
  clear hb2 HB_1
  go_wp2_with fail
  refine (HAz.out _).mono ?_
  rintro e w3 ⟨rfl, hb3⟩
  have x0_3 : w3.cell? ⟨w1.heap.size, 0, none⟩ = some (.int .i64 0) := carry hb3 (by go_simp)
  have x1_3 : w3.cell? ⟨w1.heap.size, 1, none⟩ = some (.int .i64 0) := carry hb3 (by go_simp)
  have xz_3 : w1.heap.size < w3.heap.size := by have := hb3.size; first | omega | (simp at this; omega)
  have y0_3 : w3.cell? ⟨w2.heap.size, 0, none⟩ = some (.int .i64 0) := carry hb3 (by go_simp)
  have y1_3 : w3.cell? ⟨w2.heap.size, 1, none⟩ = some (.int .i64 0) := carry hb3 (by go_simp)
  have yz_3 : w2.heap.size < w3.heap.size := by have := hb3.size; first | omega | (simp at this; omega)
  have HB_3 := Lib.hid ((by repeat (first | exact HB_2.out | refine Below.alloc ?_ (by first | omega | (simp <;> omega)) _) : Below w.heap.size w _).trans (hb3.mono (by first | omega | (simp <;> omega))))
  have nz_3 : w.heap.size ≤ w3.heap.size := HB_3.out.size
  clear hb3 x0_2 x1_2 HB_2
  go_wp2_with fail
  refine (HSx.out _).mono ?_
  rintro e w4 ⟨rfl, hb4⟩
  have x0_4 : w4.cell? ⟨w1.heap.size, 0, none⟩ = some (.int .i64 0) := carry hb4 (by go_simp)
  have x1_4 : w4.cell? ⟨w1.heap.size, 1, none⟩ = some (.int .i64 0) := carry hb4 (by go_simp)
  have xz_4 : w1.heap.size < w4.heap.size := by have := hb4.size; first | omega | (simp at this; omega)
  have y0_4 : w4.cell? ⟨w2.heap.size, 0, none⟩ = some (.int .i64 0) := carry hb4 (by go_simp)
  have y1_4 : w4.cell? ⟨w2.heap.size, 1, none⟩ = some (.int .i64 0) := carry hb4 (by go_simp)
  have yz_4 : w2.heap.size < w4.heap.size := by have := hb4.size; first | omega | (simp at this; omega)
  have z0_4 : w4.cell? ⟨w3.heap.size, 0, none⟩ = some (.int .i64 zm) := carry hb4 (by go_simp)
  have z1_4 : w4.cell? ⟨w3.heap.size, 1, none⟩ = some (.int .i64 ze) := carry hb4 (by go_simp)
  have zz_4 : w3.heap.size < w4.heap.size := by have := hb4.size; first | omega | (simp at this; omega)
  have HB_4 := Lib.hid ((by repeat (first | exact HB_3.out | refine Below.alloc ?_ (by first | omega | (simp <;> omega)) _) : Below w.heap.size w _).trans (hb4.mono (by first | omega | (simp <;> omega))))
  have nz_4 : w.heap.size ≤ w4.heap.size := HB_4.out.size
  clear hb4 x0_3 x1_3 y0_3 y1_3 HB_3
  go_wp2_with fail
  refine (HSy.out _).mono ?_
  rintro e w5 ⟨rfl, hb5⟩
  have x0_5 : w5.cell? ⟨w1.heap.size, 0, none⟩ = some (.int .i64 0) := carry hb5 (by go_simp)
  have x1_5 : w5.cell? ⟨w1.heap.size, 1, none⟩ = some (.int .i64 0) := carry hb5 (by go_simp)
  have xz_5 : w1.heap.size < w5.heap.size := by have := hb5.size; first | omega | (simp at this; omega)
  have y0_5 : w5.cell? ⟨w2.heap.size, 0, none⟩ = some (.int .i64 0) := carry hb5 (by go_simp)
  have y1_5 : w5.cell? ⟨w2.heap.size, 1, none⟩ = some (.int .i64 0) := carry hb5 (by go_simp)
  have yz_5 : w2.heap.size < w5.heap.size := by have := hb5.size; first | omega | (simp at this; omega)
  have z0_5 : w5.cell? ⟨w3.heap.size, 0, none⟩ = some (.int .i64 zm) := carry hb5 (by go_simp)
  have z1_5 : w5.cell? ⟨w3.heap.size, 1, none⟩ = some (.int .i64 ze) := carry hb5 (by go_simp)
  have zz_5 : w3.heap.size < w5.heap.size := by have := hb5.size; first | omega | (simp at this; omega)
  have HB_5 := Lib.hid ((by repeat (first | exact HB_4.out | refine Below.alloc ?_ (by first | omega | (simp <;> omega)) _) : Below w.heap.size w _).trans (hb5.mono (by first | omega | (simp <;> omega))))
  have nz_5 : w.heap.size ≤ w5.heap.size := HB_5.out.size
  clear hb5 x0_4 x1_4 y0_4 y1_4 z0_4 z1_4 HB_4
  go_wp2_with fail
  refine (HSz.out _).mono ?_
  rintro e w6 ⟨rfl, hb6⟩
  have x0_6 : w6.cell? ⟨w1.heap.size, 0, none⟩ = some (.int .i64 0) := carry hb6 (by go_simp)
  have x1_6 : w6.cell? ⟨w1.heap.size, 1, none⟩ = some (.int .i64 0) := carry hb6 (by go_simp)
  have xz_6 : w1.heap.size < w6.heap.size := by have := hb6.size; first | omega | (simp at this; omega)
  have y0_6 : w6.cell? ⟨w2.heap.size, 0, none⟩ = some (.int .i64 0) := carry hb6 (by go_simp)
  have y1_6 : w6.cell? ⟨w2.heap.size, 1, none⟩ = some (.int .i64 0) := carry hb6 (by go_simp)
  have yz_6 : w2.heap.size < w6.heap.size := by have := hb6.size; first | omega | (simp at this; omega)
  have z0_6 : w6.cell? ⟨w3.heap.size, 0, none⟩ = some (.int .i64 zm) := carry hb6 (by go_simp)
  have z1_6 : w6.cell? ⟨w3.heap.size, 1, none⟩ = some (.int .i64 ze) := carry hb6 (by go_simp)
  have zz_6 : w3.heap.size < w6.heap.size := by have := hb6.size; first | omega | (simp at this; omega)
  have HB_6 := Lib.hid ((by repeat (first | exact HB_5.out | refine Below.alloc ?_ (by first | omega | (simp <;> omega)) _) : Below w.heap.size w _).trans (hb6.mono (by first | omega | (simp <;> omega))))
  have nz_6 : w.heap.size ≤ w6.heap.size := HB_6.out.size
  clear hb6 x0_5 x1_5 y0_5 y1_5 z0_5 z1_5 HB_5
  go_wp2_with fail
  refine (HAdd.out _).mono ?_
  rintro e w7 ⟨rfl, hb7⟩
  have x0_7 : w7.cell? ⟨w1.heap.size, 0, none⟩ = some (.int .i64 0) := carry hb7 (by go_simp)
  have x1_7 : w7.cell? ⟨w1.heap.size, 1, none⟩ = some (.int .i64 0) := carry hb7 (by go_simp)
  have xz_7 : w1.heap.size < w7.heap.size := by have := hb7.size; first | omega | (simp at this; omega)
  have y0_7 : w7.cell? ⟨w2.heap.size, 0, none⟩ = some (.int .i64 0) := carry hb7 (by go_simp)
  have y1_7 : w7.cell? ⟨w2.heap.size, 1, none⟩ = some (.int .i64 0) := carry hb7 (by go_simp)
  have yz_7 : w2.heap.size < w7.heap.size := by have := hb7.size; first | omega | (simp at this; omega)
  have z0_7 : w7.cell? ⟨w3.heap.size, 0, none⟩ = some (.int .i64 zm) := carry hb7 (by go_simp)
  have z1_7 : w7.cell? ⟨w3.heap.size, 1, none⟩ = some (.int .i64 ze) := carry hb7 (by go_simp)
  have zz_7 : w3.heap.size < w7.heap.size := by have := hb7.size; first | omega | (simp at this; omega)
  have HB_7 := Lib.hid ((by repeat (first | exact HB_6.out | refine Below.alloc ?_ (by first | omega | (simp <;> omega)) _) : Below w.heap.size w _).trans (hb7.mono (by first | omega | (simp <;> omega))))
  have nz_7 : w.heap.size ≤ w7.heap.size := HB_7.out.size
  clear hb7 x0_6 x1_6 y0_6 y1_6 z0_6 z1_6 HB_6
  go_wp2_with fail
  refine (HSub.out _).mono ?_
  rintro e w8 ⟨rfl, hb8⟩
  have x0_8 : w8.cell? ⟨w1.heap.size, 0, none⟩ = some (.int .i64 0) := carry hb8 (by go_simp)
  have x1_8 : w8.cell? ⟨w1.heap.size, 1, none⟩ = some (.int .i64 0) := carry hb8 (by go_simp)
  have xz_8 : w1.heap.size < w8.heap.size := by have := hb8.size; first | omega | (simp at this; omega)
  have y0_8 : w8.cell? ⟨w2.heap.size, 0, none⟩ = some (.int .i64 0) := carry hb8 (by go_simp)
  have y1_8 : w8.cell? ⟨w2.heap.size, 1, none⟩ = some (.int .i64 0) := carry hb8 (by go_simp)
  have yz_8 : w2.heap.size < w8.heap.size := by have := hb8.size; first | omega | (simp at this; omega)
  have z0_8 : w8.cell? ⟨w3.heap.size, 0, none⟩ = some (.int .i64 zm) := carry hb8 (by go_simp)
  have z1_8 : w8.cell? ⟨w3.heap.size, 1, none⟩ = some (.int .i64 ze) := carry hb8 (by go_simp)
  have zz_8 : w3.heap.size < w8.heap.size := by have := hb8.size; first | omega | (simp at this; omega)
  have s0_8 : w8.cell? ⟨w7.heap.size, 0, none⟩ = some (.int .i64 sm) := carry hb8 (by go_simp)
  have s1_8 : w8.cell? ⟨w7.heap.size, 1, none⟩ = some (.int .i64 se) := carry hb8 (by go_simp)
  have sz_8 : w7.heap.size < w8.heap.size := by have := hb8.size; first | omega | (simp at this; omega)
  have HB_8 := Lib.hid ((by repeat (first | exact HB_7.out | refine Below.alloc ?_ (by first | omega | (simp <;> omega)) _) : Below w.heap.size w _).trans (hb8.mono (by first | omega | (simp <;> omega))))
  have nz_8 : w.heap.size ≤ w8.heap.size := HB_8.out.size
  clear hb8 x0_7 x1_7 y0_7 y1_7 z0_7 z1_7 HB_7
  go_wp2_with fail
  refine (HSs.out _).mono ?_
  rintro e w9 ⟨rfl, hb9⟩
  have s0_9 : w9.cell? ⟨w7.heap.size, 0, none⟩ = some (.int .i64 sm) := carry hb9 (by go_simp)
  have s1_9 : w9.cell? ⟨w7.heap.size, 1, none⟩ = some (.int .i64 se) := carry hb9 (by go_simp)
  have sz_9 : w7.heap.size < w9.heap.size := by have := hb9.size; first | omega | (simp at this; omega)
  have d0_9 : w9.cell? ⟨w8.heap.size, 0, none⟩ = some (.int .i64 dm) := carry hb9 (by go_simp)
  have d1_9 : w9.cell? ⟨w8.heap.size, 1, none⟩ = some (.int .i64 de) := carry hb9 (by go_simp)
  have dz_9 : w8.heap.size < w9.heap.size := by have := hb9.size; first | omega | (simp at this; omega)
  have HB_9 := Lib.hid ((by repeat (first | exact HB_8.out | refine Below.alloc ?_ (by first | omega | (simp <;> omega)) _) : Below w.heap.size w _).trans (hb9.mono (by first | omega | (simp <;> omega))))
  have nz_9 : w.heap.size ≤ w9.heap.size := HB_9.out.size
  clear hb9 x0_8 x1_8 y0_8 y1_8 z0_8 z1_8 s0_8 s1_8 HB_8
  go_wp2_with fail
  refine (HSd.out _).mono ?_
  rintro e w10 ⟨rfl, hb10⟩
  have s0_10 : w10.cell? ⟨w7.heap.size, 0, none⟩ = some (.int .i64 sm) := carry hb10 (by go_simp)
  have s1_10 : w10.cell? ⟨w7.heap.size, 1, none⟩ = some (.int .i64 se) := carry hb10 (by go_simp)
  have sz_10 : w7.heap.size < w10.heap.size := by have := hb10.size; first | omega | (simp at this; omega)
  have HB_10 := Lib.hid ((by repeat (first | exact HB_9.out | refine Below.alloc ?_ (by first | omega | (simp <;> omega)) _) : Below w.heap.size w _).trans (hb10.mono (by first | omega | (simp <;> omega))))
  have nz_10 : w.heap.size ≤ w10.heap.size := HB_10.out.size
  clear hb10 s0_9 s1_9 d0_9 d1_9 HB_9
  go_wp2_with fail
  refine (HSan.out _ (by repeat (first | exact HB_10.out | refine Below.alloc ?_ (by first | omega | (simp <;> omega)) _))).mono ?_
  rintro e w11 ⟨rfl, hb11⟩
  have s0_11 : w11.cell? ⟨w7.heap.size, 0, none⟩ = some (.int .i64 sm) := carry hb11 (by go_simp)
  have s1_11 : w11.cell? ⟨w7.heap.size, 1, none⟩ = some (.int .i64 se) := carry hb11 (by go_simp)
  have sz_11 : w7.heap.size < w11.heap.size := by have := hb11.size; first | omega | (simp at this; omega)
  have HB_11 := Lib.hid ((by repeat (first | exact HB_10.out | refine Below.alloc ?_ (by first | omega | (simp <;> omega)) _) : Below w.heap.size w _).trans (hb11.mono (by first | omega | (simp <;> omega))))
  have nz_11 : w.heap.size ≤ w11.heap.size := HB_11.out.size
  clear hb11 s0_10 s1_10 HB_10
  go_wp2_with fail
  go_ret
  exact ⟨rfl, by repeat (first | exact HB_11.out | refine Below.alloc ?_ (by first | omega | (simp <;> omega)) _)⟩

set_option maxRecDepth 100000 in
set_option maxHeartbeats 8000000 in
theorem m_zz_tf (i j k xm xe ym ye zm ze a b c sm se dm de u v : Int) (w : World) (HAx : Hid (∀ W : World, Calls Tryz.prog 8 #[.int .i64 i] W fun r w' => r = .returned (realV 0 0) ∧ Below W.heap.size W w')) (HAy : Hid (∀ W : World, Calls Tryz.prog 8 #[.int .i64 j] W fun r w' => r = .returned (realV 0 0) ∧ Below W.heap.size W w')) (HAz : Hid (∀ W : World, Calls Tryz.prog 8 #[.int .i64 k] W fun r w' => r = .returned (realV zm ze) ∧ Below W.heap.size W w')) (HSx : Hid (∀ W : World, Calls Tryz.prog 20 #[realV 0 0] W fun r w' => r = .returned (.tuple #[.int .i64 a, .bool true]) ∧ Below W.heap.size W w')) (HSy : Hid (∀ W : World, Calls Tryz.prog 20 #[realV 0 0] W fun r w' => r = .returned (.tuple #[.int .i64 b, .bool true]) ∧ Below W.heap.size W w')) (HSz : Hid (∀ W : World, Calls Tryz.prog 20 #[realV zm ze] W fun r w' => r = .returned (.tuple #[.int .i64 c, .bool true]) ∧ Below W.heap.size W w')) (HAdd : Hid (∀ W : World, Calls Tryz.prog 11 #[realV 0 0, realV 0 0] W fun r w' => r = .returned (rE sm se 0) ∧ Below W.heap.size W w')) (HSub : Hid (∀ W : World, Calls Tryz.prog 15 #[realV 0 0, realV 0 0] W fun r w' => r = .returned (rE dm de 0) ∧ Below W.heap.size W w')) (HSan : Hid (∀ W, Below w.heap.size w W → Calls Tryz.prog 19 #[] W fun r W' => r = .returned (.bool true) ∧ Below W.heap.size W W')) (HSs : Hid (∀ W : World, Calls Tryz.prog 20 #[realV sm se] W fun r w' => r = .returned (.tuple #[.int .i64 u, .bool true]) ∧ Below W.heap.size W w')) (HSd : Hid (∀ W : World, Calls Tryz.prog 20 #[realV dm de] W fun r w' => r = .returned (.tuple #[.int .i64 v, .bool false]) ∧ Below W.heap.size W w')) (t1 : ¬ -60 ≤ de)  :
    Calls Tryz.prog 4 #[.int .i64 i, .int .i64 j, .int .i64 k] w fun r w' => r = .returned (.bool true) ∧ Below w.heap.size w w' := by
  go_enter Tryz.func4, Tryz.ntmps4
  go_wp2_with fail
  refine (HAx.out _).mono ?_
  rintro e w1 ⟨rfl, hb1⟩
  have HB_1 := Lib.hid ((by repeat (first | exact Below.refl _ _ | refine Below.alloc ?_ (by first | omega | (simp <;> omega)) _) : Below w.heap.size w _).trans (hb1.mono (by first | omega | (simp <;> omega))))
  have nz_1 : w.heap.size ≤ w1.heap.size := HB_1.out.size
  clear hb1
  go_wp2_with fail
  refine (HAy.out _).mono ?_
  rintro e w2 ⟨rfl, hb2⟩
  have x0_2 : w2.cell? ⟨w1.heap.size, 0, none⟩ = some (.int .i64 0) := carry hb2 (by go_simp)
  have x1_2 : w2.cell? ⟨w1.heap.size, 1, none⟩ = some (.int .i64 0) := carry hb2 (by go_simp)
  have xz_2 : w1.heap.size < w2.heap.size := by have := hb2.size; first | omega | (simp at this; omega)
  have HB_2 := Lib.hid ((by repeat (first | exact HB_1.out | refine Below.alloc ?_ (by first | omega | (simp <;> omega)) _) : Below w.heap.size w _).trans (hb2.mono (by first | omega | (simp <;> omega))))
  have nz_2 : w.heap.size ≤ w2.heap.size := HB_2.out.size
  clear hb2 HB_1
  go_wp2_with fail
  refine (HAz.out _).mono ?_
  rintro e w3 ⟨rfl, hb3⟩
  have x0_3 : w3.cell? ⟨w1.heap.size, 0, none⟩ = some (.int .i64 0) := carry hb3 (by go_simp)
  have x1_3 : w3.cell? ⟨w1.heap.size, 1, none⟩ = some (.int .i64 0) := carry hb3 (by go_simp)
  have xz_3 : w1.heap.size < w3.heap.size := by have := hb3.size; first | omega | (simp at this; omega)
  have y0_3 : w3.cell? ⟨w2.heap.size, 0, none⟩ = some (.int .i64 0) := carry hb3 (by go_simp)
  have y1_3 : w3.cell? ⟨w2.heap.size, 1, none⟩ = some (.int .i64 0) := carry hb3 (by go_simp)
  have yz_3 : w2.heap.size < w3.heap.size := by have := hb3.size; first | omega | (simp at this; omega)
  have HB_3 := Lib.hid ((by repeat (first | exact HB_2.out | refine Below.alloc ?_ (by first | omega | (simp <;> omega)) _) : Below w.heap.size w _).trans (hb3.mono (by first | omega | (simp <;> omega))))
  have nz_3 : w.heap.size ≤ w3.heap.size := HB_3.out.size
  clear hb3 x0_2 x1_2 HB_2
  go_wp2_with fail
  refine (HSx.out _).mono ?_
  rintro e w4 ⟨rfl, hb4⟩
  have x0_4 : w4.cell? ⟨w1.heap.size, 0, none⟩ = some (.int .i64 0) := carry hb4 (by go_simp)
  have x1_4 : w4.cell? ⟨w1.heap.size, 1, none⟩ = some (.int .i64 0) := carry hb4 (by go_simp)
  have xz_4 : w1.heap.size < w4.heap.size := by have := hb4.size; first | omega | (simp at this; omega)
  have y0_4 : w4.cell? ⟨w2.heap.size, 0, none⟩ = some (.int .i64 0) := carry hb4 (by go_simp)
  have y1_4 : w4.cell? ⟨w2.heap.size, 1, none⟩ = some (.int .i64 0) := carry hb4 (by go_simp)
  have yz_4 : w2.heap.size < w4.heap.size := by have := hb4.size; first | omega | (simp at this; omega)
  have z0_4 : w4.cell? ⟨w3.heap.size, 0, none⟩ = some (.int .i64 zm) := carry hb4 (by go_simp)
  have z1_4 : w4.cell? ⟨w3.heap.size, 1, none⟩ = some (.int .i64 ze) := carry hb4 (by go_simp)
  have zz_4 : w3.heap.size < w4.heap.size := by have := hb4.size; first | omega | (simp at this; omega)
  have HB_4 := Lib.hid ((by repeat (first | exact HB_3.out | refine Below.alloc ?_ (by first | omega | (simp <;> omega)) _) : Below w.heap.size w _).trans (hb4.mono (by first | omega | (simp <;> omega))))
  have nz_4 : w.heap.size ≤ w4.heap.size := HB_4.out.size
  clear hb4 x0_3 x1_3 y0_3 y1_3 HB_3
  go_wp2_with fail
  refine (HSy.out _).mono ?_
  rintro e w5 ⟨rfl, hb5⟩
  have x0_5 : w5.cell? ⟨w1.heap.size, 0, none⟩ = some (.int .i64 0) := carry hb5 (by go_simp)
  have x1_5 : w5.cell? ⟨w1.heap.size, 1, none⟩ = some (.int .i64 0) := carry hb5 (by go_simp)
  have xz_5 : w1.heap.size < w5.heap.size := by have := hb5.size; first | omega | (simp at this; omega)
  have y0_5 : w5.cell? ⟨w2.heap.size, 0, none⟩ = some (.int .i64 0) := carry hb5 (by go_simp)
  have y1_5 : w5.cell? ⟨w2.heap.size, 1, none⟩ = some (.int .i64 0) := carry hb5 (by go_simp)
  have yz_5 : w2.heap.size < w5.heap.size := by have := hb5.size; first | omega | (simp at this; omega)
  have z0_5 : w5.cell? ⟨w3.heap.size, 0, none⟩ = some (.int .i64 zm) := carry hb5 (by go_simp)
  have z1_5 : w5.cell? ⟨w3.heap.size, 1, none⟩ = some (.int .i64 ze) := carry hb5 (by go_simp)
  have zz_5 : w3.heap.size < w5.heap.size := by have := hb5.size; first | omega | (simp at this; omega)
  have HB_5 := Lib.hid ((by repeat (first | exact HB_4.out | refine Below.alloc ?_ (by first | omega | (simp <;> omega)) _) : Below w.heap.size w _).trans (hb5.mono (by first | omega | (simp <;> omega))))
  have nz_5 : w.heap.size ≤ w5.heap.size := HB_5.out.size
  clear hb5 x0_4 x1_4 y0_4 y1_4 z0_4 z1_4 HB_4
  go_wp2_with fail
  refine (HSz.out _).mono ?_
  rintro e w6 ⟨rfl, hb6⟩
  have x0_6 : w6.cell? ⟨w1.heap.size, 0, none⟩ = some (.int .i64 0) := carry hb6 (by go_simp)
  have x1_6 : w6.cell? ⟨w1.heap.size, 1, none⟩ = some (.int .i64 0) := carry hb6 (by go_simp)
  have xz_6 : w1.heap.size < w6.heap.size := by have := hb6.size; first | omega | (simp at this; omega)
  have y0_6 : w6.cell? ⟨w2.heap.size, 0, none⟩ = some (.int .i64 0) := carry hb6 (by go_simp)
  have y1_6 : w6.cell? ⟨w2.heap.size, 1, none⟩ = some (.int .i64 0) := carry hb6 (by go_simp)
  have yz_6 : w2.heap.size < w6.heap.size := by have := hb6.size; first | omega | (simp at this; omega)
  have z0_6 : w6.cell? ⟨w3.heap.size, 0, none⟩ = some (.int .i64 zm) := carry hb6 (by go_simp)
  have z1_6 : w6.cell? ⟨w3.heap.size, 1, none⟩ = some (.int .i64 ze) := carry hb6 (by go_simp)
  have zz_6 : w3.heap.size < w6.heap.size := by have := hb6.size; first | omega | (simp at this; omega)
  have HB_6 := Lib.hid ((by repeat (first | exact HB_5.out | refine Below.alloc ?_ (by first | omega | (simp <;> omega)) _) : Below w.heap.size w _).trans (hb6.mono (by first | omega | (simp <;> omega))))
  have nz_6 : w.heap.size ≤ w6.heap.size := HB_6.out.size
  clear hb6 x0_5 x1_5 y0_5 y1_5 z0_5 z1_5 HB_5
  go_wp2_with fail
  refine (HAdd.out _).mono ?_
  rintro e w7 ⟨rfl, hb7⟩
  have x0_7 : w7.cell? ⟨w1.heap.size, 0, none⟩ = some (.int .i64 0) := carry hb7 (by go_simp)
  have x1_7 : w7.cell? ⟨w1.heap.size, 1, none⟩ = some (.int .i64 0) := carry hb7 (by go_simp)
  have xz_7 : w1.heap.size < w7.heap.size := by have := hb7.size; first | omega | (simp at this; omega)
  have y0_7 : w7.cell? ⟨w2.heap.size, 0, none⟩ = some (.int .i64 0) := carry hb7 (by go_simp)
  have y1_7 : w7.cell? ⟨w2.heap.size, 1, none⟩ = some (.int .i64 0) := carry hb7 (by go_simp)
  have yz_7 : w2.heap.size < w7.heap.size := by have := hb7.size; first | omega | (simp at this; omega)
  have z0_7 : w7.cell? ⟨w3.heap.size, 0, none⟩ = some (.int .i64 zm) := carry hb7 (by go_simp)
  have z1_7 : w7.cell? ⟨w3.heap.size, 1, none⟩ = some (.int .i64 ze) := carry hb7 (by go_simp)
  have zz_7 : w3.heap.size < w7.heap.size := by have := hb7.size; first | omega | (simp at this; omega)
  have HB_7 := Lib.hid ((by repeat (first | exact HB_6.out | refine Below.alloc ?_ (by first | omega | (simp <;> omega)) _) : Below w.heap.size w _).trans (hb7.mono (by first | omega | (simp <;> omega))))
  have nz_7 : w.heap.size ≤ w7.heap.size := HB_7.out.size
  clear hb7 x0_6 x1_6 y0_6 y1_6 z0_6 z1_6 HB_6
  go_wp2_with fail
  refine (HSub.out _).mono ?_
  rintro e w8 ⟨rfl, hb8⟩
  have x0_8 : w8.cell? ⟨w1.heap.size, 0, none⟩ = some (.int .i64 0) := carry hb8 (by go_simp)
  have x1_8 : w8.cell? ⟨w1.heap.size, 1, none⟩ = some (.int .i64 0) := carry hb8 (by go_simp)
  have xz_8 : w1.heap.size < w8.heap.size := by have := hb8.size; first | omega | (simp at this; omega)
  have y0_8 : w8.cell? ⟨w2.heap.size, 0, none⟩ = some (.int .i64 0) := carry hb8 (by go_simp)
  have y1_8 : w8.cell? ⟨w2.heap.size, 1, none⟩ = some (.int .i64 0) := carry hb8 (by go_simp)
  have yz_8 : w2.heap.size < w8.heap.size := by have := hb8.size; first | omega | (simp at this; omega)
  have z0_8 : w8.cell? ⟨w3.heap.size, 0, none⟩ = some (.int .i64 zm) := carry hb8 (by go_simp)
  have z1_8 : w8.cell? ⟨w3.heap.size, 1, none⟩ = some (.int .i64 ze) := carry hb8 (by go_simp)
  have zz_8 : w3.heap.size < w8.heap.size := by have := hb8.size; first | omega | (simp at this; omega)
  have s0_8 : w8.cell? ⟨w7.heap.size, 0, none⟩ = some (.int .i64 sm) := carry hb8 (by go_simp)
  have s1_8 : w8.cell? ⟨w7.heap.size, 1, none⟩ = some (.int .i64 se) := carry hb8 (by go_simp)
  have sz_8 : w7.heap.size < w8.heap.size := by have := hb8.size; first | omega | (simp at this; omega)
  have HB_8 := Lib.hid ((by repeat (first | exact HB_7.out | refine Below.alloc ?_ (by first | omega | (simp <;> omega)) _) : Below w.heap.size w _).trans (hb8.mono (by first | omega | (simp <;> omega))))
  have nz_8 : w.heap.size ≤ w8.heap.size := HB_8.out.size
  clear hb8 x0_7 x1_7 y0_7 y1_7 z0_7 z1_7 HB_7
  go_wp2_with fail
  refine (HSs.out _).mono ?_
  rintro e w9 ⟨rfl, hb9⟩
  have d0_9 : w9.cell? ⟨w8.heap.size, 0, none⟩ = some (.int .i64 dm) := carry hb9 (by go_simp)
  have d1_9 : w9.cell? ⟨w8.heap.size, 1, none⟩ = some (.int .i64 de) := carry hb9 (by go_simp)
  have dz_9 : w8.heap.size < w9.heap.size := by have := hb9.size; first | omega | (simp at this; omega)
  have HB_9 := Lib.hid ((by repeat (first | exact HB_8.out | refine Below.alloc ?_ (by first | omega | (simp <;> omega)) _) : Below w.heap.size w _).trans (hb9.mono (by first | omega | (simp <;> omega))))
  have nz_9 : w.heap.size ≤ w9.heap.size := HB_9.out.size
  clear hb9 x0_8 x1_8 y0_8 y1_8 z0_8 z1_8 s0_8 s1_8 HB_8
  go_wp2_with fail
  refine (HSd.out _).mono ?_
  rintro e w10 ⟨rfl, hb10⟩
  have d0_10 : w10.cell? ⟨w8.heap.size, 0, none⟩ = some (.int .i64 dm) := carry hb10 (by go_simp)
  have d1_10 : w10.cell? ⟨w8.heap.size, 1, none⟩ = some (.int .i64 de) := carry hb10 (by go_simp)
  have dz_10 : w8.heap.size < w10.heap.size := by have := hb10.size; first | omega | (simp at this; omega)
  have HB_10 := Lib.hid ((by repeat (first | exact HB_9.out | refine Below.alloc ?_ (by first | omega | (simp <;> omega)) _) : Below w.heap.size w _).trans (hb10.mono (by first | omega | (simp <;> omega))))
  have nz_10 : w.heap.size ≤ w10.heap.size := HB_10.out.size
  clear hb10 d0_9 d1_9 HB_9
  go_wp2_with fail
  refine (HSan.out _ (by repeat (first | exact HB_10.out | refine Below.alloc ?_ (by first | omega | (simp <;> omega)) _))).mono ?_
  rintro e w11 ⟨rfl, hb11⟩
  have d0_11 : w11.cell? ⟨w8.heap.size, 0, none⟩ = some (.int .i64 dm) := carry hb11 (by go_simp)
  have d1_11 : w11.cell? ⟨w8.heap.size, 1, none⟩ = some (.int .i64 de) := carry hb11 (by go_simp)
  have dz_11 : w8.heap.size < w11.heap.size := by have := hb11.size; first | omega | (simp at this; omega)
  have HB_11 := Lib.hid ((by repeat (first | exact HB_10.out | refine Below.alloc ?_ (by first | omega | (simp <;> omega)) _) : Below w.heap.size w _).trans (hb11.mono (by first | omega | (simp <;> omega))))
  have nz_11 : w.heap.size ≤ w11.heap.size := HB_11.out.size
  clear hb11 d0_10 d1_10 HB_10
  go_wp2_with fail
  go_ret
  exact ⟨rfl, by repeat (first | exact HB_11.out | refine Below.alloc ?_ (by first | omega | (simp <;> omega)) _)⟩

set_option maxRecDepth 100000 in
set_option maxHeartbeats 8000000 in
theorem m_zz_nn (i j k xm xe ym ye zm ze a b c sm se dm de u v p q d1 d2 d3 d4 : Int) (w : World) (HAx : Hid (∀ W : World, Calls Tryz.prog 8 #[.int .i64 i] W fun r w' => r = .returned (realV 0 0) ∧ Below W.heap.size W w')) (HAy : Hid (∀ W : World, Calls Tryz.prog 8 #[.int .i64 j] W fun r w' => r = .returned (realV 0 0) ∧ Below W.heap.size W w')) (HAz : Hid (∀ W : World, Calls Tryz.prog 8 #[.int .i64 k] W fun r w' => r = .returned (realV zm ze) ∧ Below W.heap.size W w')) (HSx : Hid (∀ W : World, Calls Tryz.prog 20 #[realV 0 0] W fun r w' => r = .returned (.tuple #[.int .i64 a, .bool true]) ∧ Below W.heap.size W w')) (HSy : Hid (∀ W : World, Calls Tryz.prog 20 #[realV 0 0] W fun r w' => r = .returned (.tuple #[.int .i64 b, .bool true]) ∧ Below W.heap.size W w')) (HSz : Hid (∀ W : World, Calls Tryz.prog 20 #[realV zm ze] W fun r w' => r = .returned (.tuple #[.int .i64 c, .bool true]) ∧ Below W.heap.size W w')) (HAdd : Hid (∀ W : World, Calls Tryz.prog 11 #[realV 0 0, realV 0 0] W fun r w' => r = .returned (rE sm se 0) ∧ Below W.heap.size W w')) (HSub : Hid (∀ W : World, Calls Tryz.prog 15 #[realV 0 0, realV 0 0] W fun r w' => r = .returned (rE dm de 0) ∧ Below W.heap.size W w')) (HSan : Hid (∀ W, Below w.heap.size w W → Calls Tryz.prog 19 #[] W fun r W' => r = .returned (.bool true) ∧ Below W.heap.size W W')) (HSs : Hid (∀ W : World, Calls Tryz.prog 20 #[realV sm se] W fun r w' => r = .returned (.tuple #[.int .i64 u, .bool true]) ∧ Below W.heap.size W w')) (HSd : Hid (∀ W : World, Calls Tryz.prog 20 #[realV dm de] W fun r w' => r = .returned (.tuple #[.int .i64 v, .bool true]) ∧ Below W.heap.size W w')) (hp : IntKind.i64.wrap (a + b) = p) (hq : IntKind.i64.wrap (a - b) = q) (l1 : d1 ≤ d2) (l2 : d3 ≤ d4) (HD1 : Hid (∀ W : World, Calls Tryz.prog 21 #[.int .i64 u, .int .i64 p] W fun r w' => r = .returned (.int .i64 d1) ∧ Below W.heap.size W w')) (HD2 : Hid (∀ W : World, Calls Tryz.prog 21 #[.int .i64 c, .int .i64 p] W fun r w' => r = .returned (.int .i64 d2) ∧ Below W.heap.size W w')) (HD3 : Hid (∀ W : World, Calls Tryz.prog 21 #[.int .i64 v, .int .i64 q] W fun r w' => r = .returned (.int .i64 d3) ∧ Below W.heap.size W w')) (HD4 : Hid (∀ W : World, Calls Tryz.prog 21 #[.int .i64 c, .int .i64 q] W fun r w' => r = .returned (.int .i64 d4) ∧ Below W.heap.size W w')) (k1 : (c != p) = true) (k2 : (c != q) = true)  :
    Calls Tryz.prog 4 #[.int .i64 i, .int .i64 j, .int .i64 k] w fun r w' => r = .returned (.bool true) ∧ Below w.heap.size w w' := by
  go_enter Tryz.func4, Tryz.ntmps4
  go_wp2_with fail
  refine (HAx.out _).mono ?_
  rintro e w1 ⟨rfl, hb1⟩
  have HB_1 := Lib.hid ((by repeat (first | exact Below.refl _ _ | refine Below.alloc ?_ (by first | omega | (simp <;> omega)) _) : Below w.heap.size w _).trans (hb1.mono (by first | omega | (simp <;> omega))))
  have nz_1 : w.heap.size ≤ w1.heap.size := HB_1.out.size
  clear hb1
  go_wp2_with fail
  refine (HAy.out _).mono ?_
  rintro e w2 ⟨rfl, hb2⟩
  have x0_2 : w2.cell? ⟨w1.heap.size, 0, none⟩ = some (.int .i64 0) := carry hb2 (by go_simp)
  have x1_2 : w2.cell? ⟨w1.heap.size, 1, none⟩ = some (.int .i64 0) := carry hb2 (by go_simp)
  have xz_2 : w1.heap.size < w2.heap.size := by have := hb2.size; first | omega | (simp at this; omega)
  have HB_2 := Lib.hid ((by repeat (first | exact HB_1.out | refine Below.alloc ?_ (by first | omega | (simp <;> omega)) _) : Below w.heap.size w _).trans (hb2.mono (by first | omega | (simp <;> omega))))
  have nz_2 : w.heap.size ≤ w2.heap.size := HB_2.out.size
  clear hb2 HB_1
  go_wp2_with fail
  refine (HAz.out _).mono ?_
  rintro e w3 ⟨rfl, hb3⟩
  have x0_3 : w3.cell? ⟨w1.heap.size, 0, none⟩ = some (.int .i64 0) := carry hb3 (by go_simp)
  have x1_3 : w3.cell? ⟨w1.heap.size, 1, none⟩ = some (.int .i64 0) := carry hb3 (by go_simp)
  have xz_3 : w1.heap.size < w3.heap.size := by have := hb3.size; first | omega | (simp at this; omega)
  have y0_3 : w3.cell? ⟨w2.heap.size, 0, none⟩ = some (.int .i64 0) := carry hb3 (by go_simp)
  have y1_3 : w3.cell? ⟨w2.heap.size, 1, none⟩ = some (.int .i64 0) := carry hb3 (by go_simp)
  have yz_3 : w2.heap.size < w3.heap.size := by have := hb3.size; first | omega | (simp at this; omega)
  have HB_3 := Lib.hid ((by repeat (first | exact HB_2.out | refine Below.alloc ?_ (by first | omega | (simp <;> omega)) _) : Below w.heap.size w _).trans (hb3.mono (by first | omega | (simp <;> omega))))
  have nz_3 : w.heap.size ≤ w3.heap.size := HB_3.out.size
  clear hb3 x0_2 x1_2 HB_2
  go_wp2_with fail
  refine (HSx.out _).mono ?_
  rintro e w4 ⟨rfl, hb4⟩
  have x0_4 : w4.cell? ⟨w1.heap.size, 0, none⟩ = some (.int .i64 0) := carry hb4 (by go_simp)
  have x1_4 : w4.cell? ⟨w1.heap.size, 1, none⟩ = some (.int .i64 0) := carry hb4 (by go_simp)
  have xz_4 : w1.heap.size < w4.heap.size := by have := hb4.size; first | omega | (simp at this; omega)
  have y0_4 : w4.cell? ⟨w2.heap.size, 0, none⟩ = some (.int .i64 0) := carry hb4 (by go_simp)
  have y1_4 : w4.cell? ⟨w2.heap.size, 1, none⟩ = some (.int .i64 0) := carry hb4 (by go_simp)
  have yz_4 : w2.heap.size < w4.heap.size := by have := hb4.size; first | omega | (simp at this; omega)
  have z0_4 : w4.cell? ⟨w3.heap.size, 0, none⟩ = some (.int .i64 zm) := carry hb4 (by go_simp)
  have z1_4 : w4.cell? ⟨w3.heap.size, 1, none⟩ = some (.int .i64 ze) := carry hb4 (by go_simp)
  have zz_4 : w3.heap.size < w4.heap.size := by have := hb4.size; first | omega | (simp at this; omega)
  have HB_4 := Lib.hid ((by repeat (first | exact HB_3.out | refine Below.alloc ?_ (by first | omega | (simp <;> omega)) _) : Below w.heap.size w _).trans (hb4.mono (by first | omega | (simp <;> omega))))
  have nz_4 : w.heap.size ≤ w4.heap.size := HB_4.out.size
  clear hb4 x0_3 x1_3 y0_3 y1_3 HB_3
  go_wp2_with fail
  refine (HSy.out _).mono ?_
  rintro e w5 ⟨rfl, hb5⟩
  have x0_5 : w5.cell? ⟨w1.heap.size, 0, none⟩ = some (.int .i64 0) := carry hb5 (by go_simp)
  have x1_5 : w5.cell? ⟨w1.heap.size, 1, none⟩ = some (.int .i64 0) := carry hb5 (by go_simp)
  have xz_5 : w1.heap.size < w5.heap.size := by have := hb5.size; first | omega | (simp at this; omega)
  have y0_5 : w5.cell? ⟨w2.heap.size, 0, none⟩ = some (.int .i64 0) := carry hb5 (by go_simp)
  have y1_5 : w5.cell? ⟨w2.heap.size, 1, none⟩ = some (.int .i64 0) := carry hb5 (by go_simp)
  have yz_5 : w2.heap.size < w5.heap.size := by have := hb5.size; first | omega | (simp at this; omega)
  have z0_5 : w5.cell? ⟨w3.heap.size, 0, none⟩ = some (.int .i64 zm) := carry hb5 (by go_simp)
  have z1_5 : w5.cell? ⟨w3.heap.size, 1, none⟩ = some (.int .i64 ze) := carry hb5 (by go_simp)
  have zz_5 : w3.heap.size < w5.heap.size := by have := hb5.size; first | omega | (simp at this; omega)
  have HB_5 := Lib.hid ((by repeat (first | exact HB_4.out | refine Below.alloc ?_ (by first | omega | (simp <;> omega)) _) : Below w.heap.size w _).trans (hb5.mono (by first | omega | (simp <;> omega))))
  have nz_5 : w.heap.size ≤ w5.heap.size := HB_5.out.size
  clear hb5 x0_4 x1_4 y0_4 y1_4 z0_4 z1_4 HB_4
  go_wp2_with fail
  refine (HSz.out _).mono ?_
  rintro e w6 ⟨rfl, hb6⟩
  have x0_6 : w6.cell? ⟨w1.heap.size, 0, none⟩ = some (.int .i64 0) := carry hb6 (by go_simp)
  have x1_6 : w6.cell? ⟨w1.heap.size, 1, none⟩ = some (.int .i64 0) := carry hb6 (by go_simp)
  have xz_6 : w1.heap.size < w6.heap.size := by have := hb6.size; first | omega | (simp at this; omega)
  have y0_6 : w6.cell? ⟨w2.heap.size, 0, none⟩ = some (.int .i64 0) := carry hb6 (by go_simp)
  have y1_6 : w6.cell? ⟨w2.heap.size, 1, none⟩ = some (.int .i64 0) := carry hb6 (by go_simp)
  have yz_6 : w2.heap.size < w6.heap.size := by have := hb6.size; first | omega | (simp at this; omega)
  have z0_6 : w6.cell? ⟨w3.heap.size, 0, none⟩ = some (.int .i64 zm) := carry hb6 (by go_simp)
  have z1_6 : w6.cell? ⟨w3.heap.size, 1, none⟩ = some (.int .i64 ze) := carry hb6 (by go_simp)
  have zz_6 : w3.heap.size < w6.heap.size := by have := hb6.size; first | omega | (simp at this; omega)
  have HB_6 := Lib.hid ((by repeat (first | exact HB_5.out | refine Below.alloc ?_ (by first | omega | (simp <;> omega)) _) : Below w.heap.size w _).trans (hb6.mono (by first | omega | (simp <;> omega))))
  have nz_6 : w.heap.size ≤ w6.heap.size := HB_6.out.size
  clear hb6 x0_5 x1_5 y0_5 y1_5 z0_5 z1_5 HB_5
  go_wp2_with fail
  refine (HAdd.out _).mono ?_
  rintro e w7 ⟨rfl, hb7⟩
  have x0_7 : w7.cell? ⟨w1.heap.size, 0, none⟩ = some (.int .i64 0) := carry hb7 (by go_simp)
  have x1_7 : w7.cell? ⟨w1.heap.size, 1, none⟩ = some (.int .i64 0) := carry hb7 (by go_simp)
  have xz_7 : w1.heap.size < w7.heap.size := by have := hb7.size; first | omega | (simp at this; omega)
  have y0_7 : w7.cell? ⟨w2.heap.size, 0, none⟩ = some (.int .i64 0) := carry hb7 (by go_simp)
  have y1_7 : w7.cell? ⟨w2.heap.size, 1, none⟩ = some (.int .i64 0) := carry hb7 (by go_simp)
  have yz_7 : w2.heap.size < w7.heap.size := by have := hb7.size; first | omega | (simp at this; omega)
  have z0_7 : w7.cell? ⟨w3.heap.size, 0, none⟩ = some (.int .i64 zm) := carry hb7 (by go_simp)
  have z1_7 : w7.cell? ⟨w3.heap.size, 1, none⟩ = some (.int .i64 ze) := carry hb7 (by go_simp)
  have zz_7 : w3.heap.size < w7.heap.size := by have := hb7.size; first | omega | (simp at this; omega)
  have HB_7 := Lib.hid ((by repeat (first | exact HB_6.out | refine Below.alloc ?_ (by first | omega | (simp <;> omega)) _) : Below w.heap.size w _).trans (hb7.mono (by first | omega | (simp <;> omega))))
  have nz_7 : w.heap.size ≤ w7.heap.size := HB_7.out.size
  clear hb7 x0_6 x1_6 y0_6 y1_6 z0_6 z1_6 HB_6
  go_wp2_with fail
  refine (HSub.out _).mono ?_
  rintro e w8 ⟨rfl, hb8⟩
  have x0_8 : w8.cell? ⟨w1.heap.size, 0, none⟩ = some (.int .i64 0) := carry hb8 (by go_simp)
  have x1_8 : w8.cell? ⟨w1.heap.size, 1, none⟩ = some (.int .i64 0) := carry hb8 (by go_simp)
  have xz_8 : w1.heap.size < w8.heap.size := by have := hb8.size; first | omega | (simp at this; omega)
  have y0_8 : w8.cell? ⟨w2.heap.size, 0, none⟩ = some (.int .i64 0) := carry hb8 (by go_simp)
  have y1_8 : w8.cell? ⟨w2.heap.size, 1, none⟩ = some (.int .i64 0) := carry hb8 (by go_simp)
  have yz_8 : w2.heap.size < w8.heap.size := by have := hb8.size; first | omega | (simp at this; omega)
  have z0_8 : w8.cell? ⟨w3.heap.size, 0, none⟩ = some (.int .i64 zm) := carry hb8 (by go_simp)
  have z1_8 : w8.cell? ⟨w3.heap.size, 1, none⟩ = some (.int .i64 ze) := carry hb8 (by go_simp)
  have zz_8 : w3.heap.size < w8.heap.size := by have := hb8.size; first | omega | (simp at this; omega)
  have s0_8 : w8.cell? ⟨w7.heap.size, 0, none⟩ = some (.int .i64 sm) := carry hb8 (by go_simp)
  have s1_8 : w8.cell? ⟨w7.heap.size, 1, none⟩ = some (.int .i64 se) := carry hb8 (by go_simp)
  have sz_8 : w7.heap.size < w8.heap.size := by have := hb8.size; first | omega | (simp at this; omega)
  have HB_8 := Lib.hid ((by repeat (first | exact HB_7.out | refine Below.alloc ?_ (by first | omega | (simp <;> omega)) _) : Below w.heap.size w _).trans (hb8.mono (by first | omega | (simp <;> omega))))
  have nz_8 : w.heap.size ≤ w8.heap.size := HB_8.out.size
  clear hb8 x0_7 x1_7 y0_7 y1_7 z0_7 z1_7 HB_7
  go_wp2_with fail
  refine (HSs.out _).mono ?_
  rintro e w9 ⟨rfl, hb9⟩
  have d0_9 : w9.cell? ⟨w8.heap.size, 0, none⟩ = some (.int .i64 dm) := carry hb9 (by go_simp)
  have d1_9 : w9.cell? ⟨w8.heap.size, 1, none⟩ = some (.int .i64 de) := carry hb9 (by go_simp)
  have dz_9 : w8.heap.size < w9.heap.size := by have := hb9.size; first | omega | (simp at this; omega)
  have HB_9 := Lib.hid ((by repeat (first | exact HB_8.out | refine Below.alloc ?_ (by first | omega | (simp <;> omega)) _) : Below w.heap.size w _).trans (hb9.mono (by first | omega | (simp <;> omega))))
  have nz_9 : w.heap.size ≤ w9.heap.size := HB_9.out.size
  clear hb9 x0_8 x1_8 y0_8 y1_8 z0_8 z1_8 s0_8 s1_8 HB_8
  go_wp2_with fail
  refine (HSd.out _).mono ?_
  rintro e w10 ⟨rfl, hb10⟩
  have HB_10 := Lib.hid ((by repeat (first | exact HB_9.out | refine Below.alloc ?_ (by first | omega | (simp <;> omega)) _) : Below w.heap.size w _).trans (hb10.mono (by first | omega | (simp <;> omega))))
  have nz_10 : w.heap.size ≤ w10.heap.size := HB_10.out.size
  clear hb10 d0_9 d1_9 HB_9
  go_wp2_with fail
  try rw [hp]
  refine (HD1.out _).mono ?_
  rintro e w11 ⟨rfl, hb11⟩
  have HB_11 := Lib.hid ((by repeat (first | exact HB_10.out | refine Below.alloc ?_ (by first | omega | (simp <;> omega)) _) : Below w.heap.size w _).trans (hb11.mono (by first | omega | (simp <;> omega))))
  have nz_11 : w.heap.size ≤ w11.heap.size := HB_11.out.size
  clear hb11 HB_10
  go_wp2_with fail
  try rw [hp]
  refine (HD2.out _).mono ?_
  rintro e w12 ⟨rfl, hb12⟩
  have HB_12 := Lib.hid ((by repeat (first | exact HB_11.out | refine Below.alloc ?_ (by first | omega | (simp <;> omega)) _) : Below w.heap.size w _).trans (hb12.mono (by first | omega | (simp <;> omega))))
  have nz_12 : w.heap.size ≤ w12.heap.size := HB_12.out.size
  clear hb12 HB_11
  go_wp2_with fail
  try rw [hq]
  refine (HD3.out _).mono ?_
  rintro e w13 ⟨rfl, hb13⟩
  have HB_13 := Lib.hid ((by repeat (first | exact HB_12.out | refine Below.alloc ?_ (by first | omega | (simp <;> omega)) _) : Below w.heap.size w _).trans (hb13.mono (by first | omega | (simp <;> omega))))
  have nz_13 : w.heap.size ≤ w13.heap.size := HB_13.out.size
  clear hb13 HB_12
  go_wp2_with fail
  try rw [hq]
  refine (HD4.out _).mono ?_
  rintro e w14 ⟨rfl, hb14⟩
  have HB_14 := Lib.hid ((by repeat (first | exact HB_13.out | refine Below.alloc ?_ (by first | omega | (simp <;> omega)) _) : Below w.heap.size w _).trans (hb14.mono (by first | omega | (simp <;> omega))))
  have nz_14 : w.heap.size ≤ w14.heap.size := HB_14.out.size
  clear hb14 HB_13
  go_wp2_with fail
  refine (HSan.out _ (by repeat (first | exact HB_14.out | refine Below.alloc ?_ (by first | omega | (simp <;> omega)) _))).mono ?_
  rintro e w15 ⟨rfl, hb15⟩
  have HB_15 := Lib.hid ((by repeat (first | exact HB_14.out | refine Below.alloc ?_ (by first | omega | (simp <;> omega)) _) : Below w.heap.size w _).trans (hb15.mono (by first | omega | (simp <;> omega))))
  have nz_15 : w.heap.size ≤ w15.heap.size := HB_15.out.size
  clear hb15 HB_14
  go_wp2_with fail
  go_ret
  exact ⟨rfl, by repeat (first | exact HB_15.out | refine Below.alloc ?_ (by first | omega | (simp <;> omega)) _)⟩

set_option maxRecDepth 100000 in
set_option maxHeartbeats 8000000 in
theorem m_zz_ne (i j k xm xe ym ye zm ze a b c sm se dm de u v p q d1 d2 d3 d4 : Int) (w : World) (HAx : Hid (∀ W : World, Calls Tryz.prog 8 #[.int .i64 i] W fun r w' => r = .returned (realV 0 0) ∧ Below W.heap.size W w')) (HAy : Hid (∀ W : World, Calls Tryz.prog 8 #[.int .i64 j] W fun r w' => r = .returned (realV 0 0) ∧ Below W.heap.size W w')) (HAz : Hid (∀ W : World, Calls Tryz.prog 8 #[.int .i64 k] W fun r w' => r = .returned (realV zm ze) ∧ Below W.heap.size W w')) (HSx : Hid (∀ W : World, Calls Tryz.prog 20 #[realV 0 0] W fun r w' => r = .returned (.tuple #[.int .i64 a, .bool true]) ∧ Below W.heap.size W w')) (HSy : Hid (∀ W : World, Calls Tryz.prog 20 #[realV 0 0] W fun r w' => r = .returned (.tuple #[.int .i64 b, .bool true]) ∧ Below W.heap.size W w')) (HSz : Hid (∀ W : World, Calls Tryz.prog 20 #[realV zm ze] W fun r w' => r = .returned (.tuple #[.int .i64 c, .bool true]) ∧ Below W.heap.size W w')) (HAdd : Hid (∀ W : World, Calls Tryz.prog 11 #[realV 0 0, realV 0 0] W fun r w' => r = .returned (rE sm se 0) ∧ Below W.heap.size W w')) (HSub : Hid (∀ W : World, Calls Tryz.prog 15 #[realV 0 0, realV 0 0] W fun r w' => r = .returned (rE zm ze 0) ∧ Below W.heap.size W w')) (HSan : Hid (∀ W, Below w.heap.size w W → Calls Tryz.prog 19 #[] W fun r W' => r = .returned (.bool true) ∧ Below W.heap.size W W')) (HSs : Hid (∀ W : World, Calls Tryz.prog 20 #[realV sm se] W fun r w' => r = .returned (.tuple #[.int .i64 u, .bool true]) ∧ Below W.heap.size W w')) (HSd : Hid (∀ W : World, Calls Tryz.prog 20 #[realV zm ze] W fun r w' => r = .returned (.tuple #[.int .i64 v, .bool true]) ∧ Below W.heap.size W w')) (hp : IntKind.i64.wrap (a + b) = p) (hq : IntKind.i64.wrap (a - b) = q) (l1 : d1 ≤ d2) (l2 : d3 ≤ d4) (HD1 : Hid (∀ W : World, Calls Tryz.prog 21 #[.int .i64 u, .int .i64 p] W fun r w' => r = .returned (.int .i64 d1) ∧ Below W.heap.size W w')) (HD2 : Hid (∀ W : World, Calls Tryz.prog 21 #[.int .i64 c, .int .i64 p] W fun r w' => r = .returned (.int .i64 d2) ∧ Below W.heap.size W w')) (HD3 : Hid (∀ W : World, Calls Tryz.prog 21 #[.int .i64 v, .int .i64 q] W fun r w' => r = .returned (.int .i64 d3) ∧ Below W.heap.size W w')) (HD4 : Hid (∀ W : World, Calls Tryz.prog 21 #[.int .i64 c, .int .i64 q] W fun r w' => r = .returned (.int .i64 d4) ∧ Below W.heap.size W w')) (k1 : (c != p) = true) (k2 : (c != q) = false)  :
    Calls Tryz.prog 4 #[.int .i64 i, .int .i64 j, .int .i64 k] w fun r w' => r = .returned (.bool true) ∧ Below w.heap.size w w' := by
  go_enter Tryz.func4, Tryz.ntmps4
  go_wp2_with fail
  refine (HAx.out _).mono ?_
  rintro e w1 ⟨rfl, hb1⟩
  have HB_1 := Lib.hid ((by repeat (first | exact Below.refl _ _ | refine Below.alloc ?_ (by first | omega | (simp <;> omega)) _) : Below w.heap.size w _).trans (hb1.mono (by first | omega | (simp <;> omega))))
  have nz_1 : w.heap.size ≤ w1.heap.size := HB_1.out.size
  clear hb1
  go_wp2_with fail
  refine (HAy.out _).mono ?_
  rintro e w2 ⟨rfl, hb2⟩
  have x0_2 : w2.cell? ⟨w1.heap.size, 0, none⟩ = some (.int .i64 0) := carry hb2 (by go_simp)
  have x1_2 : w2.cell? ⟨w1.heap.size, 1, none⟩ = some (.int .i64 0) := carry hb2 (by go_simp)
  have xz_2 : w1.heap.size < w2.heap.size := by have := hb2.size; first | omega | (simp at this; omega)
  have HB_2 := Lib.hid ((by repeat (first | exact HB_1.out | refine Below.alloc ?_ (by first | omega | (simp <;> omega)) _) : Below w.heap.size w _).trans (hb2.mono (by first | omega | (simp <;> omega))))
  have nz_2 : w.heap.size ≤ w2.heap.size := HB_2.out.size
  clear hb2 HB_1
  go_wp2_with fail
  refine (HAz.out _).mono ?_
  rintro e w3 ⟨rfl, hb3⟩
  have x0_3 : w3.cell? ⟨w1.heap.size, 0, none⟩ = some (.int .i64 0) := carry hb3 (by go_simp)
  have x1_3 : w3.cell? ⟨w1.heap.size, 1, none⟩ = some (.int .i64 0) := carry hb3 (by go_simp)
  have xz_3 : w1.heap.size < w3.heap.size := by have := hb3.size; first | omega | (simp at this; omega)
  have y0_3 : w3.cell? ⟨w2.heap.size, 0, none⟩ = some (.int .i64 0) := carry hb3 (by go_simp)
  have y1_3 : w3.cell? ⟨w2.heap.size, 1, none⟩ = some (.int .i64 0) := carry hb3 (by go_simp)
  have yz_3 : w2.heap.size < w3.heap.size := by have := hb3.size; first | omega | (simp at this; omega)
  have HB_3 := Lib.hid ((by repeat (first | exact HB_2.out | refine Below.alloc ?_ (by first | omega | (simp <;> omega)) _) : Below w.heap.size w _).trans (hb3.mono (by first | omega | (simp <;> omega))))
  have nz_3 : w.heap.size ≤ w3.heap.size := HB_3.out.size
  clear hb3 x0_2 x1_2 HB_2
  go_wp2_with fail
  refine (HSx.out _).mono ?_
  rintro e w4 ⟨rfl, hb4⟩
  have x0_4 : w4.cell? ⟨w1.heap.size, 0, none⟩ = some (.int .i64 0) := carry hb4 (by go_simp)
  have x1_4 : w4.cell? ⟨w1.heap.size, 1, none⟩ = some (.int .i64 0) := carry hb4 (by go_simp)
  have xz_4 : w1.heap.size < w4.heap.size := by have := hb4.size; first | omega | (simp at this; omega)
  have y0_4 : w4.cell? ⟨w2.heap.size, 0, none⟩ = some (.int .i64 0) := carry hb4 (by go_simp)
  have y1_4 : w4.cell? ⟨w2.heap.size, 1, none⟩ = some (.int .i64 0) := carry hb4 (by go_simp)
  have yz_4 : w2.heap.size < w4.heap.size := by have := hb4.size; first | omega | (simp at this; omega)
  have z0_4 : w4.cell? ⟨w3.heap.size, 0, none⟩ = some (.int .i64 zm) := carry hb4 (by go_simp)
  have z1_4 : w4.cell? ⟨w3.heap.size, 1, none⟩ = some (.int .i64 ze) := carry hb4 (by go_simp)
  have zz_4 : w3.heap.size < w4.heap.size := by have := hb4.size; first | omega | (simp at this; omega)
  have HB_4 := Lib.hid ((by repeat (first | exact HB_3.out | refine Below.alloc ?_ (by first | omega | (simp <;> omega)) _) : Below w.heap.size w _).trans (hb4.mono (by first | omega | (simp <;> omega))))
  have nz_4 : w.heap.size ≤ w4.heap.size := HB_4.out.size
  clear hb4 x0_3 x1_3 y0_3 y1_3 HB_3
  go_wp2_with fail
  refine (HSy.out _).mono ?_
  rintro e w5 ⟨rfl, hb5⟩
  have x0_5 : w5.cell? ⟨w1.heap.size, 0, none⟩ = some (.int .i64 0) := carry hb5 (by go_simp)
  have x1_5 : w5.cell? ⟨w1.heap.size, 1, none⟩ = some (.int .i64 0) := carry hb5 (by go_simp)
  have xz_5 : w1.heap.size < w5.heap.size := by have := hb5.size; first | omega | (simp at this; omega)
  have y0_5 : w5.cell? ⟨w2.heap.size, 0, none⟩ = some (.int .i64 0) := carry hb5 (by go_simp)
  have y1_5 : w5.cell? ⟨w2.heap.size, 1, none⟩ = some (.int .i64 0) := carry hb5 (by go_simp)
  have yz_5 : w2.heap.size < w5.heap.size := by have := hb5.size; first | omega | (simp at this; omega)
  have z0_5 : w5.cell? ⟨w3.heap.size, 0, none⟩ = some (.int .i64 zm) := carry hb5 (by go_simp)
  have z1_5 : w5.cell? ⟨w3.heap.size, 1, none⟩ = some (.int .i64 ze) := carry hb5 (by go_simp)
  have zz_5 : w3.heap.size < w5.heap.size := by have := hb5.size; first | omega | (simp at this; omega)
  have HB_5 := Lib.hid ((by repeat (first | exact HB_4.out | refine Below.alloc ?_ (by first | omega | (simp <;> omega)) _) : Below w.heap.size w _).trans (hb5.mono (by first | omega | (simp <;> omega))))
  have nz_5 : w.heap.size ≤ w5.heap.size := HB_5.out.size
  clear hb5 x0_4 x1_4 y0_4 y1_4 z0_4 z1_4 HB_4
  go_wp2_with fail
  refine (HSz.out _).mono ?_
  rintro e w6 ⟨rfl, hb6⟩
  have x0_6 : w6.cell? ⟨w1.heap.size, 0, none⟩ = some (.int .i64 0) := carry hb6 (by go_simp)
  have x1_6 : w6.cell? ⟨w1.heap.size, 1, none⟩ = some (.int .i64 0) := carry hb6 (by go_simp)
  have xz_6 : w1.heap.size < w6.heap.size := by have := hb6.size; first | omega | (simp at this; omega)
  have y0_6 : w6.cell? ⟨w2.heap.size, 0, none⟩ = some (.int .i64 0) := carry hb6 (by go_simp)
  have y1_6 : w6.cell? ⟨w2.heap.size, 1, none⟩ = some (.int .i64 0) := carry hb6 (by go_simp)
  have yz_6 : w2.heap.size < w6.heap.size := by have := hb6.size; first | omega | (simp at this; omega)
  have z0_6 : w6.cell? ⟨w3.heap.size, 0, none⟩ = some (.int .i64 zm) := carry hb6 (by go_simp)
  have z1_6 : w6.cell? ⟨w3.heap.size, 1, none⟩ = some (.int .i64 ze) := carry hb6 (by go_simp)
  have zz_6 : w3.heap.size < w6.heap.size := by have := hb6.size; first | omega | (simp at this; omega)
  have HB_6 := Lib.hid ((by repeat (first | exact HB_5.out | refine Below.alloc ?_ (by first | omega | (simp <;> omega)) _) : Below w.heap.size w _).trans (hb6.mono (by first | omega | (simp <;> omega))))
  have nz_6 : w.heap.size ≤ w6.heap.size := HB_6.out.size
  clear hb6 x0_5 x1_5 y0_5 y1_5 z0_5 z1_5 HB_5
  go_wp2_with fail
  refine (HAdd.out _).mono ?_
  rintro e w7 ⟨rfl, hb7⟩
  have x0_7 : w7.cell? ⟨w1.heap.size, 0, none⟩ = some (.int .i64 0) := carry hb7 (by go_simp)
  have x1_7 : w7.cell? ⟨w1.heap.size, 1, none⟩ = some (.int .i64 0) := carry hb7 (by go_simp)
  have xz_7 : w1.heap.size < w7.heap.size := by have := hb7.size; first | omega | (simp at this; omega)
  have y0_7 : w7.cell? ⟨w2.heap.size, 0, none⟩ = some (.int .i64 0) := carry hb7 (by go_simp)
  have y1_7 : w7.cell? ⟨w2.heap.size, 1, none⟩ = some (.int .i64 0) := carry hb7 (by go_simp)
  have yz_7 : w2.heap.size < w7.heap.size := by have := hb7.size; first | omega | (simp at this; omega)
  have z0_7 : w7.cell? ⟨w3.heap.size, 0, none⟩ = some (.int .i64 zm) := carry hb7 (by go_simp)
  have z1_7 : w7.cell? ⟨w3.heap.size, 1, none⟩ = some (.int .i64 ze) := carry hb7 (by go_simp)
  have zz_7 : w3.heap.size < w7.heap.size := by have := hb7.size; first | omega | (simp at this; omega)
  have HB_7 := Lib.hid ((by repeat (first | exact HB_6.out | refine Below.alloc ?_ (by first | omega | (simp <;> omega)) _) : Below w.heap.size w _).trans (hb7.mono (by first | omega | (simp <;> omega))))
  have nz_7 : w.heap.size ≤ w7.heap.size := HB_7.out.size
  clear hb7 x0_6 x1_6 y0_6 y1_6 z0_6 z1_6 HB_6
  go_wp2_with fail
  refine (HSub.out _).mono ?_
  rintro e w8 ⟨rfl, hb8⟩
  have x0_8 : w8.cell? ⟨w1.heap.size, 0, none⟩ = some (.int .i64 0) := carry hb8 (by go_simp)
  have x1_8 : w8.cell? ⟨w1.heap.size, 1, none⟩ = some (.int .i64 0) := carry hb8 (by go_simp)
  have xz_8 : w1.heap.size < w8.heap.size := by have := hb8.size; first | omega | (simp at this; omega)
  have y0_8 : w8.cell? ⟨w2.heap.size, 0, none⟩ = some (.int .i64 0) := carry hb8 (by go_simp)
  have y1_8 : w8.cell? ⟨w2.heap.size, 1, none⟩ = some (.int .i64 0) := carry hb8 (by go_simp)
  have yz_8 : w2.heap.size < w8.heap.size := by have := hb8.size; first | omega | (simp at this; omega)
  have z0_8 : w8.cell? ⟨w3.heap.size, 0, none⟩ = some (.int .i64 zm) := carry hb8 (by go_simp)
  have z1_8 : w8.cell? ⟨w3.heap.size, 1, none⟩ = some (.int .i64 ze) := carry hb8 (by go_simp)
  have zz_8 : w3.heap.size < w8.heap.size := by have := hb8.size; first | omega | (simp at this; omega)
  have s0_8 : w8.cell? ⟨w7.heap.size, 0, none⟩ = some (.int .i64 sm) := carry hb8 (by go_simp)
  have s1_8 : w8.cell? ⟨w7.heap.size, 1, none⟩ = some (.int .i64 se) := carry hb8 (by go_simp)
  have sz_8 : w7.heap.size < w8.heap.size := by have := hb8.size; first | omega | (simp at this; omega)
  have HB_8 := Lib.hid ((by repeat (first | exact HB_7.out | refine Below.alloc ?_ (by first | omega | (simp <;> omega)) _) : Below w.heap.size w _).trans (hb8.mono (by first | omega | (simp <;> omega))))
  have nz_8 : w.heap.size ≤ w8.heap.size := HB_8.out.size
  clear hb8 x0_7 x1_7 y0_7 y1_7 z0_7 z1_7 HB_7
  go_wp2_with fail
  refine (HSs.out _).mono ?_
  rintro e w9 ⟨rfl, hb9⟩
  have z0_9 : w9.cell? ⟨w3.heap.size, 0, none⟩ = some (.int .i64 zm) := carry hb9 (by go_simp)
  have z1_9 : w9.cell? ⟨w3.heap.size, 1, none⟩ = some (.int .i64 ze) := carry hb9 (by go_simp)
  have zz_9 : w3.heap.size < w9.heap.size := by have := hb9.size; first | omega | (simp at this; omega)
  have d0_9 : w9.cell? ⟨w8.heap.size, 0, none⟩ = some (.int .i64 zm) := carry hb9 (by go_simp)
  have d1_9 : w9.cell? ⟨w8.heap.size, 1, none⟩ = some (.int .i64 ze) := carry hb9 (by go_simp)
  have dz_9 : w8.heap.size < w9.heap.size := by have := hb9.size; first | omega | (simp at this; omega)
  have HB_9 := Lib.hid ((by repeat (first | exact HB_8.out | refine Below.alloc ?_ (by first | omega | (simp <;> omega)) _) : Below w.heap.size w _).trans (hb9.mono (by first | omega | (simp <;> omega))))
  have nz_9 : w.heap.size ≤ w9.heap.size := HB_9.out.size
  clear hb9 x0_8 x1_8 y0_8 y1_8 z0_8 z1_8 s0_8 s1_8 HB_8
  go_wp2_with fail
  refine (HSd.out _).mono ?_
  rintro e w10 ⟨rfl, hb10⟩
  have z0_10 : w10.cell? ⟨w3.heap.size, 0, none⟩ = some (.int .i64 zm) := carry hb10 (by go_simp)
  have z1_10 : w10.cell? ⟨w3.heap.size, 1, none⟩ = some (.int .i64 ze) := carry hb10 (by go_simp)
  have zz_10 : w3.heap.size < w10.heap.size := by have := hb10.size; first | omega | (simp at this; omega)
  have d0_10 : w10.cell? ⟨w8.heap.size, 0, none⟩ = some (.int .i64 zm) := carry hb10 (by go_simp)
  have d1_10 : w10.cell? ⟨w8.heap.size, 1, none⟩ = some (.int .i64 ze) := carry hb10 (by go_simp)
  have dz_10 : w8.heap.size < w10.heap.size := by have := hb10.size; first | omega | (simp at this; omega)
  have HB_10 := Lib.hid ((by repeat (first | exact HB_9.out | refine Below.alloc ?_ (by first | omega | (simp <;> omega)) _) : Below w.heap.size w _).trans (hb10.mono (by first | omega | (simp <;> omega))))
  have nz_10 : w.heap.size ≤ w10.heap.size := HB_10.out.size
  clear hb10 z0_9 z1_9 d0_9 d1_9 HB_9
  go_wp2_with fail
  try rw [hp]
  refine (HD1.out _).mono ?_
  rintro e w11 ⟨rfl, hb11⟩
  have z0_11 : w11.cell? ⟨w3.heap.size, 0, none⟩ = some (.int .i64 zm) := carry hb11 (by go_simp)
  have z1_11 : w11.cell? ⟨w3.heap.size, 1, none⟩ = some (.int .i64 ze) := carry hb11 (by go_simp)
  have zz_11 : w3.heap.size < w11.heap.size := by have := hb11.size; first | omega | (simp at this; omega)
  have d0_11 : w11.cell? ⟨w8.heap.size, 0, none⟩ = some (.int .i64 zm) := carry hb11 (by go_simp)
  have d1_11 : w11.cell? ⟨w8.heap.size, 1, none⟩ = some (.int .i64 ze) := carry hb11 (by go_simp)
  have dz_11 : w8.heap.size < w11.heap.size := by have := hb11.size; first | omega | (simp at this; omega)
  have HB_11 := Lib.hid ((by repeat (first | exact HB_10.out | refine Below.alloc ?_ (by first | omega | (simp <;> omega)) _) : Below w.heap.size w _).trans (hb11.mono (by first | omega | (simp <;> omega))))
  have nz_11 : w.heap.size ≤ w11.heap.size := HB_11.out.size
  clear hb11 z0_10 z1_10 d0_10 d1_10 HB_10
  go_wp2_with fail
  try rw [hp]
  refine (HD2.out _).mono ?_
  rintro e w12 ⟨rfl, hb12⟩
  have z0_12 : w12.cell? ⟨w3.heap.size, 0, none⟩ = some (.int .i64 zm) := carry hb12 (by go_simp)
  have z1_12 : w12.cell? ⟨w3.heap.size, 1, none⟩ = some (.int .i64 ze) := carry hb12 (by go_simp)
  have zz_12 : w3.heap.size < w12.heap.size := by have := hb12.size; first | omega | (simp at this; omega)
  have d0_12 : w12.cell? ⟨w8.heap.size, 0, none⟩ = some (.int .i64 zm) := carry hb12 (by go_simp)
  have d1_12 : w12.cell? ⟨w8.heap.size, 1, none⟩ = some (.int .i64 ze) := carry hb12 (by go_simp)
  have dz_12 : w8.heap.size < w12.heap.size := by have := hb12.size; first | omega | (simp at this; omega)
  have HB_12 := Lib.hid ((by repeat (first | exact HB_11.out | refine Below.alloc ?_ (by first | omega | (simp <;> omega)) _) : Below w.heap.size w _).trans (hb12.mono (by first | omega | (simp <;> omega))))
  have nz_12 : w.heap.size ≤ w12.heap.size := HB_12.out.size
  clear hb12 z0_11 z1_11 d0_11 d1_11 HB_11
  go_wp2_with fail
  try rw [hq]
  refine (HD3.out _).mono ?_
  rintro e w13 ⟨rfl, hb13⟩
  have z0_13 : w13.cell? ⟨w3.heap.size, 0, none⟩ = some (.int .i64 zm) := carry hb13 (by go_simp)
  have z1_13 : w13.cell? ⟨w3.heap.size, 1, none⟩ = some (.int .i64 ze) := carry hb13 (by go_simp)
  have zz_13 : w3.heap.size < w13.heap.size := by have := hb13.size; first | omega | (simp at this; omega)
  have d0_13 : w13.cell? ⟨w8.heap.size, 0, none⟩ = some (.int .i64 zm) := carry hb13 (by go_simp)
  have d1_13 : w13.cell? ⟨w8.heap.size, 1, none⟩ = some (.int .i64 ze) := carry hb13 (by go_simp)
  have dz_13 : w8.heap.size < w13.heap.size := by have := hb13.size; first | omega | (simp at this; omega)
  have HB_13 := Lib.hid ((by repeat (first | exact HB_12.out | refine Below.alloc ?_ (by first | omega | (simp <;> omega)) _) : Below w.heap.size w _).trans (hb13.mono (by first | omega | (simp <;> omega))))
  have nz_13 : w.heap.size ≤ w13.heap.size := HB_13.out.size
  clear hb13 z0_12 z1_12 d0_12 d1_12 HB_12
  go_wp2_with fail
  try rw [hq]
  refine (HD4.out _).mono ?_
  rintro e w14 ⟨rfl, hb14⟩
  have z0_14 : w14.cell? ⟨w3.heap.size, 0, none⟩ = some (.int .i64 zm) := carry hb14 (by go_simp)
  have z1_14 : w14.cell? ⟨w3.heap.size, 1, none⟩ = some (.int .i64 ze) := carry hb14 (by go_simp)
  have zz_14 : w3.heap.size < w14.heap.size := by have := hb14.size; first | omega | (simp at this; omega)
  have d0_14 : w14.cell? ⟨w8.heap.size, 0, none⟩ = some (.int .i64 zm) := carry hb14 (by go_simp)
  have d1_14 : w14.cell? ⟨w8.heap.size, 1, none⟩ = some (.int .i64 ze) := carry hb14 (by go_simp)
  have dz_14 : w8.heap.size < w14.heap.size := by have := hb14.size; first | omega | (simp at this; omega)
  have HB_14 := Lib.hid ((by repeat (first | exact HB_13.out | refine Below.alloc ?_ (by first | omega | (simp <;> omega)) _) : Below w.heap.size w _).trans (hb14.mono (by first | omega | (simp <;> omega))))
  have nz_14 : w.heap.size ≤ w14.heap.size := HB_14.out.size
  clear hb14 z0_13 z1_13 d0_13 d1_13 HB_13
  go_wp2_with fail
  refine (HSan.out _ (by repeat (first | exact HB_14.out | refine Below.alloc ?_ (by first | omega | (simp <;> omega)) _))).mono ?_
  rintro e w15 ⟨rfl, hb15⟩
  have z0_15 : w15.cell? ⟨w3.heap.size, 0, none⟩ = some (.int .i64 zm) := carry hb15 (by go_simp)
  have z1_15 : w15.cell? ⟨w3.heap.size, 1, none⟩ = some (.int .i64 ze) := carry hb15 (by go_simp)
  have zz_15 : w3.heap.size < w15.heap.size := by have := hb15.size; first | omega | (simp at this; omega)
  have d0_15 : w15.cell? ⟨w8.heap.size, 0, none⟩ = some (.int .i64 zm) := carry hb15 (by go_simp)
  have d1_15 : w15.cell? ⟨w8.heap.size, 1, none⟩ = some (.int .i64 ze) := carry hb15 (by go_simp)
  have dz_15 : w8.heap.size < w15.heap.size := by have := hb15.size; first | omega | (simp at this; omega)
  have HB_15 := Lib.hid ((by repeat (first | exact HB_14.out | refine Below.alloc ?_ (by first | omega | (simp <;> omega)) _) : Below w.heap.size w _).trans (hb15.mono (by first | omega | (simp <;> omega))))
  have nz_15 : w.heap.size ≤ w15.heap.size := HB_15.out.size
  clear hb15 z0_14 z1_14 d0_14 d1_14 HB_14
  go_wp2_with fail
  go_ret
  exact ⟨rfl, by repeat (first | exact HB_15.out | refine Below.alloc ?_ (by first | omega | (simp <;> omega)) _)⟩

set_option maxRecDepth 100000 in
set_option maxHeartbeats 8000000 in
theorem m_zz_en (i j k xm xe ym ye zm ze a b c sm se dm de u v p q d1 d2 d3 d4 : Int) (w : World) (HAx : Hid (∀ W : World, Calls Tryz.prog 8 #[.int .i64 i] W fun r w' => r = .returned (realV 0 0) ∧ Below W.heap.size W w')) (HAy : Hid (∀ W : World, Calls Tryz.prog 8 #[.int .i64 j] W fun r w' => r = .returned (realV 0 0) ∧ Below W.heap.size W w')) (HAz : Hid (∀ W : World, Calls Tryz.prog 8 #[.int .i64 k] W fun r w' => r = .returned (realV zm ze) ∧ Below W.heap.size W w')) (HSx : Hid (∀ W : World, Calls Tryz.prog 20 #[realV 0 0] W fun r w' => r = .returned (.tuple #[.int .i64 a, .bool true]) ∧ Below W.heap.size W w')) (HSy : Hid (∀ W : World, Calls Tryz.prog 20 #[realV 0 0] W fun r w' => r = .returned (.tuple #[.int .i64 b, .bool true]) ∧ Below W.heap.size W w')) (HSz : Hid (∀ W : World, Calls Tryz.prog 20 #[realV zm ze] W fun r w' => r = .returned (.tuple #[.int .i64 c, .bool true]) ∧ Below W.heap.size W w')) (HAdd : Hid (∀ W : World, Calls Tryz.prog 11 #[realV 0 0, realV 0 0] W fun r w' => r = .returned (rE zm ze 0) ∧ Below W.heap.size W w')) (HSub : Hid (∀ W : World, Calls Tryz.prog 15 #[realV 0 0, realV 0 0] W fun r w' => r = .returned (rE dm de 0) ∧ Below W.heap.size W w')) (HSan : Hid (∀ W, Below w.heap.size w W → Calls Tryz.prog 19 #[] W fun r W' => r = .returned (.bool true) ∧ Below W.heap.size W W')) (HSs : Hid (∀ W : World, Calls Tryz.prog 20 #[realV zm ze] W fun r w' => r = .returned (.tuple #[.int .i64 u, .bool true]) ∧ Below W.heap.size W w')) (HSd : Hid (∀ W : World, Calls Tryz.prog 20 #[realV dm de] W fun r w' => r = .returned (.tuple #[.int .i64 v, .bool true]) ∧ Below W.heap.size W w')) (hp : IntKind.i64.wrap (a + b) = p) (hq : IntKind.i64.wrap (a - b) = q) (l1 : d1 ≤ d2) (l2 : d3 ≤ d4) (HD1 : Hid (∀ W : World, Calls Tryz.prog 21 #[.int .i64 u, .int .i64 p] W fun r w' => r = .returned (.int .i64 d1) ∧ Below W.heap.size W w')) (HD2 : Hid (∀ W : World, Calls Tryz.prog 21 #[.int .i64 c, .int .i64 p] W fun r w' => r = .returned (.int .i64 d2) ∧ Below W.heap.size W w')) (HD3 : Hid (∀ W : World, Calls Tryz.prog 21 #[.int .i64 v, .int .i64 q] W fun r w' => r = .returned (.int .i64 d3) ∧ Below W.heap.size W w')) (HD4 : Hid (∀ W : World, Calls Tryz.prog 21 #[.int .i64 c, .int .i64 q] W fun r w' => r = .returned (.int .i64 d4) ∧ Below W.heap.size W w')) (k1 : (c != p) = false) (k2 : (c != q) = true)  :
    Calls Tryz.prog 4 #[.int .i64 i, .int .i64 j, .int .i64 k] w fun r w' => r = .returned (.bool true) ∧ Below w.heap.size w w' := by
  go_enter Tryz.func4, Tryz.ntmps4
  go_wp2_with fail
  refine (HAx.out _).mono ?_
  rintro e w1 ⟨rfl, hb1⟩
  have HB_1 := Lib.hid ((by repeat (first | exact Below.refl _ _ | refine Below.alloc ?_ (by first | omega | (simp <;> omega)) _) : Below w.heap.size w _).trans (hb1.mono (by first | omega | (simp <;> omega))))
  have nz_1 : w.heap.size ≤ w1.heap.size := HB_1.out.size
  clear hb1
  go_wp2_with fail
  refine (HAy.out _).mono ?_
  rintro e w2 ⟨rfl, hb2⟩
  have x0_2 : w2.cell? ⟨w1.heap.size, 0, none⟩ = some (.int .i64 0) := carry hb2 (by go_simp)
  have x1_2 : w2.cell? ⟨w1.heap.size, 1, none⟩ = some (.int .i64 0) := carry hb2 (by go_simp)
  have xz_2 : w1.heap.size < w2.heap.size := by have := hb2.size; first | omega | (simp at this; omega)
  have HB_2 := Lib.hid ((by repeat (first | exact HB_1.out | refine Below.alloc ?_ (by first | omega | (simp <;> omega)) _) : Below w.heap.size w _).trans (hb2.mono (by first | omega | (simp <;> omega))))
  have nz_2 : w.heap.size ≤ w2.heap.size := HB_2.out.size
  clear hb2 HB_1
  go_wp2_with fail
  refine (HAz.out _).mono ?_
  rintro e w3 ⟨rfl, hb3⟩
  have x0_3 : w3.cell? ⟨w1.heap.size, 0, none⟩ = some (.int .i64 0) := carry hb3 (by go_simp)
  have x1_3 : w3.cell? ⟨w1.heap.size, 1, none⟩ = some (.int .i64 0) := carry hb3 (by go_simp)
  have xz_3 : w1.heap.size < w3.heap.size := by have := hb3.size; first | omega | (simp at this; omega)
  have y0_3 : w3.cell? ⟨w2.heap.size, 0, none⟩ = some (.int .i64 0) := carry hb3 (by go_simp)
  have y1_3 : w3.cell? ⟨w2.heap.size, 1, none⟩ = some (.int .i64 0) := carry hb3 (by go_simp)
  have yz_3 : w2.heap.size < w3.heap.size := by have := hb3.size; first | omega | (simp at this; omega)
  have HB_3 := Lib.hid ((by repeat (first | exact HB_2.out | refine Below.alloc ?_ (by first | omega | (simp <;> omega)) _) : Below w.heap.size w _).trans (hb3.mono (by first | omega | (simp <;> omega))))
  have nz_3 : w.heap.size ≤ w3.heap.size := HB_3.out.size
  clear hb3 x0_2 x1_2 HB_2
  go_wp2_with fail
  refine (HSx.out _).mono ?_
  rintro e w4 ⟨rfl, hb4⟩
  have x0_4 : w4.cell? ⟨w1.heap.size, 0, none⟩ = some (.int .i64 0) := carry hb4 (by go_simp)
  have x1_4 : w4.cell? ⟨w1.heap.size, 1, none⟩ = some (.int .i64 0) := carry hb4 (by go_simp)
  have xz_4 : w1.heap.size < w4.heap.size := by have := hb4.size; first | omega | (simp at this; omega)
  have y0_4 : w4.cell? ⟨w2.heap.size, 0, none⟩ = some (.int .i64 0) := carry hb4 (by go_simp)
  have y1_4 : w4.cell? ⟨w2.heap.size, 1, none⟩ = some (.int .i64 0) := carry hb4 (by go_simp)
  have yz_4 : w2.heap.size < w4.heap.size := by have := hb4.size; first | omega | (simp at this; omega)
  have z0_4 : w4.cell? ⟨w3.heap.size, 0, none⟩ = some (.int .i64 zm) := carry hb4 (by go_simp)
  have z1_4 : w4.cell? ⟨w3.heap.size, 1, none⟩ = some (.int .i64 ze) := carry hb4 (by go_simp)
  have zz_4 : w3.heap.size < w4.heap.size := by have := hb4.size; first | omega | (simp at this; omega)
  have HB_4 := Lib.hid ((by repeat (first | exact HB_3.out | refine Below.alloc ?_ (by first | omega | (simp <;> omega)) _) : Below w.heap.size w _).trans (hb4.mono (by first | omega | (simp <;> omega))))
  have nz_4 : w.heap.size ≤ w4.heap.size := HB_4.out.size
  clear hb4 x0_3 x1_3 y0_3 y1_3 HB_3
  go_wp2_with fail
  refine (HSy.out _).mono ?_
  rintro e w5 ⟨rfl, hb5⟩
  have x0_5 : w5.cell? ⟨w1.heap.size, 0, none⟩ = some (.int .i64 0) := carry hb5 (by go_simp)
  have x1_5 : w5.cell? ⟨w1.heap.size, 1, none⟩ = some (.int .i64 0) := carry hb5 (by go_simp)
  have xz_5 : w1.heap.size < w5.heap.size := by have := hb5.size; first | omega | (simp at this; omega)
  have y0_5 : w5.cell? ⟨w2.heap.size, 0, none⟩ = some (.int .i64 0) := carry hb5 (by go_simp)
  have y1_5 : w5.cell? ⟨w2.heap.size, 1, none⟩ = some (.int .i64 0) := carry hb5 (by go_simp)
  have yz_5 : w2.heap.size < w5.heap.size := by have := hb5.size; first | omega | (simp at this; omega)
  have z0_5 : w5.cell? ⟨w3.heap.size, 0, none⟩ = some (.int .i64 zm) := carry hb5 (by go_simp)
  have z1_5 : w5.cell? ⟨w3.heap.size, 1, none⟩ = some (.int .i64 ze) := carry hb5 (by go_simp)
  have zz_5 : w3.heap.size < w5.heap.size := by have := hb5.size; first | omega | (simp at this; omega)
  have HB_5 := Lib.hid ((by repeat (first | exact HB_4.out | refine Below.alloc ?_ (by first | omega | (simp <;> omega)) _) : Below w.heap.size w _).trans (hb5.mono (by first | omega | (simp <;> omega))))
  have nz_5 : w.heap.size ≤ w5.heap.size := HB_5.out.size
  clear hb5 x0_4 x1_4 y0_4 y1_4 z0_4 z1_4 HB_4
  go_wp2_with fail
  refine (HSz.out _).mono ?_
  rintro e w6 ⟨rfl, hb6⟩
  have x0_6 : w6.cell? ⟨w1.heap.size, 0, none⟩ = some (.int .i64 0) := carry hb6 (by go_simp)
  have x1_6 : w6.cell? ⟨w1.heap.size, 1, none⟩ = some (.int .i64 0) := carry hb6 (by go_simp)
  have xz_6 : w1.heap.size < w6.heap.size := by have := hb6.size; first | omega | (simp at this; omega)
  have y0_6 : w6.cell? ⟨w2.heap.size, 0, none⟩ = some (.int .i64 0) := carry hb6 (by go_simp)
  have y1_6 : w6.cell? ⟨w2.heap.size, 1, none⟩ = some (.int .i64 0) := carry hb6 (by go_simp)
  have yz_6 : w2.heap.size < w6.heap.size := by have := hb6.size; first | omega | (simp at this; omega)
  have z0_6 : w6.cell? ⟨w3.heap.size, 0, none⟩ = some (.int .i64 zm) := carry hb6 (by go_simp)
  have z1_6 : w6.cell? ⟨w3.heap.size, 1, none⟩ = some (.int .i64 ze) := carry hb6 (by go_simp)
  have zz_6 : w3.heap.size < w6.heap.size := by have := hb6.size; first | omega | (simp at this; omega)
  have HB_6 := Lib.hid ((by repeat (first | exact HB_5.out | refine Below.alloc ?_ (by first | omega | (simp <;> omega)) _) : Below w.heap.size w _).trans (hb6.mono (by first | omega | (simp <;> omega))))
  have nz_6 : w.heap.size ≤ w6.heap.size := HB_6.out.size
  clear hb6 x0_5 x1_5 y0_5 y1_5 z0_5 z1_5 HB_5
  go_wp2_with fail
  refine (HAdd.out _).mono ?_
  rintro e w7 ⟨rfl, hb7⟩
  have x0_7 : w7.cell? ⟨w1.heap.size, 0, none⟩ = some (.int .i64 0) := carry hb7 (by go_simp)
  have x1_7 : w7.cell? ⟨w1.heap.size, 1, none⟩ = some (.int .i64 0) := carry hb7 (by go_simp)
  have xz_7 : w1.heap.size < w7.heap.size := by have := hb7.size; first | omega | (simp at this; omega)
  have y0_7 : w7.cell? ⟨w2.heap.size, 0, none⟩ = some (.int .i64 0) := carry hb7 (by go_simp)
  have y1_7 : w7.cell? ⟨w2.heap.size, 1, none⟩ = some (.int .i64 0) := carry hb7 (by go_simp)
  have yz_7 : w2.heap.size < w7.heap.size := by have := hb7.size; first | omega | (simp at this; omega)
  have z0_7 : w7.cell? ⟨w3.heap.size, 0, none⟩ = some (.int .i64 zm) := carry hb7 (by go_simp)
  have z1_7 : w7.cell? ⟨w3.heap.size, 1, none⟩ = some (.int .i64 ze) := carry hb7 (by go_simp)
  have zz_7 : w3.heap.size < w7.heap.size := by have := hb7.size; first | omega | (simp at this; omega)
  have HB_7 := Lib.hid ((by repeat (first | exact HB_6.out | refine Below.alloc ?_ (by first | omega | (simp <;> omega)) _) : Below w.heap.size w _).trans (hb7.mono (by first | omega | (simp <;> omega))))
  have nz_7 : w.heap.size ≤ w7.heap.size := HB_7.out.size
  clear hb7 x0_6 x1_6 y0_6 y1_6 z0_6 z1_6 HB_6
  go_wp2_with fail
  refine (HSub.out _).mono ?_
  rintro e w8 ⟨rfl, hb8⟩
  have x0_8 : w8.cell? ⟨w1.heap.size, 0, none⟩ = some (.int .i64 0) := carry hb8 (by go_simp)
  have x1_8 : w8.cell? ⟨w1.heap.size, 1, none⟩ = some (.int .i64 0) := carry hb8 (by go_simp)
  have xz_8 : w1.heap.size < w8.heap.size := by have := hb8.size; first | omega | (simp at this; omega)
  have y0_8 : w8.cell? ⟨w2.heap.size, 0, none⟩ = some (.int .i64 0) := carry hb8 (by go_simp)
  have y1_8 : w8.cell? ⟨w2.heap.size, 1, none⟩ = some (.int .i64 0) := carry hb8 (by go_simp)
  have yz_8 : w2.heap.size < w8.heap.size := by have := hb8.size; first | omega | (simp at this; omega)
  have z0_8 : w8.cell? ⟨w3.heap.size, 0, none⟩ = some (.int .i64 zm) := carry hb8 (by go_simp)
  have z1_8 : w8.cell? ⟨w3.heap.size, 1, none⟩ = some (.int .i64 ze) := carry hb8 (by go_simp)
  have zz_8 : w3.heap.size < w8.heap.size := by have := hb8.size; first | omega | (simp at this; omega)
  have s0_8 : w8.cell? ⟨w7.heap.size, 0, none⟩ = some (.int .i64 zm) := carry hb8 (by go_simp)
  have s1_8 : w8.cell? ⟨w7.heap.size, 1, none⟩ = some (.int .i64 ze) := carry hb8 (by go_simp)
  have sz_8 : w7.heap.size < w8.heap.size := by have := hb8.size; first | omega | (simp at this; omega)
  have HB_8 := Lib.hid ((by repeat (first | exact HB_7.out | refine Below.alloc ?_ (by first | omega | (simp <;> omega)) _) : Below w.heap.size w _).trans (hb8.mono (by first | omega | (simp <;> omega))))
  have nz_8 : w.heap.size ≤ w8.heap.size := HB_8.out.size
  clear hb8 x0_7 x1_7 y0_7 y1_7 z0_7 z1_7 HB_7
  go_wp2_with fail
  refine (HSs.out _).mono ?_
  rintro e w9 ⟨rfl, hb9⟩
  have z0_9 : w9.cell? ⟨w3.heap.size, 0, none⟩ = some (.int .i64 zm) := carry hb9 (by go_simp)
  have z1_9 : w9.cell? ⟨w3.heap.size, 1, none⟩ = some (.int .i64 ze) := carry hb9 (by go_simp)
  have zz_9 : w3.heap.size < w9.heap.size := by have := hb9.size; first | omega | (simp at this; omega)
  have s0_9 : w9.cell? ⟨w7.heap.size, 0, none⟩ = some (.int .i64 zm) := carry hb9 (by go_simp)
  have s1_9 : w9.cell? ⟨w7.heap.size, 1, none⟩ = some (.int .i64 ze) := carry hb9 (by go_simp)
  have sz_9 : w7.heap.size < w9.heap.size := by have := hb9.size; first | omega | (simp at this; omega)
  have d0_9 : w9.cell? ⟨w8.heap.size, 0, none⟩ = some (.int .i64 dm) := carry hb9 (by go_simp)
  have d1_9 : w9.cell? ⟨w8.heap.size, 1, none⟩ = some (.int .i64 de) := carry hb9 (by go_simp)
  have dz_9 : w8.heap.size < w9.heap.size := by have := hb9.size; first | omega | (simp at this; omega)
  have HB_9 := Lib.hid ((by repeat (first | exact HB_8.out | refine Below.alloc ?_ (by first | omega | (simp <;> omega)) _) : Below w.heap.size w _).trans (hb9.mono (by first | omega | (simp <;> omega))))
  have nz_9 : w.heap.size ≤ w9.heap.size := HB_9.out.size
  clear hb9 x0_8 x1_8 y0_8 y1_8 z0_8 z1_8 s0_8 s1_8 HB_8
  go_wp2_with fail
  refine (HSd.out _).mono ?_
  rintro e w10 ⟨rfl, hb10⟩
  have z0_10 : w10.cell? ⟨w3.heap.size, 0, none⟩ = some (.int .i64 zm) := carry hb10 (by go_simp)
  have z1_10 : w10.cell? ⟨w3.heap.size, 1, none⟩ = some (.int .i64 ze) := carry hb10 (by go_simp)
  have zz_10 : w3.heap.size < w10.heap.size := by have := hb10.size; first | omega | (simp at this; omega)
  have s0_10 : w10.cell? ⟨w7.heap.size, 0, none⟩ = some (.int .i64 zm) := carry hb10 (by go_simp)
  have s1_10 : w10.cell? ⟨w7.heap.size, 1, none⟩ = some (.int .i64 ze) := carry hb10 (by go_simp)
  have sz_10 : w7.heap.size < w10.heap.size := by have := hb10.size; first | omega | (simp at this; omega)
  have HB_10 := Lib.hid ((by repeat (first | exact HB_9.out | refine Below.alloc ?_ (by first | omega | (simp <;> omega)) _) : Below w.heap.size w _).trans (hb10.mono (by first | omega | (simp <;> omega))))
  have nz_10 : w.heap.size ≤ w10.heap.size := HB_10.out.size
  clear hb10 z0_9 z1_9 s0_9 s1_9 d0_9 d1_9 HB_9
  go_wp2_with fail
  try rw [hp]
  refine (HD1.out _).mono ?_
  rintro e w11 ⟨rfl, hb11⟩
  have z0_11 : w11.cell? ⟨w3.heap.size, 0, none⟩ = some (.int .i64 zm) := carry hb11 (by go_simp)
  have z1_11 : w11.cell? ⟨w3.heap.size, 1, none⟩ = some (.int .i64 ze) := carry hb11 (by go_simp)
  have zz_11 : w3.heap.size < w11.heap.size := by have := hb11.size; first | omega | (simp at this; omega)
  have s0_11 : w11.cell? ⟨w7.heap.size, 0, none⟩ = some (.int .i64 zm) := carry hb11 (by go_simp)
  have s1_11 : w11.cell? ⟨w7.heap.size, 1, none⟩ = some (.int .i64 ze) := carry hb11 (by go_simp)
  have sz_11 : w7.heap.size < w11.heap.size := by have := hb11.size; first | omega | (simp at this; omega)
  have HB_11 := Lib.hid ((by repeat (first | exact HB_10.out | refine Below.alloc ?_ (by first | omega | (simp <;> omega)) _) : Below w.heap.size w _).trans (hb11.mono (by first | omega | (simp <;> omega))))
  have nz_11 : w.heap.size ≤ w11.heap.size := HB_11.out.size
  clear hb11 z0_10 z1_10 s0_10 s1_10 HB_10
  go_wp2_with fail
  try rw [hp]
  refine (HD2.out _).mono ?_
  rintro e w12 ⟨rfl, hb12⟩
  have z0_12 : w12.cell? ⟨w3.heap.size, 0, none⟩ = some (.int .i64 zm) := carry hb12 (by go_simp)
  have z1_12 : w12.cell? ⟨w3.heap.size, 1, none⟩ = some (.int .i64 ze) := carry hb12 (by go_simp)
  have zz_12 : w3.heap.size < w12.heap.size := by have := hb12.size; first | omega | (simp at this; omega)
  have s0_12 : w12.cell? ⟨w7.heap.size, 0, none⟩ = some (.int .i64 zm) := carry hb12 (by go_simp)
  have s1_12 : w12.cell? ⟨w7.heap.size, 1, none⟩ = some (.int .i64 ze) := carry hb12 (by go_simp)
  have sz_12 : w7.heap.size < w12.heap.size := by have := hb12.size; first | omega | (simp at this; omega)
  have HB_12 := Lib.hid ((by repeat (first | exact HB_11.out | refine Below.alloc ?_ (by first | omega | (simp <;> omega)) _) : Below w.heap.size w _).trans (hb12.mono (by first | omega | (simp <;> omega))))
  have nz_12 : w.heap.size ≤ w12.heap.size := HB_12.out.size
  clear hb12 z0_11 z1_11 s0_11 s1_11 HB_11
  go_wp2_with fail
  try rw [hq]
  refine (HD3.out _).mono ?_
  rintro e w13 ⟨rfl, hb13⟩
  have z0_13 : w13.cell? ⟨w3.heap.size, 0, none⟩ = some (.int .i64 zm) := carry hb13 (by go_simp)
  have z1_13 : w13.cell? ⟨w3.heap.size, 1, none⟩ = some (.int .i64 ze) := carry hb13 (by go_simp)
  have zz_13 : w3.heap.size < w13.heap.size := by have := hb13.size; first | omega | (simp at this; omega)
  have s0_13 : w13.cell? ⟨w7.heap.size, 0, none⟩ = some (.int .i64 zm) := carry hb13 (by go_simp)
  have s1_13 : w13.cell? ⟨w7.heap.size, 1, none⟩ = some (.int .i64 ze) := carry hb13 (by go_simp)
  have sz_13 : w7.heap.size < w13.heap.size := by have := hb13.size; first | omega | (simp at this; omega)
  have HB_13 := Lib.hid ((by repeat (first | exact HB_12.out | refine Below.alloc ?_ (by first | omega | (simp <;> omega)) _) : Below w.heap.size w _).trans (hb13.mono (by first | omega | (simp <;> omega))))
  have nz_13 : w.heap.size ≤ w13.heap.size := HB_13.out.size
  clear hb13 z0_12 z1_12 s0_12 s1_12 HB_12
  go_wp2_with fail
  try rw [hq]
  refine (HD4.out _).mono ?_
  rintro e w14 ⟨rfl, hb14⟩
  have z0_14 : w14.cell? ⟨w3.heap.size, 0, none⟩ = some (.int .i64 zm) := carry hb14 (by go_simp)
  have z1_14 : w14.cell? ⟨w3.heap.size, 1, none⟩ = some (.int .i64 ze) := carry hb14 (by go_simp)
  have zz_14 : w3.heap.size < w14.heap.size := by have := hb14.size; first | omega | (simp at this; omega)
  have s0_14 : w14.cell? ⟨w7.heap.size, 0, none⟩ = some (.int .i64 zm) := carry hb14 (by go_simp)
  have s1_14 : w14.cell? ⟨w7.heap.size, 1, none⟩ = some (.int .i64 ze) := carry hb14 (by go_simp)
  have sz_14 : w7.heap.size < w14.heap.size := by have := hb14.size; first | omega | (simp at this; omega)
  have HB_14 := Lib.hid ((by repeat (first | exact HB_13.out | refine Below.alloc ?_ (by first | omega | (simp <;> omega)) _) : Below w.heap.size w _).trans (hb14.mono (by first | omega | (simp <;> omega))))
  have nz_14 : w.heap.size ≤ w14.heap.size := HB_14.out.size
  clear hb14 z0_13 z1_13 s0_13 s1_13 HB_13
  go_wp2_with fail
  refine (HSan.out _ (by repeat (first | exact HB_14.out | refine Below.alloc ?_ (by first | omega | (simp <;> omega)) _))).mono ?_
  rintro e w15 ⟨rfl, hb15⟩
  have z0_15 : w15.cell? ⟨w3.heap.size, 0, none⟩ = some (.int .i64 zm) := carry hb15 (by go_simp)
  have z1_15 : w15.cell? ⟨w3.heap.size, 1, none⟩ = some (.int .i64 ze) := carry hb15 (by go_simp)
  have zz_15 : w3.heap.size < w15.heap.size := by have := hb15.size; first | omega | (simp at this; omega)
  have s0_15 : w15.cell? ⟨w7.heap.size, 0, none⟩ = some (.int .i64 zm) := carry hb15 (by go_simp)
  have s1_15 : w15.cell? ⟨w7.heap.size, 1, none⟩ = some (.int .i64 ze) := carry hb15 (by go_simp)
  have sz_15 : w7.heap.size < w15.heap.size := by have := hb15.size; first | omega | (simp at this; omega)
  have HB_15 := Lib.hid ((by repeat (first | exact HB_14.out | refine Below.alloc ?_ (by first | omega | (simp <;> omega)) _) : Below w.heap.size w _).trans (hb15.mono (by first | omega | (simp <;> omega))))
  have nz_15 : w.heap.size ≤ w15.heap.size := HB_15.out.size
  clear hb15 z0_14 z1_14 s0_14 s1_14 HB_14
  go_wp2_with fail
  go_ret
  exact ⟨rfl, by repeat (first | exact HB_15.out | refine Below.alloc ?_ (by first | omega | (simp <;> omega)) _)⟩

set_option maxRecDepth 100000 in
set_option maxHeartbeats 8000000 in
theorem m_zz_ee (i j k xm xe ym ye zm ze a b c sm se dm de u v p q d1 d2 d3 d4 : Int) (w : World) (HAx : Hid (∀ W : World, Calls Tryz.prog 8 #[.int .i64 i] W fun r w' => r = .returned (realV 0 0) ∧ Below W.heap.size W w')) (HAy : Hid (∀ W : World, Calls Tryz.prog 8 #[.int .i64 j] W fun r w' => r = .returned (realV 0 0) ∧ Below W.heap.size W w')) (HAz : Hid (∀ W : World, Calls Tryz.prog 8 #[.int .i64 k] W fun r w' => r = .returned (realV zm ze) ∧ Below W.heap.size W w')) (HSx : Hid (∀ W : World, Calls Tryz.prog 20 #[realV 0 0] W fun r w' => r = .returned (.tuple #[.int .i64 a, .bool true]) ∧ Below W.heap.size W w')) (HSy : Hid (∀ W : World, Calls Tryz.prog 20 #[realV 0 0] W fun r w' => r = .returned (.tuple #[.int .i64 b, .bool true]) ∧ Below W.heap.size W w')) (HSz : Hid (∀ W : World, Calls Tryz.prog 20 #[realV zm ze] W fun r w' => r = .returned (.tuple #[.int .i64 c, .bool true]) ∧ Below W.heap.size W w')) (HAdd : Hid (∀ W : World, Calls Tryz.prog 11 #[realV 0 0, realV 0 0] W fun r w' => r = .returned (rE zm ze 0) ∧ Below W.heap.size W w')) (HSub : Hid (∀ W : World, Calls Tryz.prog 15 #[realV 0 0, realV 0 0] W fun r w' => r = .returned (rE zm ze 0) ∧ Below W.heap.size W w')) (HSan : Hid (∀ W, Below w.heap.size w W → Calls Tryz.prog 19 #[] W fun r W' => r = .returned (.bool true) ∧ Below W.heap.size W W')) (HSs : Hid (∀ W : World, Calls Tryz.prog 20 #[realV zm ze] W fun r w' => r = .returned (.tuple #[.int .i64 u, .bool true]) ∧ Below W.heap.size W w')) (HSd : Hid (∀ W : World, Calls Tryz.prog 20 #[realV zm ze] W fun r w' => r = .returned (.tuple #[.int .i64 v, .bool true]) ∧ Below W.heap.size W w')) (hp : IntKind.i64.wrap (a + b) = p) (hq : IntKind.i64.wrap (a - b) = q) (l1 : d1 ≤ d2) (l2 : d3 ≤ d4) (HD1 : Hid (∀ W : World, Calls Tryz.prog 21 #[.int .i64 u, .int .i64 p] W fun r w' => r = .returned (.int .i64 d1) ∧ Below W.heap.size W w')) (HD2 : Hid (∀ W : World, Calls Tryz.prog 21 #[.int .i64 c, .int .i64 p] W fun r w' => r = .returned (.int .i64 d2) ∧ Below W.heap.size W w')) (HD3 : Hid (∀ W : World, Calls Tryz.prog 21 #[.int .i64 v, .int .i64 q] W fun r w' => r = .returned (.int .i64 d3) ∧ Below W.heap.size W w')) (HD4 : Hid (∀ W : World, Calls Tryz.prog 21 #[.int .i64 c, .int .i64 q] W fun r w' => r = .returned (.int .i64 d4) ∧ Below W.heap.size W w')) (k1 : (c != p) = false) (k2 : (c != q) = false)  :
    Calls Tryz.prog 4 #[.int .i64 i, .int .i64 j, .int .i64 k] w fun r w' => r = .returned (.bool true) ∧ Below w.heap.size w w' := by
  go_enter Tryz.func4, Tryz.ntmps4
  go_wp2_with fail
  refine (HAx.out _).mono ?_
  rintro e w1 ⟨rfl, hb1⟩
  have HB_1 := Lib.hid ((by repeat (first | exact Below.refl _ _ | refine Below.alloc ?_ (by first | omega | (simp <;> omega)) _) : Below w.heap.size w _).trans (hb1.mono (by first | omega | (simp <;> omega))))
  have nz_1 : w.heap.size ≤ w1.heap.size := HB_1.out.size
  clear hb1
  go_wp2_with fail
  refine (HAy.out _).mono ?_
  rintro e w2 ⟨rfl, hb2⟩
  have x0_2 : w2.cell? ⟨w1.heap.size, 0, none⟩ = some (.int .i64 0) := carry hb2 (by go_simp)
  have x1_2 : w2.cell? ⟨w1.heap.size, 1, none⟩ = some (.int .i64 0) := carry hb2 (by go_simp)
  have xz_2 : w1.heap.size < w2.heap.size := by have := hb2.size; first | omega | (simp at this; omega)
  have HB_2 := Lib.hid ((by repeat (first | exact HB_1.out | refine Below.alloc ?_ (by first | omega | (simp <;> omega)) _) : Below w.heap.size w _).trans (hb2.mono (by first | omega | (simp <;> omega))))
  have nz_2 : w.heap.size ≤ w2.heap.size := HB_2.out.size
  clear hb2 HB_1
  go_wp2_with fail
  refine (HAz.out _).mono ?_
  rintro e w3 ⟨rfl, hb3⟩
  have x0_3 : w3.cell? ⟨w1.heap.size, 0, none⟩ = some (.int .i64 0) := carry hb3 (by go_simp)
  have x1_3 : w3.cell? ⟨w1.heap.size, 1, none⟩ = some (.int .i64 0) := carry hb3 (by go_simp)
  have xz_3 : w1.heap.size < w3.heap.size := by have := hb3.size; first | omega | (simp at this; omega)
  have y0_3 : w3.cell? ⟨w2.heap.size, 0, none⟩ = some (.int .i64 0) := carry hb3 (by go_simp)
  have y1_3 : w3.cell? ⟨w2.heap.size, 1, none⟩ = some (.int .i64 0) := carry hb3 (by go_simp)
  have yz_3 : w2.heap.size < w3.heap.size := by have := hb3.size; first | omega | (simp at this; omega)
  have HB_3 := Lib.hid ((by repeat (first | exact HB_2.out | refine Below.alloc ?_ (by first | omega | (simp <;> omega)) _) : Below w.heap.size w _).trans (hb3.mono (by first | omega | (simp <;> omega))))
  have nz_3 : w.heap.size ≤ w3.heap.size := HB_3.out.size
  clear hb3 x0_2 x1_2 HB_2
  go_wp2_with fail
  refine (HSx.out _).mono ?_
  rintro e w4 ⟨rfl, hb4⟩
  have x0_4 : w4.cell? ⟨w1.heap.size, 0, none⟩ = some (.int .i64 0) := carry hb4 (by go_simp)
  have x1_4 : w4.cell? ⟨w1.heap.size, 1, none⟩ = some (.int .i64 0) := carry hb4 (by go_simp)
  have xz_4 : w1.heap.size < w4.heap.size := by have := hb4.size; first | omega | (simp at this; omega)
  have y0_4 : w4.cell? ⟨w2.heap.size, 0, none⟩ = some (.int .i64 0) := carry hb4 (by go_simp)
  have y1_4 : w4.cell? ⟨w2.heap.size, 1, none⟩ = some (.int .i64 0) := carry hb4 (by go_simp)
  have yz_4 : w2.heap.size < w4.heap.size := by have := hb4.size; first | omega | (simp at this; omega)
  have z0_4 : w4.cell? ⟨w3.heap.size, 0, none⟩ = some (.int .i64 zm) := carry hb4 (by go_simp)
  have z1_4 : w4.cell? ⟨w3.heap.size, 1, none⟩ = some (.int .i64 ze) := carry hb4 (by go_simp)
  have zz_4 : w3.heap.size < w4.heap.size := by have := hb4.size; first | omega | (simp at this; omega)
  have HB_4 := Lib.hid ((by repeat (first | exact HB_3.out | refine Below.alloc ?_ (by first | omega | (simp <;> omega)) _) : Below w.heap.size w _).trans (hb4.mono (by first | omega | (simp <;> omega))))
  have nz_4 : w.heap.size ≤ w4.heap.size := HB_4.out.size
  clear hb4 x0_3 x1_3 y0_3 y1_3 HB_3
  go_wp2_with fail
  refine (HSy.out _).mono ?_
  rintro e w5 ⟨rfl, hb5⟩
  have x0_5 : w5.cell? ⟨w1.heap.size, 0, none⟩ = some (.int .i64 0) := carry hb5 (by go_simp)
  have x1_5 : w5.cell? ⟨w1.heap.size, 1, none⟩ = some (.int .i64 0) := carry hb5 (by go_simp)
  have xz_5 : w1.heap.size < w5.heap.size := by have := hb5.size; first | omega | (simp at this; omega)
  have y0_5 : w5.cell? ⟨w2.heap.size, 0, none⟩ = some (.int .i64 0) := carry hb5 (by go_simp)
  have y1_5 : w5.cell? ⟨w2.heap.size, 1, none⟩ = some (.int .i64 0) := carry hb5 (by go_simp)
  have yz_5 : w2.heap.size < w5.heap.size := by have := hb5.size; first | omega | (simp at this; omega)
  have z0_5 : w5.cell? ⟨w3.heap.size, 0, none⟩ = some (.int .i64 zm) := carry hb5 (by go_simp)
  have z1_5 : w5.cell? ⟨w3.heap.size, 1, none⟩ = some (.int .i64 ze) := carry hb5 (by go_simp)
  have zz_5 : w3.heap.size < w5.heap.size := by have := hb5.size; first | omega | (simp at this; omega)
  have HB_5 := Lib.hid ((by repeat (first | exact HB_4.out | refine Below.alloc ?_ (by first | omega | (simp <;> omega)) _) : Below w.heap.size w _).trans (hb5.mono (by first | omega | (simp <;> omega))))
  have nz_5 : w.heap.size ≤ w5.heap.size := HB_5.out.size
  clear hb5 x0_4 x1_4 y0_4 y1_4 z0_4 z1_4 HB_4
  go_wp2_with fail
  refine (HSz.out _).mono ?_
  rintro e w6 ⟨rfl, hb6⟩
  have x0_6 : w6.cell? ⟨w1.heap.size, 0, none⟩ = some (.int .i64 0) := carry hb6 (by go_simp)
  have x1_6 : w6.cell? ⟨w1.heap.size, 1, none⟩ = some (.int .i64 0) := carry hb6 (by go_simp)
  have xz_6 : w1.heap.size < w6.heap.size := by have := hb6.size; first | omega | (simp at this; omega)
  have y0_6 : w6.cell? ⟨w2.heap.size, 0, none⟩ = some (.int .i64 0) := carry hb6 (by go_simp)
  have y1_6 : w6.cell? ⟨w2.heap.size, 1, none⟩ = some (.int .i64 0) := carry hb6 (by go_simp)
  have yz_6 : w2.heap.size < w6.heap.size := by have := hb6.size; first | omega | (simp at this; omega)
  have z0_6 : w6.cell? ⟨w3.heap.size, 0, none⟩ = some (.int .i64 zm) := carry hb6 (by go_simp)
  have z1_6 : w6.cell? ⟨w3.heap.size, 1, none⟩ = some (.int .i64 ze) := carry hb6 (by go_simp)
  have zz_6 : w3.heap.size < w6.heap.size := by have := hb6.size; first | omega | (simp at this; omega)
  have HB_6 := Lib.hid ((by repeat (first | exact HB_5.out | refine Below.alloc ?_ (by first | omega | (simp <;> omega)) _) : Below w.heap.size w _).trans (hb6.mono (by first | omega | (simp <;> omega))))
  have nz_6 : w.heap.size ≤ w6.heap.size := HB_6.out.size
  clear hb6 x0_5 x1_5 y0_5 y1_5 z0_5 z1_5 HB_5
  go_wp2_with fail
  refine (HAdd.out _).mono ?_
  rintro e w7 ⟨rfl, hb7⟩
  have x0_7 : w7.cell? ⟨w1.heap.size, 0, none⟩ = some (.int .i64 0) := carry hb7 (by go_simp)
  have x1_7 : w7.cell? ⟨w1.heap.size, 1, none⟩ = some (.int .i64 0) := carry hb7 (by go_simp)
  have xz_7 : w1.heap.size < w7.heap.size := by have := hb7.size; first | omega | (simp at this; omega)
  have y0_7 : w7.cell? ⟨w2.heap.size, 0, none⟩ = some (.int .i64 0) := carry hb7 (by go_simp)
  have y1_7 : w7.cell? ⟨w2.heap.size, 1, none⟩ = some (.int .i64 0) := carry hb7 (by go_simp)
  have yz_7 : w2.heap.size < w7.heap.size := by have := hb7.size; first | omega | (simp at this; omega)
  have z0_7 : w7.cell? ⟨w3.heap.size, 0, none⟩ = some (.int .i64 zm) := carry hb7 (by go_simp)
  have z1_7 : w7.cell? ⟨w3.heap.size, 1, none⟩ = some (.int .i64 ze) := carry hb7 (by go_simp)
  have zz_7 : w3.heap.size < w7.heap.size := by have := hb7.size; first | omega | (simp at this; omega)
  have HB_7 := Lib.hid ((by repeat (first | exact HB_6.out | refine Below.alloc ?_ (by first | omega | (simp <;> omega)) _) : Below w.heap.size w _).trans (hb7.mono (by first | omega | (simp <;> omega))))
  have nz_7 : w.heap.size ≤ w7.heap.size := HB_7.out.size
  clear hb7 x0_6 x1_6 y0_6 y1_6 z0_6 z1_6 HB_6
  go_wp2_with fail
  refine (HSub.out _).mono ?_
  rintro e w8 ⟨rfl, hb8⟩
  have x0_8 : w8.cell? ⟨w1.heap.size, 0, none⟩ = some (.int .i64 0) := carry hb8 (by go_simp)
  have x1_8 : w8.cell? ⟨w1.heap.size, 1, none⟩ = some (.int .i64 0) := carry hb8 (by go_simp)
  have xz_8 : w1.heap.size < w8.heap.size := by have := hb8.size; first | omega | (simp at this; omega)
  have y0_8 : w8.cell? ⟨w2.heap.size, 0, none⟩ = some (.int .i64 0) := carry hb8 (by go_simp)
  have y1_8 : w8.cell? ⟨w2.heap.size, 1, none⟩ = some (.int .i64 0) := carry hb8 (by go_simp)
  have yz_8 : w2.heap.size < w8.heap.size := by have := hb8.size; first | omega | (simp at this; omega)
  have z0_8 : w8.cell? ⟨w3.heap.size, 0, none⟩ = some (.int .i64 zm) := carry hb8 (by go_simp)
  have z1_8 : w8.cell? ⟨w3.heap.size, 1, none⟩ = some (.int .i64 ze) := carry hb8 (by go_simp)
  have zz_8 : w3.heap.size < w8.heap.size := by have := hb8.size; first | omega | (simp at this; omega)
  have s0_8 : w8.cell? ⟨w7.heap.size, 0, none⟩ = some (.int .i64 zm) := carry hb8 (by go_simp)
  have s1_8 : w8.cell? ⟨w7.heap.size, 1, none⟩ = some (.int .i64 ze) := carry hb8 (by go_simp)
  have sz_8 : w7.heap.size < w8.heap.size := by have := hb8.size; first | omega | (simp at this; omega)
  have HB_8 := Lib.hid ((by repeat (first | exact HB_7.out | refine Below.alloc ?_ (by first | omega | (simp <;> omega)) _) : Below w.heap.size w _).trans (hb8.mono (by first | omega | (simp <;> omega))))
  have nz_8 : w.heap.size ≤ w8.heap.size := HB_8.out.size
  clear hb8 x0_7 x1_7 y0_7 y1_7 z0_7 z1_7 HB_7
  go_wp2_with fail
  refine (HSs.out _).mono ?_
  rintro e w9 ⟨rfl, hb9⟩
  have z0_9 : w9.cell? ⟨w3.heap.size, 0, none⟩ = some (.int .i64 zm) := carry hb9 (by go_simp)
  have z1_9 : w9.cell? ⟨w3.heap.size, 1, none⟩ = some (.int .i64 ze) := carry hb9 (by go_simp)
  have zz_9 : w3.heap.size < w9.heap.size := by have := hb9.size; first | omega | (simp at this; omega)
  have s0_9 : w9.cell? ⟨w7.heap.size, 0, none⟩ = some (.int .i64 zm) := carry hb9 (by go_simp)
  have s1_9 : w9.cell? ⟨w7.heap.size, 1, none⟩ = some (.int .i64 ze) := carry hb9 (by go_simp)
  have sz_9 : w7.heap.size < w9.heap.size := by have := hb9.size; first | omega | (simp at this; omega)
  have d0_9 : w9.cell? ⟨w8.heap.size, 0, none⟩ = some (.int .i64 zm) := carry hb9 (by go_simp)
  have d1_9 : w9.cell? ⟨w8.heap.size, 1, none⟩ = some (.int .i64 ze) := carry hb9 (by go_simp)
  have dz_9 : w8.heap.size < w9.heap.size := by have := hb9.size; first | omega | (simp at this; omega)
  have HB_9 := Lib.hid ((by repeat (first | exact HB_8.out | refine Below.alloc ?_ (by first | omega | (simp <;> omega)) _) : Below w.heap.size w _).trans (hb9.mono (by first | omega | (simp <;> omega))))
  have nz_9 : w.heap.size ≤ w9.heap.size := HB_9.out.size
  clear hb9 x0_8 x1_8 y0_8 y1_8 z0_8 z1_8 s0_8 s1_8 HB_8
  go_wp2_with fail
  refine (HSd.out _).mono ?_
  rintro e w10 ⟨rfl, hb10⟩
  have z0_10 : w10.cell? ⟨w3.heap.size, 0, none⟩ = some (.int .i64 zm) := carry hb10 (by go_simp)
  have z1_10 : w10.cell? ⟨w3.heap.size, 1, none⟩ = some (.int .i64 ze) := carry hb10 (by go_simp)
  have zz_10 : w3.heap.size < w10.heap.size := by have := hb10.size; first | omega | (simp at this; omega)
  have s0_10 : w10.cell? ⟨w7.heap.size, 0, none⟩ = some (.int .i64 zm) := carry hb10 (by go_simp)
  have s1_10 : w10.cell? ⟨w7.heap.size, 1, none⟩ = some (.int .i64 ze) := carry hb10 (by go_simp)
  have sz_10 : w7.heap.size < w10.heap.size := by have := hb10.size; first | omega | (simp at this; omega)
  have d0_10 : w10.cell? ⟨w8.heap.size, 0, none⟩ = some (.int .i64 zm) := carry hb10 (by go_simp)
  have d1_10 : w10.cell? ⟨w8.heap.size, 1, none⟩ = some (.int .i64 ze) := carry hb10 (by go_simp)
  have dz_10 : w8.heap.size < w10.heap.size := by have := hb10.size; first | omega | (simp at this; omega)
  have HB_10 := Lib.hid ((by repeat (first | exact HB_9.out | refine Below.alloc ?_ (by first | omega | (simp <;> omega)) _) : Below w.heap.size w _).trans (hb10.mono (by first | omega | (simp <;> omega))))
  have nz_10 : w.heap.size ≤ w10.heap.size := HB_10.out.size
  clear hb10 z0_9 z1_9 s0_9 s1_9 d0_9 d1_9 HB_9
  go_wp2_with fail
  try rw [hp]
  refine (HD1.out _).mono ?_
  rintro e w11 ⟨rfl, hb11⟩
  have z0_11 : w11.cell? ⟨w3.heap.size, 0, none⟩ = some (.int .i64 zm) := carry hb11 (by go_simp)
  have z1_11 : w11.cell? ⟨w3.heap.size, 1, none⟩ = some (.int .i64 ze) := carry hb11 (by go_simp)
  have zz_11 : w3.heap.size < w11.heap.size := by have := hb11.size; first | omega | (simp at this; omega)
  have s0_11 : w11.cell? ⟨w7.heap.size, 0, none⟩ = some (.int .i64 zm) := carry hb11 (by go_simp)
  have s1_11 : w11.cell? ⟨w7.heap.size, 1, none⟩ = some (.int .i64 ze) := carry hb11 (by go_simp)
  have sz_11 : w7.heap.size < w11.heap.size := by have := hb11.size; first | omega | (simp at this; omega)
  have d0_11 : w11.cell? ⟨w8.heap.size, 0, none⟩ = some (.int .i64 zm) := carry hb11 (by go_simp)
  have d1_11 : w11.cell? ⟨w8.heap.size, 1, none⟩ = some (.int .i64 ze) := carry hb11 (by go_simp)
  have dz_11 : w8.heap.size < w11.heap.size := by have := hb11.size; first | omega | (simp at this; omega)
  have HB_11 := Lib.hid ((by repeat (first | exact HB_10.out | refine Below.alloc ?_ (by first | omega | (simp <;> omega)) _) : Below w.heap.size w _).trans (hb11.mono (by first | omega | (simp <;> omega))))
  have nz_11 : w.heap.size ≤ w11.heap.size := HB_11.out.size
  clear hb11 z0_10 z1_10 s0_10 s1_10 d0_10 d1_10 HB_10
  go_wp2_with fail
  try rw [hp]
  refine (HD2.out _).mono ?_
  rintro e w12 ⟨rfl, hb12⟩
  have z0_12 : w12.cell? ⟨w3.heap.size, 0, none⟩ = some (.int .i64 zm) := carry hb12 (by go_simp)
  have z1_12 : w12.cell? ⟨w3.heap.size, 1, none⟩ = some (.int .i64 ze) := carry hb12 (by go_simp)
  have zz_12 : w3.heap.size < w12.heap.size := by have := hb12.size; first | omega | (simp at this; omega)
  have s0_12 : w12.cell? ⟨w7.heap.size, 0, none⟩ = some (.int .i64 zm) := carry hb12 (by go_simp)
  have s1_12 : w12.cell? ⟨w7.heap.size, 1, none⟩ = some (.int .i64 ze) := carry hb12 (by go_simp)
  have sz_12 : w7.heap.size < w12.heap.size := by have := hb12.size; first | omega | (simp at this; omega)
  have d0_12 : w12.cell? ⟨w8.heap.size, 0, none⟩ = some (.int .i64 zm) := carry hb12 (by go_simp)
  have d1_12 : w12.cell? ⟨w8.heap.size, 1, none⟩ = some (.int .i64 ze) := carry hb12 (by go_simp)
  have dz_12 : w8.heap.size < w12.heap.size := by have := hb12.size; first | omega | (simp at this; omega)
  have HB_12 := Lib.hid ((by repeat (first | exact HB_11.out | refine Below.alloc ?_ (by first | omega | (simp <;> omega)) _) : Below w.heap.size w _).trans (hb12.mono (by first | omega | (simp <;> omega))))
  have nz_12 : w.heap.size ≤ w12.heap.size := HB_12.out.size
  clear hb12 z0_11 z1_11 s0_11 s1_11 d0_11 d1_11 HB_11
  go_wp2_with fail
  try rw [hq]
  refine (HD3.out _).mono ?_
  rintro e w13 ⟨rfl, hb13⟩
  have z0_13 : w13.cell? ⟨w3.heap.size, 0, none⟩ = some (.int .i64 zm) := carry hb13 (by go_simp)
  have z1_13 : w13.cell? ⟨w3.heap.size, 1, none⟩ = some (.int .i64 ze) := carry hb13 (by go_simp)
  have zz_13 : w3.heap.size < w13.heap.size := by have := hb13.size; first | omega | (simp at this; omega)
  have s0_13 : w13.cell? ⟨w7.heap.size, 0, none⟩ = some (.int .i64 zm) := carry hb13 (by go_simp)
  have s1_13 : w13.cell? ⟨w7.heap.size, 1, none⟩ = some (.int .i64 ze) := carry hb13 (by go_simp)
  have sz_13 : w7.heap.size < w13.heap.size := by have := hb13.size; first | omega | (simp at this; omega)
  have d0_13 : w13.cell? ⟨w8.heap.size, 0, none⟩ = some (.int .i64 zm) := carry hb13 (by go_simp)
  have d1_13 : w13.cell? ⟨w8.heap.size, 1, none⟩ = some (.int .i64 ze) := carry hb13 (by go_simp)
  have dz_13 : w8.heap.size < w13.heap.size := by have := hb13.size; first | omega | (simp at this; omega)
  have HB_13 := Lib.hid ((by repeat (first | exact HB_12.out | refine Below.alloc ?_ (by first | omega | (simp <;> omega)) _) : Below w.heap.size w _).trans (hb13.mono (by first | omega | (simp <;> omega))))
  have nz_13 : w.heap.size ≤ w13.heap.size := HB_13.out.size
  clear hb13 z0_12 z1_12 s0_12 s1_12 d0_12 d1_12 HB_12
  go_wp2_with fail
  try rw [hq]
  refine (HD4.out _).mono ?_
  rintro e w14 ⟨rfl, hb14⟩
  have z0_14 : w14.cell? ⟨w3.heap.size, 0, none⟩ = some (.int .i64 zm) := carry hb14 (by go_simp)
  have z1_14 : w14.cell? ⟨w3.heap.size, 1, none⟩ = some (.int .i64 ze) := carry hb14 (by go_simp)
  have zz_14 : w3.heap.size < w14.heap.size := by have := hb14.size; first | omega | (simp at this; omega)
  have s0_14 : w14.cell? ⟨w7.heap.size, 0, none⟩ = some (.int .i64 zm) := carry hb14 (by go_simp)
  have s1_14 : w14.cell? ⟨w7.heap.size, 1, none⟩ = some (.int .i64 ze) := carry hb14 (by go_simp)
  have sz_14 : w7.heap.size < w14.heap.size := by have := hb14.size; first | omega | (simp at this; omega)
  have d0_14 : w14.cell? ⟨w8.heap.size, 0, none⟩ = some (.int .i64 zm) := carry hb14 (by go_simp)
  have d1_14 : w14.cell? ⟨w8.heap.size, 1, none⟩ = some (.int .i64 ze) := carry hb14 (by go_simp)
  have dz_14 : w8.heap.size < w14.heap.size := by have := hb14.size; first | omega | (simp at this; omega)
  have HB_14 := Lib.hid ((by repeat (first | exact HB_13.out | refine Below.alloc ?_ (by first | omega | (simp <;> omega)) _) : Below w.heap.size w _).trans (hb14.mono (by first | omega | (simp <;> omega))))
  have nz_14 : w.heap.size ≤ w14.heap.size := HB_14.out.size
  clear hb14 z0_13 z1_13 s0_13 s1_13 d0_13 d1_13 HB_13
  go_wp2_with fail
  refine (HSan.out _ (by repeat (first | exact HB_14.out | refine Below.alloc ?_ (by first | omega | (simp <;> omega)) _))).mono ?_
  rintro e w15 ⟨rfl, hb15⟩
  have z0_15 : w15.cell? ⟨w3.heap.size, 0, none⟩ = some (.int .i64 zm) := carry hb15 (by go_simp)
  have z1_15 : w15.cell? ⟨w3.heap.size, 1, none⟩ = some (.int .i64 ze) := carry hb15 (by go_simp)
  have zz_15 : w3.heap.size < w15.heap.size := by have := hb15.size; first | omega | (simp at this; omega)
  have s0_15 : w15.cell? ⟨w7.heap.size, 0, none⟩ = some (.int .i64 zm) := carry hb15 (by go_simp)
  have s1_15 : w15.cell? ⟨w7.heap.size, 1, none⟩ = some (.int .i64 ze) := carry hb15 (by go_simp)
  have sz_15 : w7.heap.size < w15.heap.size := by have := hb15.size; first | omega | (simp at this; omega)
  have d0_15 : w15.cell? ⟨w8.heap.size, 0, none⟩ = some (.int .i64 zm) := carry hb15 (by go_simp)
  have d1_15 : w15.cell? ⟨w8.heap.size, 1, none⟩ = some (.int .i64 ze) := carry hb15 (by go_simp)
  have dz_15 : w8.heap.size < w15.heap.size := by have := hb15.size; first | omega | (simp at this; omega)
  have HB_15 := Lib.hid ((by repeat (first | exact HB_14.out | refine Below.alloc ?_ (by first | omega | (simp <;> omega)) _) : Below w.heap.size w _).trans (hb15.mono (by first | omega | (simp <;> omega))))
  have nz_15 : w.heap.size ≤ w15.heap.size := HB_15.out.size
  clear hb15 z0_14 z1_14 s0_14 s1_14 d0_14 d1_14 HB_14
  go_wp2_with fail
  go_ret
  exact ⟨rfl, by repeat (first | exact HB_15.out | refine Below.alloc ?_ (by first | omega | (simp <;> omega)) _)⟩

end Go.Proofs.YtoofdihnflnaiaaGreatDoor.realNearest
