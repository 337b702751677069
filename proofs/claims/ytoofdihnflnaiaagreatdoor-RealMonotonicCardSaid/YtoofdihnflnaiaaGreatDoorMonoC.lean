/-
  Several texts in one (Mono0, MonoA, MonoB).
-/
import Derived.Test.YtoofdihnflnaiaaGreatDoorNear0
import Derived.Test.YtoofdihnflnaiaaGreatDoorSqrA

namespace Go.Proofs.YtoofdihnflnaiaaGreatDoor
open Go.RowKit
set_option linter.unusedVariables false

set_option maxRecDepth 100000 in
set_option maxHeartbeats 1600000 in
theorem od_a (m e x k f y : Int) (w : World) (hx : (x != 0) = true) :
    Calls Tryz.prog 24 #[realV m e, .int .i64 x, realV k f, .int .i64 y] w fun r w' => r = .returned (.bool true) ∧ Below w.heap.size w w' := by
  go_enter Tryz.func24, Tryz.ntmps24
  go_wp2_with fail
  go_ret
  exact ⟨rfl, by repeat (first | with_reducible exact Below.refl _ _ | with_reducible refine Below.drew ?_ | with_reducible refine belowN ?_ _ | with_reducible refine Below.setCell ?_ (by first | omega | (simp; done) | (simp; omega)) _ | with_reducible refine Below.alloc ?_ (by first | omega | (simp; done) | (simp; omega)) _)⟩

set_option maxRecDepth 100000 in
set_option maxHeartbeats 1600000 in
theorem od_b (m e x k f y : Int) (w : World) (hx : (x != 0) = false) (hy : (y != 0) = true) :
    Calls Tryz.prog 24 #[realV m e, .int .i64 x, realV k f, .int .i64 y] w fun r w' => r = .returned (.bool true) ∧ Below w.heap.size w w' := by
  go_enter Tryz.func24, Tryz.ntmps24
  go_wp2_with fail
  go_ret
  exact ⟨rfl, by repeat (first | with_reducible exact Below.refl _ _ | with_reducible refine Below.drew ?_ | with_reducible refine belowN ?_ _ | with_reducible refine Below.setCell ?_ (by first | omega | (simp; done) | (simp; omega)) _ | with_reducible refine Below.alloc ?_ (by first | omega | (simp; done) | (simp; omega)) _)⟩

set_option maxRecDepth 100000 in
set_option maxHeartbeats 1600000 in
theorem od_c (m e x k f y : Int) (w : World) (hx : (x != 0) = false) (hy : (y != 0) = false) (c : Int) (hc : c ≤ 0) (HC : Hid (∀ W : World, Calls Tryz.prog 18 #[realV m e, realV k f] W fun r w' => r = .returned (.tuple #[.int .i64 c, .int .i64 0]) ∧ Below W.heap.size W w')) :
    Calls Tryz.prog 24 #[realV m e, .int .i64 x, realV k f, .int .i64 y] w fun r w' => r = .returned (.bool true) ∧ Below w.heap.size w w' := by
  go_enter Tryz.func24, Tryz.ntmps24
  go_wp2_with fail
  refine (HC.out _).mono ?_
  rintro r w1 ⟨rfl, hb1⟩
  have HBB := Lib.hid ((by repeat (first | with_reducible exact Below.refl _ _ | with_reducible refine Below.setCell ?_ (by first | omega | (simp; done) | (simp; omega)) _ | with_reducible refine Below.drew ?_ | with_reducible refine belowN ?_ _ | with_reducible refine Below.alloc ?_ (by first | omega | (simp; done) | (simp; omega)) _) : Below w.heap.size w _).trans (hb1.mono (by first | omega | (simp; done) | (simp; omega))))
  clear hb1
  go_wp2_with fail
  go_ret
  exact ⟨rfl, by repeat (first | with_reducible exact HBB.out | with_reducible exact Below.refl _ _ | with_reducible refine Below.drew ?_ | with_reducible refine belowN ?_ _ | with_reducible refine Below.setCell ?_ (by first | omega | (simp; done) | (simp; omega)) _ | with_reducible refine Below.alloc ?_ (by first | omega | (simp; done) | (simp; omega)) _)⟩

theorem ord_oR {I J : Int} (h : I ≤ J) : Hid (∀ W : World, Calls Tryz.prog 24 #[realV (oM I) (oE I), .int .i64 (oX I), realV (oM J) (oE J), .int .i64 (oX J)] W fun r w' => r = .returned (.bool true) ∧ Below W.heap.size W w') := Lib.hid (fun W => by
  rcases o_dec I with ⟨x1, i1, i2⟩ | ⟨x1, _, _⟩
  · rcases o_dec J with ⟨y1, j1, j2⟩ | ⟨y1, _, _⟩
    · rw [x1, y1]
      have a := o_in i1 i2
      have b := o_in j1 j2
      refine od_c _ _ 0 _ _ 0 W (by decide) (by decide) (c3 I J) (by unfold c3; split <;> (try split) <;> omega) (Lib.hid fun W => ?_)
      have hc := rcmp_ok (oM I) (oE I) (oM J) (oE J) W (o_vr I) (o_vr J)
      rwa [a.2, b.2] at hc
    · rw [x1, y1]
      exact od_b _ _ 0 _ _ 3 W (by decide) (by decide)
  · rw [x1]
    exact od_a _ _ 3 _ _ _ W (by decide))

theorem ord_err (m e k f y : Int) : Hid (∀ W : World, Calls Tryz.prog 24 #[realV m e, .int .i64 5, realV k f, .int .i64 y] W fun r w' => r = .returned (.bool true) ∧ Below W.heap.size W w') := Lib.hid (fun W => od_a m e 5 k f y W (by decide))

end Go.Proofs.YtoofdihnflnaiaaGreatDoor

namespace Go.Proofs.YtoofdihnflnaiaaGreatDoor.realMonotonic
open Go.RowKit
set_option linter.unusedVariables false

set_option maxRecDepth 100000 in
set_option maxHeartbeats 8000000 in
theorem nn (i j k c xm xe ym ye zm ze am ae ax bm be bx um ue ux vm ve vx rm re rx qm qe qx : Int) (w : World) (HAi : Hid (∀ W : World, Calls Tryz.prog 8 #[.int .i64 i] W fun r w' => r = .returned (realV xm xe) ∧ Below W.heap.size W w')) (HAj : Hid (∀ W : World, Calls Tryz.prog 8 #[.int .i64 j] W fun r w' => r = .returned (realV ym ye) ∧ Below W.heap.size W w')) (HAk : Hid (∀ W : World, Calls Tryz.prog 8 #[.int .i64 k] W fun r w' => r = .returned (realV zm ze) ∧ Below W.heap.size W w')) (HC : Hid (∀ W : World, Calls Tryz.prog 18 #[realV xm xe, realV ym ye] W fun r w' => r = .returned (.tuple #[.int .i64 c, .int .i64 0]) ∧ Below W.heap.size W w')) (HA1 : Hid (∀ W : World, Calls Tryz.prog 11 #[realV xm xe, realV zm ze] W fun r w' => r = .returned (rE am ae ax) ∧ Below W.heap.size W w')) (HA2 : Hid (∀ W : World, Calls Tryz.prog 11 #[realV ym ye, realV zm ze] W fun r w' => r = .returned (rE bm be bx) ∧ Below W.heap.size W w')) (HS1 : Hid (∀ W : World, Calls Tryz.prog 15 #[realV zm ze, realV ym ye] W fun r w' => r = .returned (rE um ue ux) ∧ Below W.heap.size W w')) (HS2 : Hid (∀ W : World, Calls Tryz.prog 15 #[realV zm ze, realV xm xe] W fun r w' => r = .returned (rE vm ve vx) ∧ Below W.heap.size W w')) (HO1 : Hid (∀ W : World, Calls Tryz.prog 24 #[realV am ae, .int .i64 ax, realV bm be, .int .i64 bx] W fun r w' => r = .returned (.bool true) ∧ Below W.heap.size W w')) (HO2 : Hid (∀ W : World, Calls Tryz.prog 24 #[realV um ue, .int .i64 ux, realV vm ve, .int .i64 vx] W fun r w' => r = .returned (.bool true) ∧ Below W.heap.size W w')) (HQ1 : Hid (∀ W : World, Calls Tryz.prog 25 #[realV xm xe] W fun r w' => r = .returned (rE rm re rx) ∧ Below W.heap.size W w')) (HQ2 : Hid (∀ W : World, Calls Tryz.prog 25 #[realV ym ye] W fun r w' => r = .returned (rE qm qe qx) ∧ Below W.heap.size W w')) (HO3 : Hid (∀ W : World, Calls Tryz.prog 24 #[realV rm re, .int .i64 rx, realV qm qe, .int .i64 qx] W fun r w' => r = .returned (.bool true) ∧ Below W.heap.size W w')) (hc : ¬ 0 < c) (hz : zm ≤ 0) (HSan : Hid (∀ W, Below w.heap.size w W → Calls Tryz.prog 19 #[] W fun r W' => r = .returned (.bool true) ∧ Below W.heap.size W W'))  :
    Calls Tryz.prog 6 #[.int .i64 i, .int .i64 j, .int .i64 k] w fun r w' => r = .returned (.bool true) ∧ Below w.heap.size w w' := by
  go_enter Tryz.func6, Tryz.ntmps6
  go_wp2_with fail
  refine (HAi.out _).mono ?_
  rintro e w1 ⟨rfl, hb1⟩
  have HB_1 := Lib.hid ((by repeat (first | exact Below.refl _ _ | refine Below.drew ?_ | refine Below.setCell ?_ (by first | omega | (simp; done) | (simp; omega)) _ | refine Below.alloc ?_ (by first | omega | (simp; done) | (simp; omega)) _) : Below w.heap.size w _).trans (hb1.mono (by first | omega | (simp; done) | (simp; omega))))
  have nz_1 : w.heap.size ≤ w1.heap.size := HB_1.out.size
  clear hb1
  go_wp2_with fail
  refine (HAj.out _).mono ?_
  rintro e w2 ⟨rfl, hb2⟩
  have x0_2 : w2.cell? ⟨w1.heap.size, 0, none⟩ = some (.int .i64 xm) := carry hb2 (by go_simp)
  have x1_2 : w2.cell? ⟨w1.heap.size, 1, none⟩ = some (.int .i64 xe) := carry hb2 (by go_simp)
  have xz_2 : w1.heap.size < w2.heap.size := by have := hb2.size; first | omega | (simp at this; omega)
  have HB_2 := Lib.hid ((by repeat (first | exact HB_1.out | refine Below.drew ?_ | refine Below.setCell ?_ (by first | omega | (simp; done) | (simp; omega)) _ | refine Below.alloc ?_ (by first | omega | (simp; done) | (simp; omega)) _) : Below w.heap.size w _).trans (hb2.mono (by first | omega | (simp; done) | (simp; omega))))
  have nz_2 : w.heap.size ≤ w2.heap.size := HB_2.out.size
  clear hb2 HB_1
  go_wp2_with fail
  refine (HAk.out _).mono ?_
  rintro e w3 ⟨rfl, hb3⟩
  have x0_3 : w3.cell? ⟨w1.heap.size, 0, none⟩ = some (.int .i64 xm) := carry hb3 (by go_simp)
  have x1_3 : w3.cell? ⟨w1.heap.size, 1, none⟩ = some (.int .i64 xe) := carry hb3 (by go_simp)
  have xz_3 : w1.heap.size < w3.heap.size := by have := hb3.size; first | omega | (simp at this; omega)
  have y0_3 : w3.cell? ⟨w2.heap.size, 0, none⟩ = some (.int .i64 ym) := carry hb3 (by go_simp)
  have y1_3 : w3.cell? ⟨w2.heap.size, 1, none⟩ = some (.int .i64 ye) := carry hb3 (by go_simp)
  have yz_3 : w2.heap.size < w3.heap.size := by have := hb3.size; first | omega | (simp at this; omega)
  have HB_3 := Lib.hid ((by repeat (first | exact HB_2.out | refine Below.drew ?_ | refine Below.setCell ?_ (by first | omega | (simp; done) | (simp; omega)) _ | refine Below.alloc ?_ (by first | omega | (simp; done) | (simp; omega)) _) : Below w.heap.size w _).trans (hb3.mono (by first | omega | (simp; done) | (simp; omega))))
  have nz_3 : w.heap.size ≤ w3.heap.size := HB_3.out.size
  clear hb3 x0_2 x1_2 HB_2
  go_wp2_with fail
  refine (HC.out _).mono ?_
  rintro e w4 ⟨rfl, hb4⟩
  have x0_4 : w4.cell? ⟨w1.heap.size, 0, none⟩ = some (.int .i64 xm) := carry hb4 (by go_simp)
  have x1_4 : w4.cell? ⟨w1.heap.size, 1, none⟩ = some (.int .i64 xe) := carry hb4 (by go_simp)
  have xz_4 : w1.heap.size < w4.heap.size := by have := hb4.size; first | omega | (simp at this; omega)
  have y0_4 : w4.cell? ⟨w2.heap.size, 0, none⟩ = some (.int .i64 ym) := carry hb4 (by go_simp)
  have y1_4 : w4.cell? ⟨w2.heap.size, 1, none⟩ = some (.int .i64 ye) := carry hb4 (by go_simp)
  have yz_4 : w2.heap.size < w4.heap.size := by have := hb4.size; first | omega | (simp at this; omega)
  have z0_4 : w4.cell? ⟨w3.heap.size, 0, none⟩ = some (.int .i64 zm) := carry hb4 (by go_simp)
  have z1_4 : w4.cell? ⟨w3.heap.size, 1, none⟩ = some (.int .i64 ze) := carry hb4 (by go_simp)
  have zz_4 : w3.heap.size < w4.heap.size := by have := hb4.size; first | omega | (simp at this; omega)
  have HB_4 := Lib.hid ((by repeat (first | exact HB_3.out | refine Below.drew ?_ | refine Below.setCell ?_ (by first | omega | (simp; done) | (simp; omega)) _ | refine Below.alloc ?_ (by first | omega | (simp; done) | (simp; omega)) _) : Below w.heap.size w _).trans (hb4.mono (by first | omega | (simp; done) | (simp; omega))))
  have nz_4 : w.heap.size ≤ w4.heap.size := HB_4.out.size
  clear hb4 x0_3 x1_3 y0_3 y1_3 HB_3
  go_wp2_with fail
  refine (HA1.out _).mono ?_
  rintro e w5 ⟨rfl, hb5⟩
  have x0_5 : w5.cell? ⟨w1.heap.size, 0, none⟩ = some (.int .i64 xm) := carry hb5 (by go_simp)
  have x1_5 : w5.cell? ⟨w1.heap.size, 1, none⟩ = some (.int .i64 xe) := carry hb5 (by go_simp)
  have xz_5 : w1.heap.size < w5.heap.size := by have := hb5.size; first | omega | (simp at this; omega)
  have y0_5 : w5.cell? ⟨w2.heap.size, 0, none⟩ = some (.int .i64 ym) := carry hb5 (by go_simp)
  have y1_5 : w5.cell? ⟨w2.heap.size, 1, none⟩ = some (.int .i64 ye) := carry hb5 (by go_simp)
  have yz_5 : w2.heap.size < w5.heap.size := by have := hb5.size; first | omega | (simp at this; omega)
  have z0_5 : w5.cell? ⟨w3.heap.size, 0, none⟩ = some (.int .i64 zm) := carry hb5 (by go_simp)
  have z1_5 : w5.cell? ⟨w3.heap.size, 1, none⟩ = some (.int .i64 ze) := carry hb5 (by go_simp)
  have zz_5 : w3.heap.size < w5.heap.size := by have := hb5.size; first | omega | (simp at this; omega)
  have HB_5 := Lib.hid ((by repeat (first | exact HB_4.out | refine Below.drew ?_ | refine Below.setCell ?_ (by first | omega | (simp; done) | (simp; omega)) _ | refine Below.alloc ?_ (by first | omega | (simp; done) | (simp; omega)) _) : Below w.heap.size w _).trans (hb5.mono (by first | omega | (simp; done) | (simp; omega))))
  have nz_5 : w.heap.size ≤ w5.heap.size := HB_5.out.size
  clear hb5 x0_4 x1_4 y0_4 y1_4 z0_4 z1_4 HB_4
  go_wp2_with fail
  refine (HA2.out _).mono ?_
  rintro e w6 ⟨rfl, hb6⟩
  have x0_6 : w6.cell? ⟨w1.heap.size, 0, none⟩ = some (.int .i64 xm) := carry hb6 (by go_simp)
  have x1_6 : w6.cell? ⟨w1.heap.size, 1, none⟩ = some (.int .i64 xe) := carry hb6 (by go_simp)
  have xz_6 : w1.heap.size < w6.heap.size := by have := hb6.size; first | omega | (simp at this; omega)
  have y0_6 : w6.cell? ⟨w2.heap.size, 0, none⟩ = some (.int .i64 ym) := carry hb6 (by go_simp)
  have y1_6 : w6.cell? ⟨w2.heap.size, 1, none⟩ = some (.int .i64 ye) := carry hb6 (by go_simp)
  have yz_6 : w2.heap.size < w6.heap.size := by have := hb6.size; first | omega | (simp at this; omega)
  have z0_6 : w6.cell? ⟨w3.heap.size, 0, none⟩ = some (.int .i64 zm) := carry hb6 (by go_simp)
  have z1_6 : w6.cell? ⟨w3.heap.size, 1, none⟩ = some (.int .i64 ze) := carry hb6 (by go_simp)
  have zz_6 : w3.heap.size < w6.heap.size := by have := hb6.size; first | omega | (simp at this; omega)
  have a0_6 : w6.cell? ⟨w5.heap.size, 0, none⟩ = some (.int .i64 am) := carry hb6 (by go_simp)
  have a1_6 : w6.cell? ⟨w5.heap.size, 1, none⟩ = some (.int .i64 ae) := carry hb6 (by go_simp)
  have az_6 : w5.heap.size < w6.heap.size := by have := hb6.size; first | omega | (simp at this; omega)
  have HB_6 := Lib.hid ((by repeat (first | exact HB_5.out | refine Below.drew ?_ | refine Below.setCell ?_ (by first | omega | (simp; done) | (simp; omega)) _ | refine Below.alloc ?_ (by first | omega | (simp; done) | (simp; omega)) _) : Below w.heap.size w _).trans (hb6.mono (by first | omega | (simp; done) | (simp; omega))))
  have nz_6 : w.heap.size ≤ w6.heap.size := HB_6.out.size
  clear hb6 x0_5 x1_5 y0_5 y1_5 z0_5 z1_5 HB_5
  go_wp2_with fail
  refine (HS1.out _).mono ?_
  rintro e w7 ⟨rfl, hb7⟩
  have x0_7 : w7.cell? ⟨w1.heap.size, 0, none⟩ = some (.int .i64 xm) := carry hb7 (by go_simp)
  have x1_7 : w7.cell? ⟨w1.heap.size, 1, none⟩ = some (.int .i64 xe) := carry hb7 (by go_simp)
  have xz_7 : w1.heap.size < w7.heap.size := by have := hb7.size; first | omega | (simp at this; omega)
  have y0_7 : w7.cell? ⟨w2.heap.size, 0, none⟩ = some (.int .i64 ym) := carry hb7 (by go_simp)
  have y1_7 : w7.cell? ⟨w2.heap.size, 1, none⟩ = some (.int .i64 ye) := carry hb7 (by go_simp)
  have yz_7 : w2.heap.size < w7.heap.size := by have := hb7.size; first | omega | (simp at this; omega)
  have z0_7 : w7.cell? ⟨w3.heap.size, 0, none⟩ = some (.int .i64 zm) := carry hb7 (by go_simp)
  have z1_7 : w7.cell? ⟨w3.heap.size, 1, none⟩ = some (.int .i64 ze) := carry hb7 (by go_simp)
  have zz_7 : w3.heap.size < w7.heap.size := by have := hb7.size; first | omega | (simp at this; omega)
  have a0_7 : w7.cell? ⟨w5.heap.size, 0, none⟩ = some (.int .i64 am) := carry hb7 (by go_simp)
  have a1_7 : w7.cell? ⟨w5.heap.size, 1, none⟩ = some (.int .i64 ae) := carry hb7 (by go_simp)
  have az_7 : w5.heap.size < w7.heap.size := by have := hb7.size; first | omega | (simp at this; omega)
  have b0_7 : w7.cell? ⟨w6.heap.size, 0, none⟩ = some (.int .i64 bm) := carry hb7 (by go_simp)
  have b1_7 : w7.cell? ⟨w6.heap.size, 1, none⟩ = some (.int .i64 be) := carry hb7 (by go_simp)
  have bz_7 : w6.heap.size < w7.heap.size := by have := hb7.size; first | omega | (simp at this; omega)
  have HB_7 := Lib.hid ((by repeat (first | exact HB_6.out | refine Below.drew ?_ | refine Below.setCell ?_ (by first | omega | (simp; done) | (simp; omega)) _ | refine Below.alloc ?_ (by first | omega | (simp; done) | (simp; omega)) _) : Below w.heap.size w _).trans (hb7.mono (by first | omega | (simp; done) | (simp; omega))))
  have nz_7 : w.heap.size ≤ w7.heap.size := HB_7.out.size
  clear hb7 x0_6 x1_6 y0_6 y1_6 z0_6 z1_6 a0_6 a1_6 HB_6
  go_wp2_with fail
  refine (HS2.out _).mono ?_
  rintro e w8 ⟨rfl, hb8⟩
  have x0_8 : w8.cell? ⟨w1.heap.size, 0, none⟩ = some (.int .i64 xm) := carry hb8 (by go_simp)
  have x1_8 : w8.cell? ⟨w1.heap.size, 1, none⟩ = some (.int .i64 xe) := carry hb8 (by go_simp)
  have xz_8 : w1.heap.size < w8.heap.size := by have := hb8.size; first | omega | (simp at this; omega)
  have y0_8 : w8.cell? ⟨w2.heap.size, 0, none⟩ = some (.int .i64 ym) := carry hb8 (by go_simp)
  have y1_8 : w8.cell? ⟨w2.heap.size, 1, none⟩ = some (.int .i64 ye) := carry hb8 (by go_simp)
  have yz_8 : w2.heap.size < w8.heap.size := by have := hb8.size; first | omega | (simp at this; omega)
  have z0_8 : w8.cell? ⟨w3.heap.size, 0, none⟩ = some (.int .i64 zm) := carry hb8 (by go_simp)
  have z1_8 : w8.cell? ⟨w3.heap.size, 1, none⟩ = some (.int .i64 ze) := carry hb8 (by go_simp)
  have zz_8 : w3.heap.size < w8.heap.size := by have := hb8.size; first | omega | (simp at this; omega)
  have a0_8 : w8.cell? ⟨w5.heap.size, 0, none⟩ = some (.int .i64 am) := carry hb8 (by go_simp)
  have a1_8 : w8.cell? ⟨w5.heap.size, 1, none⟩ = some (.int .i64 ae) := carry hb8 (by go_simp)
  have az_8 : w5.heap.size < w8.heap.size := by have := hb8.size; first | omega | (simp at this; omega)
  have b0_8 : w8.cell? ⟨w6.heap.size, 0, none⟩ = some (.int .i64 bm) := carry hb8 (by go_simp)
  have b1_8 : w8.cell? ⟨w6.heap.size, 1, none⟩ = some (.int .i64 be) := carry hb8 (by go_simp)
  have bz_8 : w6.heap.size < w8.heap.size := by have := hb8.size; first | omega | (simp at this; omega)
  have u0_8 : w8.cell? ⟨w7.heap.size, 0, none⟩ = some (.int .i64 um) := carry hb8 (by go_simp)
  have u1_8 : w8.cell? ⟨w7.heap.size, 1, none⟩ = some (.int .i64 ue) := carry hb8 (by go_simp)
  have uz_8 : w7.heap.size < w8.heap.size := by have := hb8.size; first | omega | (simp at this; omega)
  have HB_8 := Lib.hid ((by repeat (first | exact HB_7.out | refine Below.drew ?_ | refine Below.setCell ?_ (by first | omega | (simp; done) | (simp; omega)) _ | refine Below.alloc ?_ (by first | omega | (simp; done) | (simp; omega)) _) : Below w.heap.size w _).trans (hb8.mono (by first | omega | (simp; done) | (simp; omega))))
  have nz_8 : w.heap.size ≤ w8.heap.size := HB_8.out.size
  clear hb8 x0_7 x1_7 y0_7 y1_7 z0_7 z1_7 a0_7 a1_7 b0_7 b1_7 HB_7
  go_wp2_with fail
  refine (HO1.out _).mono ?_
  rintro e w9 ⟨rfl, hb9⟩
  have x0_9 : w9.cell? ⟨w1.heap.size, 0, none⟩ = some (.int .i64 xm) := carry hb9 (by go_simp)
  have x1_9 : w9.cell? ⟨w1.heap.size, 1, none⟩ = some (.int .i64 xe) := carry hb9 (by go_simp)
  have xz_9 : w1.heap.size < w9.heap.size := by have := hb9.size; first | omega | (simp at this; omega)
  have y0_9 : w9.cell? ⟨w2.heap.size, 0, none⟩ = some (.int .i64 ym) := carry hb9 (by go_simp)
  have y1_9 : w9.cell? ⟨w2.heap.size, 1, none⟩ = some (.int .i64 ye) := carry hb9 (by go_simp)
  have yz_9 : w2.heap.size < w9.heap.size := by have := hb9.size; first | omega | (simp at this; omega)
  have z0_9 : w9.cell? ⟨w3.heap.size, 0, none⟩ = some (.int .i64 zm) := carry hb9 (by go_simp)
  have z1_9 : w9.cell? ⟨w3.heap.size, 1, none⟩ = some (.int .i64 ze) := carry hb9 (by go_simp)
  have zz_9 : w3.heap.size < w9.heap.size := by have := hb9.size; first | omega | (simp at this; omega)
  have a0_9 : w9.cell? ⟨w5.heap.size, 0, none⟩ = some (.int .i64 am) := carry hb9 (by go_simp)
  have a1_9 : w9.cell? ⟨w5.heap.size, 1, none⟩ = some (.int .i64 ae) := carry hb9 (by go_simp)
  have az_9 : w5.heap.size < w9.heap.size := by have := hb9.size; first | omega | (simp at this; omega)
  have b0_9 : w9.cell? ⟨w6.heap.size, 0, none⟩ = some (.int .i64 bm) := carry hb9 (by go_simp)
  have b1_9 : w9.cell? ⟨w6.heap.size, 1, none⟩ = some (.int .i64 be) := carry hb9 (by go_simp)
  have bz_9 : w6.heap.size < w9.heap.size := by have := hb9.size; first | omega | (simp at this; omega)
  have u0_9 : w9.cell? ⟨w7.heap.size, 0, none⟩ = some (.int .i64 um) := carry hb9 (by go_simp)
  have u1_9 : w9.cell? ⟨w7.heap.size, 1, none⟩ = some (.int .i64 ue) := carry hb9 (by go_simp)
  have uz_9 : w7.heap.size < w9.heap.size := by have := hb9.size; first | omega | (simp at this; omega)
  have v0_9 : w9.cell? ⟨w8.heap.size, 0, none⟩ = some (.int .i64 vm) := carry hb9 (by go_simp)
  have v1_9 : w9.cell? ⟨w8.heap.size, 1, none⟩ = some (.int .i64 ve) := carry hb9 (by go_simp)
  have vz_9 : w8.heap.size < w9.heap.size := by have := hb9.size; first | omega | (simp at this; omega)
  have HB_9 := Lib.hid ((by repeat (first | exact HB_8.out | refine Below.drew ?_ | refine Below.setCell ?_ (by first | omega | (simp; done) | (simp; omega)) _ | refine Below.alloc ?_ (by first | omega | (simp; done) | (simp; omega)) _) : Below w.heap.size w _).trans (hb9.mono (by first | omega | (simp; done) | (simp; omega))))
  have nz_9 : w.heap.size ≤ w9.heap.size := HB_9.out.size
  clear hb9 x0_8 x1_8 y0_8 y1_8 z0_8 z1_8 a0_8 a1_8 b0_8 b1_8 u0_8 u1_8 HB_8
  go_wp2_with fail
  refine (HO2.out _).mono ?_
  rintro e w10 ⟨rfl, hb10⟩
  have x0_10 : w10.cell? ⟨w1.heap.size, 0, none⟩ = some (.int .i64 xm) := carry hb10 (by go_simp)
  have x1_10 : w10.cell? ⟨w1.heap.size, 1, none⟩ = some (.int .i64 xe) := carry hb10 (by go_simp)
  have xz_10 : w1.heap.size < w10.heap.size := by have := hb10.size; first | omega | (simp at this; omega)
  have y0_10 : w10.cell? ⟨w2.heap.size, 0, none⟩ = some (.int .i64 ym) := carry hb10 (by go_simp)
  have y1_10 : w10.cell? ⟨w2.heap.size, 1, none⟩ = some (.int .i64 ye) := carry hb10 (by go_simp)
  have yz_10 : w2.heap.size < w10.heap.size := by have := hb10.size; first | omega | (simp at this; omega)
  have z0_10 : w10.cell? ⟨w3.heap.size, 0, none⟩ = some (.int .i64 zm) := carry hb10 (by go_simp)
  have z1_10 : w10.cell? ⟨w3.heap.size, 1, none⟩ = some (.int .i64 ze) := carry hb10 (by go_simp)
  have zz_10 : w3.heap.size < w10.heap.size := by have := hb10.size; first | omega | (simp at this; omega)
  have a0_10 : w10.cell? ⟨w5.heap.size, 0, none⟩ = some (.int .i64 am) := carry hb10 (by go_simp)
  have a1_10 : w10.cell? ⟨w5.heap.size, 1, none⟩ = some (.int .i64 ae) := carry hb10 (by go_simp)
  have az_10 : w5.heap.size < w10.heap.size := by have := hb10.size; first | omega | (simp at this; omega)
  have b0_10 : w10.cell? ⟨w6.heap.size, 0, none⟩ = some (.int .i64 bm) := carry hb10 (by go_simp)
  have b1_10 : w10.cell? ⟨w6.heap.size, 1, none⟩ = some (.int .i64 be) := carry hb10 (by go_simp)
  have bz_10 : w6.heap.size < w10.heap.size := by have := hb10.size; first | omega | (simp at this; omega)
  have u0_10 : w10.cell? ⟨w7.heap.size, 0, none⟩ = some (.int .i64 um) := carry hb10 (by go_simp)
  have u1_10 : w10.cell? ⟨w7.heap.size, 1, none⟩ = some (.int .i64 ue) := carry hb10 (by go_simp)
  have uz_10 : w7.heap.size < w10.heap.size := by have := hb10.size; first | omega | (simp at this; omega)
  have v0_10 : w10.cell? ⟨w8.heap.size, 0, none⟩ = some (.int .i64 vm) := carry hb10 (by go_simp)
  have v1_10 : w10.cell? ⟨w8.heap.size, 1, none⟩ = some (.int .i64 ve) := carry hb10 (by go_simp)
  have vz_10 : w8.heap.size < w10.heap.size := by have := hb10.size; first | omega | (simp at this; omega)
  have HB_10 := Lib.hid ((by repeat (first | exact HB_9.out | refine Below.drew ?_ | refine Below.setCell ?_ (by first | omega | (simp; done) | (simp; omega)) _ | refine Below.alloc ?_ (by first | omega | (simp; done) | (simp; omega)) _) : Below w.heap.size w _).trans (hb10.mono (by first | omega | (simp; done) | (simp; omega))))
  have nz_10 : w.heap.size ≤ w10.heap.size := HB_10.out.size
  clear hb10 x0_9 x1_9 y0_9 y1_9 z0_9 z1_9 a0_9 a1_9 b0_9 b1_9 u0_9 u1_9 v0_9 v1_9 HB_9
  go_wp2_with fail
  refine (HQ1.out _).mono ?_
  rintro e w11 ⟨rfl, hb11⟩
  have x0_11 : w11.cell? ⟨w1.heap.size, 0, none⟩ = some (.int .i64 xm) := carry hb11 (by go_simp)
  have x1_11 : w11.cell? ⟨w1.heap.size, 1, none⟩ = some (.int .i64 xe) := carry hb11 (by go_simp)
  have xz_11 : w1.heap.size < w11.heap.size := by have := hb11.size; first | omega | (simp at this; omega)
  have y0_11 : w11.cell? ⟨w2.heap.size, 0, none⟩ = some (.int .i64 ym) := carry hb11 (by go_simp)
  have y1_11 : w11.cell? ⟨w2.heap.size, 1, none⟩ = some (.int .i64 ye) := carry hb11 (by go_simp)
  have yz_11 : w2.heap.size < w11.heap.size := by have := hb11.size; first | omega | (simp at this; omega)
  have z0_11 : w11.cell? ⟨w3.heap.size, 0, none⟩ = some (.int .i64 zm) := carry hb11 (by go_simp)
  have z1_11 : w11.cell? ⟨w3.heap.size, 1, none⟩ = some (.int .i64 ze) := carry hb11 (by go_simp)
  have zz_11 : w3.heap.size < w11.heap.size := by have := hb11.size; first | omega | (simp at this; omega)
  have HB_11 := Lib.hid ((by repeat (first | exact HB_10.out | refine Below.drew ?_ | refine Below.setCell ?_ (by first | omega | (simp; done) | (simp; omega)) _ | refine Below.alloc ?_ (by first | omega | (simp; done) | (simp; omega)) _) : Below w.heap.size w _).trans (hb11.mono (by first | omega | (simp; done) | (simp; omega))))
  have nz_11 : w.heap.size ≤ w11.heap.size := HB_11.out.size
  clear hb11 x0_10 x1_10 y0_10 y1_10 z0_10 z1_10 a0_10 a1_10 b0_10 b1_10 u0_10 u1_10 v0_10 v1_10 HB_10
  go_wp2_with fail
  refine (HQ2.out _).mono ?_
  rintro e w12 ⟨rfl, hb12⟩
  have y0_12 : w12.cell? ⟨w2.heap.size, 0, none⟩ = some (.int .i64 ym) := carry hb12 (by go_simp)
  have y1_12 : w12.cell? ⟨w2.heap.size, 1, none⟩ = some (.int .i64 ye) := carry hb12 (by go_simp)
  have yz_12 : w2.heap.size < w12.heap.size := by have := hb12.size; first | omega | (simp at this; omega)
  have z0_12 : w12.cell? ⟨w3.heap.size, 0, none⟩ = some (.int .i64 zm) := carry hb12 (by go_simp)
  have z1_12 : w12.cell? ⟨w3.heap.size, 1, none⟩ = some (.int .i64 ze) := carry hb12 (by go_simp)
  have zz_12 : w3.heap.size < w12.heap.size := by have := hb12.size; first | omega | (simp at this; omega)
  have r0_12 : w12.cell? ⟨w11.heap.size, 0, none⟩ = some (.int .i64 rm) := carry hb12 (by go_simp)
  have r1_12 : w12.cell? ⟨w11.heap.size, 1, none⟩ = some (.int .i64 re) := carry hb12 (by go_simp)
  have rz_12 : w11.heap.size < w12.heap.size := by have := hb12.size; first | omega | (simp at this; omega)
  have HB_12 := Lib.hid ((by repeat (first | exact HB_11.out | refine Below.drew ?_ | refine Below.setCell ?_ (by first | omega | (simp; done) | (simp; omega)) _ | refine Below.alloc ?_ (by first | omega | (simp; done) | (simp; omega)) _) : Below w.heap.size w _).trans (hb12.mono (by first | omega | (simp; done) | (simp; omega))))
  have nz_12 : w.heap.size ≤ w12.heap.size := HB_12.out.size
  clear hb12 x0_11 x1_11 y0_11 y1_11 z0_11 z1_11 HB_11
  go_wp2_with fail
  refine (HO3.out _).mono ?_
  rintro e w13 ⟨rfl, hb13⟩
  have z0_13 : w13.cell? ⟨w3.heap.size, 0, none⟩ = some (.int .i64 zm) := carry hb13 (by go_simp)
  have z1_13 : w13.cell? ⟨w3.heap.size, 1, none⟩ = some (.int .i64 ze) := carry hb13 (by go_simp)
  have zz_13 : w3.heap.size < w13.heap.size := by have := hb13.size; first | omega | (simp at this; omega)
  have r0_13 : w13.cell? ⟨w11.heap.size, 0, none⟩ = some (.int .i64 rm) := carry hb13 (by go_simp)
  have r1_13 : w13.cell? ⟨w11.heap.size, 1, none⟩ = some (.int .i64 re) := carry hb13 (by go_simp)
  have rz_13 : w11.heap.size < w13.heap.size := by have := hb13.size; first | omega | (simp at this; omega)
  have q0_13 : w13.cell? ⟨w12.heap.size, 0, none⟩ = some (.int .i64 qm) := carry hb13 (by go_simp)
  have q1_13 : w13.cell? ⟨w12.heap.size, 1, none⟩ = some (.int .i64 qe) := carry hb13 (by go_simp)
  have qz_13 : w12.heap.size < w13.heap.size := by have := hb13.size; first | omega | (simp at this; omega)
  have HB_13 := Lib.hid ((by repeat (first | exact HB_12.out | refine Below.drew ?_ | refine Below.setCell ?_ (by first | omega | (simp; done) | (simp; omega)) _ | refine Below.alloc ?_ (by first | omega | (simp; done) | (simp; omega)) _) : Below w.heap.size w _).trans (hb13.mono (by first | omega | (simp; done) | (simp; omega))))
  have nz_13 : w.heap.size ≤ w13.heap.size := HB_13.out.size
  clear hb13 y0_12 y1_12 z0_12 z1_12 r0_12 r1_12 HB_12
  go_wp2_with fail
  refine (HSan.out _ (by repeat (first | exact HB_13.out | refine Below.drew ?_ | refine Below.setCell ?_ (by first | omega | (simp; done) | (simp; omega)) _ | refine Below.alloc ?_ (by first | omega | (simp; done) | (simp; omega)) _))).mono ?_
  rintro e w14 ⟨rfl, hb14⟩
  have HB_14 := Lib.hid ((by repeat (first | exact HB_13.out | refine Below.drew ?_ | refine Below.setCell ?_ (by first | omega | (simp; done) | (simp; omega)) _ | refine Below.alloc ?_ (by first | omega | (simp; done) | (simp; omega)) _) : Below w.heap.size w _).trans (hb14.mono (by first | omega | (simp; done) | (simp; omega))))
  have nz_14 : w.heap.size ≤ w14.heap.size := HB_14.out.size
  clear hb14 z0_13 z1_13 r0_13 r1_13 q0_13 q1_13 HB_13
  go_wp2_with fail
  go_ret
  exact ⟨rfl, by repeat (first | exact HB_14.out | refine Below.drew ?_ | refine Below.setCell ?_ (by first | omega | (simp; done) | (simp; omega)) _ | refine Below.alloc ?_ (by first | omega | (simp; done) | (simp; omega)) _)⟩

set_option maxRecDepth 100000 in
set_option maxHeartbeats 8000000 in
theorem np (i j k c xm xe ym ye zm ze am ae ax bm be bx um ue ux vm ve vx rm re rx qm qe qx cm ce cx dm de dx gm ge gx hm he hx : Int) (w : World) (HAi : Hid (∀ W : World, Calls Tryz.prog 8 #[.int .i64 i] W fun r w' => r = .returned (realV xm xe) ∧ Below W.heap.size W w')) (HAj : Hid (∀ W : World, Calls Tryz.prog 8 #[.int .i64 j] W fun r w' => r = .returned (realV ym ye) ∧ Below W.heap.size W w')) (HAk : Hid (∀ W : World, Calls Tryz.prog 8 #[.int .i64 k] W fun r w' => r = .returned (realV zm ze) ∧ Below W.heap.size W w')) (HC : Hid (∀ W : World, Calls Tryz.prog 18 #[realV xm xe, realV ym ye] W fun r w' => r = .returned (.tuple #[.int .i64 c, .int .i64 0]) ∧ Below W.heap.size W w')) (HA1 : Hid (∀ W : World, Calls Tryz.prog 11 #[realV xm xe, realV zm ze] W fun r w' => r = .returned (rE am ae ax) ∧ Below W.heap.size W w')) (HA2 : Hid (∀ W : World, Calls Tryz.prog 11 #[realV ym ye, realV zm ze] W fun r w' => r = .returned (rE bm be bx) ∧ Below W.heap.size W w')) (HS1 : Hid (∀ W : World, Calls Tryz.prog 15 #[realV zm ze, realV ym ye] W fun r w' => r = .returned (rE um ue ux) ∧ Below W.heap.size W w')) (HS2 : Hid (∀ W : World, Calls Tryz.prog 15 #[realV zm ze, realV xm xe] W fun r w' => r = .returned (rE vm ve vx) ∧ Below W.heap.size W w')) (HO1 : Hid (∀ W : World, Calls Tryz.prog 24 #[realV am ae, .int .i64 ax, realV bm be, .int .i64 bx] W fun r w' => r = .returned (.bool true) ∧ Below W.heap.size W w')) (HO2 : Hid (∀ W : World, Calls Tryz.prog 24 #[realV um ue, .int .i64 ux, realV vm ve, .int .i64 vx] W fun r w' => r = .returned (.bool true) ∧ Below W.heap.size W w')) (HQ1 : Hid (∀ W : World, Calls Tryz.prog 25 #[realV xm xe] W fun r w' => r = .returned (rE rm re rx) ∧ Below W.heap.size W w')) (HQ2 : Hid (∀ W : World, Calls Tryz.prog 25 #[realV ym ye] W fun r w' => r = .returned (rE qm qe qx) ∧ Below W.heap.size W w')) (HO3 : Hid (∀ W : World, Calls Tryz.prog 24 #[realV rm re, .int .i64 rx, realV qm qe, .int .i64 qx] W fun r w' => r = .returned (.bool true) ∧ Below W.heap.size W w')) (hc : ¬ 0 < c) (hz : ¬ zm ≤ 0) (HM1 : Hid (∀ W : World, Calls Tryz.prog 13 #[realV xm xe, realV zm ze] W fun r w' => r = .returned (rE cm ce cx) ∧ Below W.heap.size W w')) (HM2 : Hid (∀ W : World, Calls Tryz.prog 13 #[realV ym ye, realV zm ze] W fun r w' => r = .returned (rE dm de dx) ∧ Below W.heap.size W w')) (HD1 : Hid (∀ W : World, Calls Tryz.prog 14 #[realV xm xe, realV zm ze] W fun r w' => r = .returned (rE gm ge gx) ∧ Below W.heap.size W w')) (HD2 : Hid (∀ W : World, Calls Tryz.prog 14 #[realV ym ye, realV zm ze] W fun r w' => r = .returned (rE hm he hx) ∧ Below W.heap.size W w')) (HO4 : Hid (∀ W : World, Calls Tryz.prog 24 #[realV cm ce, .int .i64 cx, realV dm de, .int .i64 dx] W fun r w' => r = .returned (.bool true) ∧ Below W.heap.size W w')) (HO5 : Hid (∀ W : World, Calls Tryz.prog 24 #[realV gm ge, .int .i64 gx, realV hm he, .int .i64 hx] W fun r w' => r = .returned (.bool true) ∧ Below W.heap.size W w')) (HSan : Hid (∀ W, Below w.heap.size w W → Calls Tryz.prog 19 #[] W fun r W' => r = .returned (.bool true) ∧ Below W.heap.size W W'))  :
    Calls Tryz.prog 6 #[.int .i64 i, .int .i64 j, .int .i64 k] w fun r w' => r = .returned (.bool true) ∧ Below w.heap.size w w' := by
  go_enter Tryz.func6, Tryz.ntmps6
  go_wp2_with fail
  refine (HAi.out _).mono ?_
  rintro e w1 ⟨rfl, hb1⟩
  have HB_1 := Lib.hid ((by repeat (first | exact Below.refl _ _ | refine Below.drew ?_ | refine Below.setCell ?_ (by first | omega | (simp; done) | (simp; omega)) _ | refine Below.alloc ?_ (by first | omega | (simp; done) | (simp; omega)) _) : Below w.heap.size w _).trans (hb1.mono (by first | omega | (simp; done) | (simp; omega))))
  have nz_1 : w.heap.size ≤ w1.heap.size := HB_1.out.size
  clear hb1
  go_wp2_with fail
  refine (HAj.out _).mono ?_
  rintro e w2 ⟨rfl, hb2⟩
  have x0_2 : w2.cell? ⟨w1.heap.size, 0, none⟩ = some (.int .i64 xm) := carry hb2 (by go_simp)
  have x1_2 : w2.cell? ⟨w1.heap.size, 1, none⟩ = some (.int .i64 xe) := carry hb2 (by go_simp)
  have xz_2 : w1.heap.size < w2.heap.size := by have := hb2.size; first | omega | (simp at this; omega)
  have HB_2 := Lib.hid ((by repeat (first | exact HB_1.out | refine Below.drew ?_ | refine Below.setCell ?_ (by first | omega | (simp; done) | (simp; omega)) _ | refine Below.alloc ?_ (by first | omega | (simp; done) | (simp; omega)) _) : Below w.heap.size w _).trans (hb2.mono (by first | omega | (simp; done) | (simp; omega))))
  have nz_2 : w.heap.size ≤ w2.heap.size := HB_2.out.size
  clear hb2 HB_1
  go_wp2_with fail
  refine (HAk.out _).mono ?_
  rintro e w3 ⟨rfl, hb3⟩
  have x0_3 : w3.cell? ⟨w1.heap.size, 0, none⟩ = some (.int .i64 xm) := carry hb3 (by go_simp)
  have x1_3 : w3.cell? ⟨w1.heap.size, 1, none⟩ = some (.int .i64 xe) := carry hb3 (by go_simp)
  have xz_3 : w1.heap.size < w3.heap.size := by have := hb3.size; first | omega | (simp at this; omega)
  have y0_3 : w3.cell? ⟨w2.heap.size, 0, none⟩ = some (.int .i64 ym) := carry hb3 (by go_simp)
  have y1_3 : w3.cell? ⟨w2.heap.size, 1, none⟩ = some (.int .i64 ye) := carry hb3 (by go_simp)
  have yz_3 : w2.heap.size < w3.heap.size := by have := hb3.size; first | omega | (simp at this; omega)
  have HB_3 := Lib.hid ((by repeat (first | exact HB_2.out | refine Below.drew ?_ | refine Below.setCell ?_ (by first | omega | (simp; done) | (simp; omega)) _ | refine Below.alloc ?_ (by first | omega | (simp; done) | (simp; omega)) _) : Below w.heap.size w _).trans (hb3.mono (by first | omega | (simp; done) | (simp; omega))))
  have nz_3 : w.heap.size ≤ w3.heap.size := HB_3.out.size
  clear hb3 x0_2 x1_2 HB_2
  go_wp2_with fail
  refine (HC.out _).mono ?_
  rintro e w4 ⟨rfl, hb4⟩
  have x0_4 : w4.cell? ⟨w1.heap.size, 0, none⟩ = some (.int .i64 xm) := carry hb4 (by go_simp)
  have x1_4 : w4.cell? ⟨w1.heap.size, 1, none⟩ = some (.int .i64 xe) := carry hb4 (by go_simp)
  have xz_4 : w1.heap.size < w4.heap.size := by have := hb4.size; first | omega | (simp at this; omega)
  have y0_4 : w4.cell? ⟨w2.heap.size, 0, none⟩ = some (.int .i64 ym) := carry hb4 (by go_simp)
  have y1_4 : w4.cell? ⟨w2.heap.size, 1, none⟩ = some (.int .i64 ye) := carry hb4 (by go_simp)
  have yz_4 : w2.heap.size < w4.heap.size := by have := hb4.size; first | omega | (simp at this; omega)
  have z0_4 : w4.cell? ⟨w3.heap.size, 0, none⟩ = some (.int .i64 zm) := carry hb4 (by go_simp)
  have z1_4 : w4.cell? ⟨w3.heap.size, 1, none⟩ = some (.int .i64 ze) := carry hb4 (by go_simp)
  have zz_4 : w3.heap.size < w4.heap.size := by have := hb4.size; first | omega | (simp at this; omega)
  have HB_4 := Lib.hid ((by repeat (first | exact HB_3.out | refine Below.drew ?_ | refine Below.setCell ?_ (by first | omega | (simp; done) | (simp; omega)) _ | refine Below.alloc ?_ (by first | omega | (simp; done) | (simp; omega)) _) : Below w.heap.size w _).trans (hb4.mono (by first | omega | (simp; done) | (simp; omega))))
  have nz_4 : w.heap.size ≤ w4.heap.size := HB_4.out.size
  clear hb4 x0_3 x1_3 y0_3 y1_3 HB_3
  go_wp2_with fail
  refine (HA1.out _).mono ?_
  rintro e w5 ⟨rfl, hb5⟩
  have x0_5 : w5.cell? ⟨w1.heap.size, 0, none⟩ = some (.int .i64 xm) := carry hb5 (by go_simp)
  have x1_5 : w5.cell? ⟨w1.heap.size, 1, none⟩ = some (.int .i64 xe) := carry hb5 (by go_simp)
  have xz_5 : w1.heap.size < w5.heap.size := by have := hb5.size; first | omega | (simp at this; omega)
  have y0_5 : w5.cell? ⟨w2.heap.size, 0, none⟩ = some (.int .i64 ym) := carry hb5 (by go_simp)
  have y1_5 : w5.cell? ⟨w2.heap.size, 1, none⟩ = some (.int .i64 ye) := carry hb5 (by go_simp)
  have yz_5 : w2.heap.size < w5.heap.size := by have := hb5.size; first | omega | (simp at this; omega)
  have z0_5 : w5.cell? ⟨w3.heap.size, 0, none⟩ = some (.int .i64 zm) := carry hb5 (by go_simp)
  have z1_5 : w5.cell? ⟨w3.heap.size, 1, none⟩ = some (.int .i64 ze) := carry hb5 (by go_simp)
  have zz_5 : w3.heap.size < w5.heap.size := by have := hb5.size; first | omega | (simp at this; omega)
  have HB_5 := Lib.hid ((by repeat (first | exact HB_4.out | refine Below.drew ?_ | refine Below.setCell ?_ (by first | omega | (simp; done) | (simp; omega)) _ | refine Below.alloc ?_ (by first | omega | (simp; done) | (simp; omega)) _) : Below w.heap.size w _).trans (hb5.mono (by first | omega | (simp; done) | (simp; omega))))
  have nz_5 : w.heap.size ≤ w5.heap.size := HB_5.out.size
  clear hb5 x0_4 x1_4 y0_4 y1_4 z0_4 z1_4 HB_4
  go_wp2_with fail
  refine (HA2.out _).mono ?_
  rintro e w6 ⟨rfl, hb6⟩
  have x0_6 : w6.cell? ⟨w1.heap.size, 0, none⟩ = some (.int .i64 xm) := carry hb6 (by go_simp)
  have x1_6 : w6.cell? ⟨w1.heap.size, 1, none⟩ = some (.int .i64 xe) := carry hb6 (by go_simp)
  have xz_6 : w1.heap.size < w6.heap.size := by have := hb6.size; first | omega | (simp at this; omega)
  have y0_6 : w6.cell? ⟨w2.heap.size, 0, none⟩ = some (.int .i64 ym) := carry hb6 (by go_simp)
  have y1_6 : w6.cell? ⟨w2.heap.size, 1, none⟩ = some (.int .i64 ye) := carry hb6 (by go_simp)
  have yz_6 : w2.heap.size < w6.heap.size := by have := hb6.size; first | omega | (simp at this; omega)
  have z0_6 : w6.cell? ⟨w3.heap.size, 0, none⟩ = some (.int .i64 zm) := carry hb6 (by go_simp)
  have z1_6 : w6.cell? ⟨w3.heap.size, 1, none⟩ = some (.int .i64 ze) := carry hb6 (by go_simp)
  have zz_6 : w3.heap.size < w6.heap.size := by have := hb6.size; first | omega | (simp at this; omega)
  have a0_6 : w6.cell? ⟨w5.heap.size, 0, none⟩ = some (.int .i64 am) := carry hb6 (by go_simp)
  have af0_6 : w6.frozen? ⟨w5.heap.size, 0, none⟩ = false := carryF hb6 (v := .int .i64 am) (by go_simp) (by go_simp)
  have a1_6 : w6.cell? ⟨w5.heap.size, 1, none⟩ = some (.int .i64 ae) := carry hb6 (by go_simp)
  have af1_6 : w6.frozen? ⟨w5.heap.size, 1, none⟩ = false := carryF hb6 (v := .int .i64 ae) (by go_simp) (by go_simp)
  have az_6 : w5.heap.size < w6.heap.size := by have := hb6.size; first | omega | (simp at this; omega)
  have HB_6 := Lib.hid ((by repeat (first | exact HB_5.out | refine Below.drew ?_ | refine Below.setCell ?_ (by first | omega | (simp; done) | (simp; omega)) _ | refine Below.alloc ?_ (by first | omega | (simp; done) | (simp; omega)) _) : Below w.heap.size w _).trans (hb6.mono (by first | omega | (simp; done) | (simp; omega))))
  have nz_6 : w.heap.size ≤ w6.heap.size := HB_6.out.size
  clear hb6 x0_5 x1_5 y0_5 y1_5 z0_5 z1_5 HB_5
  go_wp2_with fail
  refine (HS1.out _).mono ?_
  rintro e w7 ⟨rfl, hb7⟩
  have x0_7 : w7.cell? ⟨w1.heap.size, 0, none⟩ = some (.int .i64 xm) := carry hb7 (by go_simp)
  have x1_7 : w7.cell? ⟨w1.heap.size, 1, none⟩ = some (.int .i64 xe) := carry hb7 (by go_simp)
  have xz_7 : w1.heap.size < w7.heap.size := by have := hb7.size; first | omega | (simp at this; omega)
  have y0_7 : w7.cell? ⟨w2.heap.size, 0, none⟩ = some (.int .i64 ym) := carry hb7 (by go_simp)
  have y1_7 : w7.cell? ⟨w2.heap.size, 1, none⟩ = some (.int .i64 ye) := carry hb7 (by go_simp)
  have yz_7 : w2.heap.size < w7.heap.size := by have := hb7.size; first | omega | (simp at this; omega)
  have z0_7 : w7.cell? ⟨w3.heap.size, 0, none⟩ = some (.int .i64 zm) := carry hb7 (by go_simp)
  have z1_7 : w7.cell? ⟨w3.heap.size, 1, none⟩ = some (.int .i64 ze) := carry hb7 (by go_simp)
  have zz_7 : w3.heap.size < w7.heap.size := by have := hb7.size; first | omega | (simp at this; omega)
  have a0_7 : w7.cell? ⟨w5.heap.size, 0, none⟩ = some (.int .i64 am) := carry hb7 (by go_simp)
  have af0_7 : w7.frozen? ⟨w5.heap.size, 0, none⟩ = false := carryF hb7 (v := .int .i64 am) (by go_simp) (by go_simp)
  have a1_7 : w7.cell? ⟨w5.heap.size, 1, none⟩ = some (.int .i64 ae) := carry hb7 (by go_simp)
  have af1_7 : w7.frozen? ⟨w5.heap.size, 1, none⟩ = false := carryF hb7 (v := .int .i64 ae) (by go_simp) (by go_simp)
  have az_7 : w5.heap.size < w7.heap.size := by have := hb7.size; first | omega | (simp at this; omega)
  have b0_7 : w7.cell? ⟨w6.heap.size, 0, none⟩ = some (.int .i64 bm) := carry hb7 (by go_simp)
  have bf0_7 : w7.frozen? ⟨w6.heap.size, 0, none⟩ = false := carryF hb7 (v := .int .i64 bm) (by go_simp) (by go_simp)
  have b1_7 : w7.cell? ⟨w6.heap.size, 1, none⟩ = some (.int .i64 be) := carry hb7 (by go_simp)
  have bf1_7 : w7.frozen? ⟨w6.heap.size, 1, none⟩ = false := carryF hb7 (v := .int .i64 be) (by go_simp) (by go_simp)
  have bz_7 : w6.heap.size < w7.heap.size := by have := hb7.size; first | omega | (simp at this; omega)
  have HB_7 := Lib.hid ((by repeat (first | exact HB_6.out | refine Below.drew ?_ | refine Below.setCell ?_ (by first | omega | (simp; done) | (simp; omega)) _ | refine Below.alloc ?_ (by first | omega | (simp; done) | (simp; omega)) _) : Below w.heap.size w _).trans (hb7.mono (by first | omega | (simp; done) | (simp; omega))))
  have nz_7 : w.heap.size ≤ w7.heap.size := HB_7.out.size
  clear hb7 x0_6 x1_6 y0_6 y1_6 z0_6 z1_6 a0_6 af0_6 a1_6 af1_6 HB_6
  go_wp2_with fail
  refine (HS2.out _).mono ?_
  rintro e w8 ⟨rfl, hb8⟩
  have x0_8 : w8.cell? ⟨w1.heap.size, 0, none⟩ = some (.int .i64 xm) := carry hb8 (by go_simp)
  have x1_8 : w8.cell? ⟨w1.heap.size, 1, none⟩ = some (.int .i64 xe) := carry hb8 (by go_simp)
  have xz_8 : w1.heap.size < w8.heap.size := by have := hb8.size; first | omega | (simp at this; omega)
  have y0_8 : w8.cell? ⟨w2.heap.size, 0, none⟩ = some (.int .i64 ym) := carry hb8 (by go_simp)
  have y1_8 : w8.cell? ⟨w2.heap.size, 1, none⟩ = some (.int .i64 ye) := carry hb8 (by go_simp)
  have yz_8 : w2.heap.size < w8.heap.size := by have := hb8.size; first | omega | (simp at this; omega)
  have z0_8 : w8.cell? ⟨w3.heap.size, 0, none⟩ = some (.int .i64 zm) := carry hb8 (by go_simp)
  have z1_8 : w8.cell? ⟨w3.heap.size, 1, none⟩ = some (.int .i64 ze) := carry hb8 (by go_simp)
  have zz_8 : w3.heap.size < w8.heap.size := by have := hb8.size; first | omega | (simp at this; omega)
  have a0_8 : w8.cell? ⟨w5.heap.size, 0, none⟩ = some (.int .i64 am) := carry hb8 (by go_simp)
  have af0_8 : w8.frozen? ⟨w5.heap.size, 0, none⟩ = false := carryF hb8 (v := .int .i64 am) (by go_simp) (by go_simp)
  have a1_8 : w8.cell? ⟨w5.heap.size, 1, none⟩ = some (.int .i64 ae) := carry hb8 (by go_simp)
  have af1_8 : w8.frozen? ⟨w5.heap.size, 1, none⟩ = false := carryF hb8 (v := .int .i64 ae) (by go_simp) (by go_simp)
  have az_8 : w5.heap.size < w8.heap.size := by have := hb8.size; first | omega | (simp at this; omega)
  have b0_8 : w8.cell? ⟨w6.heap.size, 0, none⟩ = some (.int .i64 bm) := carry hb8 (by go_simp)
  have bf0_8 : w8.frozen? ⟨w6.heap.size, 0, none⟩ = false := carryF hb8 (v := .int .i64 bm) (by go_simp) (by go_simp)
  have b1_8 : w8.cell? ⟨w6.heap.size, 1, none⟩ = some (.int .i64 be) := carry hb8 (by go_simp)
  have bf1_8 : w8.frozen? ⟨w6.heap.size, 1, none⟩ = false := carryF hb8 (v := .int .i64 be) (by go_simp) (by go_simp)
  have bz_8 : w6.heap.size < w8.heap.size := by have := hb8.size; first | omega | (simp at this; omega)
  have u0_8 : w8.cell? ⟨w7.heap.size, 0, none⟩ = some (.int .i64 um) := carry hb8 (by go_simp)
  have uf0_8 : w8.frozen? ⟨w7.heap.size, 0, none⟩ = false := carryF hb8 (v := .int .i64 um) (by go_simp) (by go_simp)
  have u1_8 : w8.cell? ⟨w7.heap.size, 1, none⟩ = some (.int .i64 ue) := carry hb8 (by go_simp)
  have uf1_8 : w8.frozen? ⟨w7.heap.size, 1, none⟩ = false := carryF hb8 (v := .int .i64 ue) (by go_simp) (by go_simp)
  have uz_8 : w7.heap.size < w8.heap.size := by have := hb8.size; first | omega | (simp at this; omega)
  have HB_8 := Lib.hid ((by repeat (first | exact HB_7.out | refine Below.drew ?_ | refine Below.setCell ?_ (by first | omega | (simp; done) | (simp; omega)) _ | refine Below.alloc ?_ (by first | omega | (simp; done) | (simp; omega)) _) : Below w.heap.size w _).trans (hb8.mono (by first | omega | (simp; done) | (simp; omega))))
  have nz_8 : w.heap.size ≤ w8.heap.size := HB_8.out.size
  clear hb8 x0_7 x1_7 y0_7 y1_7 z0_7 z1_7 a0_7 af0_7 a1_7 af1_7 b0_7 bf0_7 b1_7 bf1_7 HB_7
  go_wp2_with fail
  refine (HO1.out _).mono ?_
  rintro e w9 ⟨rfl, hb9⟩
  have x0_9 : w9.cell? ⟨w1.heap.size, 0, none⟩ = some (.int .i64 xm) := carry hb9 (by go_simp)
  have x1_9 : w9.cell? ⟨w1.heap.size, 1, none⟩ = some (.int .i64 xe) := carry hb9 (by go_simp)
  have xz_9 : w1.heap.size < w9.heap.size := by have := hb9.size; first | omega | (simp at this; omega)
  have y0_9 : w9.cell? ⟨w2.heap.size, 0, none⟩ = some (.int .i64 ym) := carry hb9 (by go_simp)
  have y1_9 : w9.cell? ⟨w2.heap.size, 1, none⟩ = some (.int .i64 ye) := carry hb9 (by go_simp)
  have yz_9 : w2.heap.size < w9.heap.size := by have := hb9.size; first | omega | (simp at this; omega)
  have z0_9 : w9.cell? ⟨w3.heap.size, 0, none⟩ = some (.int .i64 zm) := carry hb9 (by go_simp)
  have z1_9 : w9.cell? ⟨w3.heap.size, 1, none⟩ = some (.int .i64 ze) := carry hb9 (by go_simp)
  have zz_9 : w3.heap.size < w9.heap.size := by have := hb9.size; first | omega | (simp at this; omega)
  have a0_9 : w9.cell? ⟨w5.heap.size, 0, none⟩ = some (.int .i64 am) := carry hb9 (by go_simp)
  have af0_9 : w9.frozen? ⟨w5.heap.size, 0, none⟩ = false := carryF hb9 (v := .int .i64 am) (by go_simp) (by go_simp)
  have a1_9 : w9.cell? ⟨w5.heap.size, 1, none⟩ = some (.int .i64 ae) := carry hb9 (by go_simp)
  have af1_9 : w9.frozen? ⟨w5.heap.size, 1, none⟩ = false := carryF hb9 (v := .int .i64 ae) (by go_simp) (by go_simp)
  have az_9 : w5.heap.size < w9.heap.size := by have := hb9.size; first | omega | (simp at this; omega)
  have b0_9 : w9.cell? ⟨w6.heap.size, 0, none⟩ = some (.int .i64 bm) := carry hb9 (by go_simp)
  have bf0_9 : w9.frozen? ⟨w6.heap.size, 0, none⟩ = false := carryF hb9 (v := .int .i64 bm) (by go_simp) (by go_simp)
  have b1_9 : w9.cell? ⟨w6.heap.size, 1, none⟩ = some (.int .i64 be) := carry hb9 (by go_simp)
  have bf1_9 : w9.frozen? ⟨w6.heap.size, 1, none⟩ = false := carryF hb9 (v := .int .i64 be) (by go_simp) (by go_simp)
  have bz_9 : w6.heap.size < w9.heap.size := by have := hb9.size; first | omega | (simp at this; omega)
  have u0_9 : w9.cell? ⟨w7.heap.size, 0, none⟩ = some (.int .i64 um) := carry hb9 (by go_simp)
  have uf0_9 : w9.frozen? ⟨w7.heap.size, 0, none⟩ = false := carryF hb9 (v := .int .i64 um) (by go_simp) (by go_simp)
  have u1_9 : w9.cell? ⟨w7.heap.size, 1, none⟩ = some (.int .i64 ue) := carry hb9 (by go_simp)
  have uf1_9 : w9.frozen? ⟨w7.heap.size, 1, none⟩ = false := carryF hb9 (v := .int .i64 ue) (by go_simp) (by go_simp)
  have uz_9 : w7.heap.size < w9.heap.size := by have := hb9.size; first | omega | (simp at this; omega)
  have v0_9 : w9.cell? ⟨w8.heap.size, 0, none⟩ = some (.int .i64 vm) := carry hb9 (by go_simp)
  have vf0_9 : w9.frozen? ⟨w8.heap.size, 0, none⟩ = false := carryF hb9 (v := .int .i64 vm) (by go_simp) (by go_simp)
  have v1_9 : w9.cell? ⟨w8.heap.size, 1, none⟩ = some (.int .i64 ve) := carry hb9 (by go_simp)
  have vf1_9 : w9.frozen? ⟨w8.heap.size, 1, none⟩ = false := carryF hb9 (v := .int .i64 ve) (by go_simp) (by go_simp)
  have vz_9 : w8.heap.size < w9.heap.size := by have := hb9.size; first | omega | (simp at this; omega)
  have HB_9 := Lib.hid ((by repeat (first | exact HB_8.out | refine Below.drew ?_ | refine Below.setCell ?_ (by first | omega | (simp; done) | (simp; omega)) _ | refine Below.alloc ?_ (by first | omega | (simp; done) | (simp; omega)) _) : Below w.heap.size w _).trans (hb9.mono (by first | omega | (simp; done) | (simp; omega))))
  have nz_9 : w.heap.size ≤ w9.heap.size := HB_9.out.size
  clear hb9 x0_8 x1_8 y0_8 y1_8 z0_8 z1_8 a0_8 af0_8 a1_8 af1_8 b0_8 bf0_8 b1_8 bf1_8 u0_8 uf0_8 u1_8 uf1_8 HB_8
  go_wp2_with fail
  refine (HO2.out _).mono ?_
  rintro e w10 ⟨rfl, hb10⟩
  have x0_10 : w10.cell? ⟨w1.heap.size, 0, none⟩ = some (.int .i64 xm) := carry hb10 (by go_simp)
  have x1_10 : w10.cell? ⟨w1.heap.size, 1, none⟩ = some (.int .i64 xe) := carry hb10 (by go_simp)
  have xz_10 : w1.heap.size < w10.heap.size := by have := hb10.size; first | omega | (simp at this; omega)
  have y0_10 : w10.cell? ⟨w2.heap.size, 0, none⟩ = some (.int .i64 ym) := carry hb10 (by go_simp)
  have y1_10 : w10.cell? ⟨w2.heap.size, 1, none⟩ = some (.int .i64 ye) := carry hb10 (by go_simp)
  have yz_10 : w2.heap.size < w10.heap.size := by have := hb10.size; first | omega | (simp at this; omega)
  have z0_10 : w10.cell? ⟨w3.heap.size, 0, none⟩ = some (.int .i64 zm) := carry hb10 (by go_simp)
  have z1_10 : w10.cell? ⟨w3.heap.size, 1, none⟩ = some (.int .i64 ze) := carry hb10 (by go_simp)
  have zz_10 : w3.heap.size < w10.heap.size := by have := hb10.size; first | omega | (simp at this; omega)
  have a0_10 : w10.cell? ⟨w5.heap.size, 0, none⟩ = some (.int .i64 am) := carry hb10 (by go_simp)
  have af0_10 : w10.frozen? ⟨w5.heap.size, 0, none⟩ = false := carryF hb10 (v := .int .i64 am) (by go_simp) (by go_simp)
  have a1_10 : w10.cell? ⟨w5.heap.size, 1, none⟩ = some (.int .i64 ae) := carry hb10 (by go_simp)
  have af1_10 : w10.frozen? ⟨w5.heap.size, 1, none⟩ = false := carryF hb10 (v := .int .i64 ae) (by go_simp) (by go_simp)
  have az_10 : w5.heap.size < w10.heap.size := by have := hb10.size; first | omega | (simp at this; omega)
  have b0_10 : w10.cell? ⟨w6.heap.size, 0, none⟩ = some (.int .i64 bm) := carry hb10 (by go_simp)
  have bf0_10 : w10.frozen? ⟨w6.heap.size, 0, none⟩ = false := carryF hb10 (v := .int .i64 bm) (by go_simp) (by go_simp)
  have b1_10 : w10.cell? ⟨w6.heap.size, 1, none⟩ = some (.int .i64 be) := carry hb10 (by go_simp)
  have bf1_10 : w10.frozen? ⟨w6.heap.size, 1, none⟩ = false := carryF hb10 (v := .int .i64 be) (by go_simp) (by go_simp)
  have bz_10 : w6.heap.size < w10.heap.size := by have := hb10.size; first | omega | (simp at this; omega)
  have u0_10 : w10.cell? ⟨w7.heap.size, 0, none⟩ = some (.int .i64 um) := carry hb10 (by go_simp)
  have uf0_10 : w10.frozen? ⟨w7.heap.size, 0, none⟩ = false := carryF hb10 (v := .int .i64 um) (by go_simp) (by go_simp)
  have u1_10 : w10.cell? ⟨w7.heap.size, 1, none⟩ = some (.int .i64 ue) := carry hb10 (by go_simp)
  have uf1_10 : w10.frozen? ⟨w7.heap.size, 1, none⟩ = false := carryF hb10 (v := .int .i64 ue) (by go_simp) (by go_simp)
  have uz_10 : w7.heap.size < w10.heap.size := by have := hb10.size; first | omega | (simp at this; omega)
  have v0_10 : w10.cell? ⟨w8.heap.size, 0, none⟩ = some (.int .i64 vm) := carry hb10 (by go_simp)
  have vf0_10 : w10.frozen? ⟨w8.heap.size, 0, none⟩ = false := carryF hb10 (v := .int .i64 vm) (by go_simp) (by go_simp)
  have v1_10 : w10.cell? ⟨w8.heap.size, 1, none⟩ = some (.int .i64 ve) := carry hb10 (by go_simp)
  have vf1_10 : w10.frozen? ⟨w8.heap.size, 1, none⟩ = false := carryF hb10 (v := .int .i64 ve) (by go_simp) (by go_simp)
  have vz_10 : w8.heap.size < w10.heap.size := by have := hb10.size; first | omega | (simp at this; omega)
  have HB_10 := Lib.hid ((by repeat (first | exact HB_9.out | refine Below.drew ?_ | refine Below.setCell ?_ (by first | omega | (simp; done) | (simp; omega)) _ | refine Below.alloc ?_ (by first | omega | (simp; done) | (simp; omega)) _) : Below w.heap.size w _).trans (hb10.mono (by first | omega | (simp; done) | (simp; omega))))
  have nz_10 : w.heap.size ≤ w10.heap.size := HB_10.out.size
  clear hb10 x0_9 x1_9 y0_9 y1_9 z0_9 z1_9 a0_9 af0_9 a1_9 af1_9 b0_9 bf0_9 b1_9 bf1_9 u0_9 uf0_9 u1_9 uf1_9 v0_9 vf0_9 v1_9 vf1_9 HB_9
  go_wp2_with fail
  refine (HQ1.out _).mono ?_
  rintro e w11 ⟨rfl, hb11⟩
  have x0_11 : w11.cell? ⟨w1.heap.size, 0, none⟩ = some (.int .i64 xm) := carry hb11 (by go_simp)
  have x1_11 : w11.cell? ⟨w1.heap.size, 1, none⟩ = some (.int .i64 xe) := carry hb11 (by go_simp)
  have xz_11 : w1.heap.size < w11.heap.size := by have := hb11.size; first | omega | (simp at this; omega)
  have y0_11 : w11.cell? ⟨w2.heap.size, 0, none⟩ = some (.int .i64 ym) := carry hb11 (by go_simp)
  have y1_11 : w11.cell? ⟨w2.heap.size, 1, none⟩ = some (.int .i64 ye) := carry hb11 (by go_simp)
  have yz_11 : w2.heap.size < w11.heap.size := by have := hb11.size; first | omega | (simp at this; omega)
  have z0_11 : w11.cell? ⟨w3.heap.size, 0, none⟩ = some (.int .i64 zm) := carry hb11 (by go_simp)
  have z1_11 : w11.cell? ⟨w3.heap.size, 1, none⟩ = some (.int .i64 ze) := carry hb11 (by go_simp)
  have zz_11 : w3.heap.size < w11.heap.size := by have := hb11.size; first | omega | (simp at this; omega)
  have a0_11 : w11.cell? ⟨w5.heap.size, 0, none⟩ = some (.int .i64 am) := carry hb11 (by go_simp)
  have af0_11 : w11.frozen? ⟨w5.heap.size, 0, none⟩ = false := carryF hb11 (v := .int .i64 am) (by go_simp) (by go_simp)
  have a1_11 : w11.cell? ⟨w5.heap.size, 1, none⟩ = some (.int .i64 ae) := carry hb11 (by go_simp)
  have af1_11 : w11.frozen? ⟨w5.heap.size, 1, none⟩ = false := carryF hb11 (v := .int .i64 ae) (by go_simp) (by go_simp)
  have az_11 : w5.heap.size < w11.heap.size := by have := hb11.size; first | omega | (simp at this; omega)
  have b0_11 : w11.cell? ⟨w6.heap.size, 0, none⟩ = some (.int .i64 bm) := carry hb11 (by go_simp)
  have bf0_11 : w11.frozen? ⟨w6.heap.size, 0, none⟩ = false := carryF hb11 (v := .int .i64 bm) (by go_simp) (by go_simp)
  have b1_11 : w11.cell? ⟨w6.heap.size, 1, none⟩ = some (.int .i64 be) := carry hb11 (by go_simp)
  have bf1_11 : w11.frozen? ⟨w6.heap.size, 1, none⟩ = false := carryF hb11 (v := .int .i64 be) (by go_simp) (by go_simp)
  have bz_11 : w6.heap.size < w11.heap.size := by have := hb11.size; first | omega | (simp at this; omega)
  have u0_11 : w11.cell? ⟨w7.heap.size, 0, none⟩ = some (.int .i64 um) := carry hb11 (by go_simp)
  have uf0_11 : w11.frozen? ⟨w7.heap.size, 0, none⟩ = false := carryF hb11 (v := .int .i64 um) (by go_simp) (by go_simp)
  have u1_11 : w11.cell? ⟨w7.heap.size, 1, none⟩ = some (.int .i64 ue) := carry hb11 (by go_simp)
  have uf1_11 : w11.frozen? ⟨w7.heap.size, 1, none⟩ = false := carryF hb11 (v := .int .i64 ue) (by go_simp) (by go_simp)
  have uz_11 : w7.heap.size < w11.heap.size := by have := hb11.size; first | omega | (simp at this; omega)
  have v0_11 : w11.cell? ⟨w8.heap.size, 0, none⟩ = some (.int .i64 vm) := carry hb11 (by go_simp)
  have vf0_11 : w11.frozen? ⟨w8.heap.size, 0, none⟩ = false := carryF hb11 (v := .int .i64 vm) (by go_simp) (by go_simp)
  have v1_11 : w11.cell? ⟨w8.heap.size, 1, none⟩ = some (.int .i64 ve) := carry hb11 (by go_simp)
  have vf1_11 : w11.frozen? ⟨w8.heap.size, 1, none⟩ = false := carryF hb11 (v := .int .i64 ve) (by go_simp) (by go_simp)
  have vz_11 : w8.heap.size < w11.heap.size := by have := hb11.size; first | omega | (simp at this; omega)
  have HB_11 := Lib.hid ((by repeat (first | exact HB_10.out | refine Below.drew ?_ | refine Below.setCell ?_ (by first | omega | (simp; done) | (simp; omega)) _ | refine Below.alloc ?_ (by first | omega | (simp; done) | (simp; omega)) _) : Below w.heap.size w _).trans (hb11.mono (by first | omega | (simp; done) | (simp; omega))))
  have nz_11 : w.heap.size ≤ w11.heap.size := HB_11.out.size
  clear hb11 x0_10 x1_10 y0_10 y1_10 z0_10 z1_10 a0_10 af0_10 a1_10 af1_10 b0_10 bf0_10 b1_10 bf1_10 u0_10 uf0_10 u1_10 uf1_10 v0_10 vf0_10 v1_10 vf1_10 HB_10
  go_wp2_with fail
  refine (HQ2.out _).mono ?_
  rintro e w12 ⟨rfl, hb12⟩
  have x0_12 : w12.cell? ⟨w1.heap.size, 0, none⟩ = some (.int .i64 xm) := carry hb12 (by go_simp)
  have x1_12 : w12.cell? ⟨w1.heap.size, 1, none⟩ = some (.int .i64 xe) := carry hb12 (by go_simp)
  have xz_12 : w1.heap.size < w12.heap.size := by have := hb12.size; first | omega | (simp at this; omega)
  have y0_12 : w12.cell? ⟨w2.heap.size, 0, none⟩ = some (.int .i64 ym) := carry hb12 (by go_simp)
  have y1_12 : w12.cell? ⟨w2.heap.size, 1, none⟩ = some (.int .i64 ye) := carry hb12 (by go_simp)
  have yz_12 : w2.heap.size < w12.heap.size := by have := hb12.size; first | omega | (simp at this; omega)
  have z0_12 : w12.cell? ⟨w3.heap.size, 0, none⟩ = some (.int .i64 zm) := carry hb12 (by go_simp)
  have z1_12 : w12.cell? ⟨w3.heap.size, 1, none⟩ = some (.int .i64 ze) := carry hb12 (by go_simp)
  have zz_12 : w3.heap.size < w12.heap.size := by have := hb12.size; first | omega | (simp at this; omega)
  have a0_12 : w12.cell? ⟨w5.heap.size, 0, none⟩ = some (.int .i64 am) := carry hb12 (by go_simp)
  have af0_12 : w12.frozen? ⟨w5.heap.size, 0, none⟩ = false := carryF hb12 (v := .int .i64 am) (by go_simp) (by go_simp)
  have a1_12 : w12.cell? ⟨w5.heap.size, 1, none⟩ = some (.int .i64 ae) := carry hb12 (by go_simp)
  have af1_12 : w12.frozen? ⟨w5.heap.size, 1, none⟩ = false := carryF hb12 (v := .int .i64 ae) (by go_simp) (by go_simp)
  have az_12 : w5.heap.size < w12.heap.size := by have := hb12.size; first | omega | (simp at this; omega)
  have b0_12 : w12.cell? ⟨w6.heap.size, 0, none⟩ = some (.int .i64 bm) := carry hb12 (by go_simp)
  have bf0_12 : w12.frozen? ⟨w6.heap.size, 0, none⟩ = false := carryF hb12 (v := .int .i64 bm) (by go_simp) (by go_simp)
  have b1_12 : w12.cell? ⟨w6.heap.size, 1, none⟩ = some (.int .i64 be) := carry hb12 (by go_simp)
  have bf1_12 : w12.frozen? ⟨w6.heap.size, 1, none⟩ = false := carryF hb12 (v := .int .i64 be) (by go_simp) (by go_simp)
  have bz_12 : w6.heap.size < w12.heap.size := by have := hb12.size; first | omega | (simp at this; omega)
  have u0_12 : w12.cell? ⟨w7.heap.size, 0, none⟩ = some (.int .i64 um) := carry hb12 (by go_simp)
  have uf0_12 : w12.frozen? ⟨w7.heap.size, 0, none⟩ = false := carryF hb12 (v := .int .i64 um) (by go_simp) (by go_simp)
  have u1_12 : w12.cell? ⟨w7.heap.size, 1, none⟩ = some (.int .i64 ue) := carry hb12 (by go_simp)
  have uf1_12 : w12.frozen? ⟨w7.heap.size, 1, none⟩ = false := carryF hb12 (v := .int .i64 ue) (by go_simp) (by go_simp)
  have uz_12 : w7.heap.size < w12.heap.size := by have := hb12.size; first | omega | (simp at this; omega)
  have v0_12 : w12.cell? ⟨w8.heap.size, 0, none⟩ = some (.int .i64 vm) := carry hb12 (by go_simp)
  have vf0_12 : w12.frozen? ⟨w8.heap.size, 0, none⟩ = false := carryF hb12 (v := .int .i64 vm) (by go_simp) (by go_simp)
  have v1_12 : w12.cell? ⟨w8.heap.size, 1, none⟩ = some (.int .i64 ve) := carry hb12 (by go_simp)
  have vf1_12 : w12.frozen? ⟨w8.heap.size, 1, none⟩ = false := carryF hb12 (v := .int .i64 ve) (by go_simp) (by go_simp)
  have vz_12 : w8.heap.size < w12.heap.size := by have := hb12.size; first | omega | (simp at this; omega)
  have r0_12 : w12.cell? ⟨w11.heap.size, 0, none⟩ = some (.int .i64 rm) := carry hb12 (by go_simp)
  have r1_12 : w12.cell? ⟨w11.heap.size, 1, none⟩ = some (.int .i64 re) := carry hb12 (by go_simp)
  have rz_12 : w11.heap.size < w12.heap.size := by have := hb12.size; first | omega | (simp at this; omega)
  have HB_12 := Lib.hid ((by repeat (first | exact HB_11.out | refine Below.drew ?_ | refine Below.setCell ?_ (by first | omega | (simp; done) | (simp; omega)) _ | refine Below.alloc ?_ (by first | omega | (simp; done) | (simp; omega)) _) : Below w.heap.size w _).trans (hb12.mono (by first | omega | (simp; done) | (simp; omega))))
  have nz_12 : w.heap.size ≤ w12.heap.size := HB_12.out.size
  clear hb12 x0_11 x1_11 y0_11 y1_11 z0_11 z1_11 a0_11 af0_11 a1_11 af1_11 b0_11 bf0_11 b1_11 bf1_11 u0_11 uf0_11 u1_11 uf1_11 v0_11 vf0_11 v1_11 vf1_11 HB_11
  go_wp2_with fail
  refine (HO3.out _).mono ?_
  rintro e w13 ⟨rfl, hb13⟩
  have x0_13 : w13.cell? ⟨w1.heap.size, 0, none⟩ = some (.int .i64 xm) := carry hb13 (by go_simp)
  have x1_13 : w13.cell? ⟨w1.heap.size, 1, none⟩ = some (.int .i64 xe) := carry hb13 (by go_simp)
  have xz_13 : w1.heap.size < w13.heap.size := by have := hb13.size; first | omega | (simp at this; omega)
  have y0_13 : w13.cell? ⟨w2.heap.size, 0, none⟩ = some (.int .i64 ym) := carry hb13 (by go_simp)
  have y1_13 : w13.cell? ⟨w2.heap.size, 1, none⟩ = some (.int .i64 ye) := carry hb13 (by go_simp)
  have yz_13 : w2.heap.size < w13.heap.size := by have := hb13.size; first | omega | (simp at this; omega)
  have z0_13 : w13.cell? ⟨w3.heap.size, 0, none⟩ = some (.int .i64 zm) := carry hb13 (by go_simp)
  have z1_13 : w13.cell? ⟨w3.heap.size, 1, none⟩ = some (.int .i64 ze) := carry hb13 (by go_simp)
  have zz_13 : w3.heap.size < w13.heap.size := by have := hb13.size; first | omega | (simp at this; omega)
  have a0_13 : w13.cell? ⟨w5.heap.size, 0, none⟩ = some (.int .i64 am) := carry hb13 (by go_simp)
  have af0_13 : w13.frozen? ⟨w5.heap.size, 0, none⟩ = false := carryF hb13 (v := .int .i64 am) (by go_simp) (by go_simp)
  have a1_13 : w13.cell? ⟨w5.heap.size, 1, none⟩ = some (.int .i64 ae) := carry hb13 (by go_simp)
  have af1_13 : w13.frozen? ⟨w5.heap.size, 1, none⟩ = false := carryF hb13 (v := .int .i64 ae) (by go_simp) (by go_simp)
  have az_13 : w5.heap.size < w13.heap.size := by have := hb13.size; first | omega | (simp at this; omega)
  have b0_13 : w13.cell? ⟨w6.heap.size, 0, none⟩ = some (.int .i64 bm) := carry hb13 (by go_simp)
  have bf0_13 : w13.frozen? ⟨w6.heap.size, 0, none⟩ = false := carryF hb13 (v := .int .i64 bm) (by go_simp) (by go_simp)
  have b1_13 : w13.cell? ⟨w6.heap.size, 1, none⟩ = some (.int .i64 be) := carry hb13 (by go_simp)
  have bf1_13 : w13.frozen? ⟨w6.heap.size, 1, none⟩ = false := carryF hb13 (v := .int .i64 be) (by go_simp) (by go_simp)
  have bz_13 : w6.heap.size < w13.heap.size := by have := hb13.size; first | omega | (simp at this; omega)
  have u0_13 : w13.cell? ⟨w7.heap.size, 0, none⟩ = some (.int .i64 um) := carry hb13 (by go_simp)
  have uf0_13 : w13.frozen? ⟨w7.heap.size, 0, none⟩ = false := carryF hb13 (v := .int .i64 um) (by go_simp) (by go_simp)
  have u1_13 : w13.cell? ⟨w7.heap.size, 1, none⟩ = some (.int .i64 ue) := carry hb13 (by go_simp)
  have uf1_13 : w13.frozen? ⟨w7.heap.size, 1, none⟩ = false := carryF hb13 (v := .int .i64 ue) (by go_simp) (by go_simp)
  have uz_13 : w7.heap.size < w13.heap.size := by have := hb13.size; first | omega | (simp at this; omega)
  have v0_13 : w13.cell? ⟨w8.heap.size, 0, none⟩ = some (.int .i64 vm) := carry hb13 (by go_simp)
  have vf0_13 : w13.frozen? ⟨w8.heap.size, 0, none⟩ = false := carryF hb13 (v := .int .i64 vm) (by go_simp) (by go_simp)
  have v1_13 : w13.cell? ⟨w8.heap.size, 1, none⟩ = some (.int .i64 ve) := carry hb13 (by go_simp)
  have vf1_13 : w13.frozen? ⟨w8.heap.size, 1, none⟩ = false := carryF hb13 (v := .int .i64 ve) (by go_simp) (by go_simp)
  have vz_13 : w8.heap.size < w13.heap.size := by have := hb13.size; first | omega | (simp at this; omega)
  have r0_13 : w13.cell? ⟨w11.heap.size, 0, none⟩ = some (.int .i64 rm) := carry hb13 (by go_simp)
  have r1_13 : w13.cell? ⟨w11.heap.size, 1, none⟩ = some (.int .i64 re) := carry hb13 (by go_simp)
  have rz_13 : w11.heap.size < w13.heap.size := by have := hb13.size; first | omega | (simp at this; omega)
  have q0_13 : w13.cell? ⟨w12.heap.size, 0, none⟩ = some (.int .i64 qm) := carry hb13 (by go_simp)
  have q1_13 : w13.cell? ⟨w12.heap.size, 1, none⟩ = some (.int .i64 qe) := carry hb13 (by go_simp)
  have qz_13 : w12.heap.size < w13.heap.size := by have := hb13.size; first | omega | (simp at this; omega)
  have HB_13 := Lib.hid ((by repeat (first | exact HB_12.out | refine Below.drew ?_ | refine Below.setCell ?_ (by first | omega | (simp; done) | (simp; omega)) _ | refine Below.alloc ?_ (by first | omega | (simp; done) | (simp; omega)) _) : Below w.heap.size w _).trans (hb13.mono (by first | omega | (simp; done) | (simp; omega))))
  have nz_13 : w.heap.size ≤ w13.heap.size := HB_13.out.size
  clear hb13 x0_12 x1_12 y0_12 y1_12 z0_12 z1_12 a0_12 af0_12 a1_12 af1_12 b0_12 bf0_12 b1_12 bf1_12 u0_12 uf0_12 u1_12 uf1_12 v0_12 vf0_12 v1_12 vf1_12 r0_12 r1_12 HB_12
  go_wp2_with fail
  refine (HM1.out _).mono ?_
  rintro e w14 ⟨rfl, hb14⟩
  have x0_14 : w14.cell? ⟨w1.heap.size, 0, none⟩ = some (.int .i64 xm) := carry hb14 (by go_simp)
  have x1_14 : w14.cell? ⟨w1.heap.size, 1, none⟩ = some (.int .i64 xe) := carry hb14 (by go_simp)
  have xz_14 : w1.heap.size < w14.heap.size := by have := hb14.size; first | omega | (simp at this; omega)
  have y0_14 : w14.cell? ⟨w2.heap.size, 0, none⟩ = some (.int .i64 ym) := carry hb14 (by go_simp)
  have y1_14 : w14.cell? ⟨w2.heap.size, 1, none⟩ = some (.int .i64 ye) := carry hb14 (by go_simp)
  have yz_14 : w2.heap.size < w14.heap.size := by have := hb14.size; first | omega | (simp at this; omega)
  have z0_14 : w14.cell? ⟨w3.heap.size, 0, none⟩ = some (.int .i64 zm) := carry hb14 (by go_simp)
  have z1_14 : w14.cell? ⟨w3.heap.size, 1, none⟩ = some (.int .i64 ze) := carry hb14 (by go_simp)
  have zz_14 : w3.heap.size < w14.heap.size := by have := hb14.size; first | omega | (simp at this; omega)
  have a0_14 : w14.cell? ⟨w5.heap.size, 0, none⟩ = some (.int .i64 am) := carry hb14 (by go_simp)
  have af0_14 : w14.frozen? ⟨w5.heap.size, 0, none⟩ = false := carryF hb14 (v := .int .i64 am) (by go_simp) (by go_simp)
  have a1_14 : w14.cell? ⟨w5.heap.size, 1, none⟩ = some (.int .i64 ae) := carry hb14 (by go_simp)
  have af1_14 : w14.frozen? ⟨w5.heap.size, 1, none⟩ = false := carryF hb14 (v := .int .i64 ae) (by go_simp) (by go_simp)
  have az_14 : w5.heap.size < w14.heap.size := by have := hb14.size; first | omega | (simp at this; omega)
  have b0_14 : w14.cell? ⟨w6.heap.size, 0, none⟩ = some (.int .i64 bm) := carry hb14 (by go_simp)
  have bf0_14 : w14.frozen? ⟨w6.heap.size, 0, none⟩ = false := carryF hb14 (v := .int .i64 bm) (by go_simp) (by go_simp)
  have b1_14 : w14.cell? ⟨w6.heap.size, 1, none⟩ = some (.int .i64 be) := carry hb14 (by go_simp)
  have bf1_14 : w14.frozen? ⟨w6.heap.size, 1, none⟩ = false := carryF hb14 (v := .int .i64 be) (by go_simp) (by go_simp)
  have bz_14 : w6.heap.size < w14.heap.size := by have := hb14.size; first | omega | (simp at this; omega)
  have u0_14 : w14.cell? ⟨w7.heap.size, 0, none⟩ = some (.int .i64 um) := carry hb14 (by go_simp)
  have uf0_14 : w14.frozen? ⟨w7.heap.size, 0, none⟩ = false := carryF hb14 (v := .int .i64 um) (by go_simp) (by go_simp)
  have u1_14 : w14.cell? ⟨w7.heap.size, 1, none⟩ = some (.int .i64 ue) := carry hb14 (by go_simp)
  have uf1_14 : w14.frozen? ⟨w7.heap.size, 1, none⟩ = false := carryF hb14 (v := .int .i64 ue) (by go_simp) (by go_simp)
  have uz_14 : w7.heap.size < w14.heap.size := by have := hb14.size; first | omega | (simp at this; omega)
  have v0_14 : w14.cell? ⟨w8.heap.size, 0, none⟩ = some (.int .i64 vm) := carry hb14 (by go_simp)
  have vf0_14 : w14.frozen? ⟨w8.heap.size, 0, none⟩ = false := carryF hb14 (v := .int .i64 vm) (by go_simp) (by go_simp)
  have v1_14 : w14.cell? ⟨w8.heap.size, 1, none⟩ = some (.int .i64 ve) := carry hb14 (by go_simp)
  have vf1_14 : w14.frozen? ⟨w8.heap.size, 1, none⟩ = false := carryF hb14 (v := .int .i64 ve) (by go_simp) (by go_simp)
  have vz_14 : w8.heap.size < w14.heap.size := by have := hb14.size; first | omega | (simp at this; omega)
  have HB_14 := Lib.hid ((by repeat (first | exact HB_13.out | refine Below.drew ?_ | refine Below.setCell ?_ (by first | omega | (simp; done) | (simp; omega)) _ | refine Below.alloc ?_ (by first | omega | (simp; done) | (simp; omega)) _) : Below w.heap.size w _).trans (hb14.mono (by first | omega | (simp; done) | (simp; omega))))
  have nz_14 : w.heap.size ≤ w14.heap.size := HB_14.out.size
  clear hb14 x0_13 x1_13 y0_13 y1_13 z0_13 z1_13 a0_13 af0_13 a1_13 af1_13 b0_13 bf0_13 b1_13 bf1_13 u0_13 uf0_13 u1_13 uf1_13 v0_13 vf0_13 v1_13 vf1_13 r0_13 r1_13 q0_13 q1_13 HB_13
  go_wp2_with fail
  refine (HM2.out _).mono ?_
  rintro e w15 ⟨rfl, hb15⟩
  have x0_15 : w15.cell? ⟨w1.heap.size, 0, none⟩ = some (.int .i64 xm) := carry hb15 (by go_simp)
  have x1_15 : w15.cell? ⟨w1.heap.size, 1, none⟩ = some (.int .i64 xe) := carry hb15 (by go_simp)
  have xz_15 : w1.heap.size < w15.heap.size := by have := hb15.size; first | omega | (simp at this; omega)
  have y0_15 : w15.cell? ⟨w2.heap.size, 0, none⟩ = some (.int .i64 ym) := carry hb15 (by go_simp)
  have y1_15 : w15.cell? ⟨w2.heap.size, 1, none⟩ = some (.int .i64 ye) := carry hb15 (by go_simp)
  have yz_15 : w2.heap.size < w15.heap.size := by have := hb15.size; first | omega | (simp at this; omega)
  have z0_15 : w15.cell? ⟨w3.heap.size, 0, none⟩ = some (.int .i64 zm) := carry hb15 (by go_simp)
  have z1_15 : w15.cell? ⟨w3.heap.size, 1, none⟩ = some (.int .i64 ze) := carry hb15 (by go_simp)
  have zz_15 : w3.heap.size < w15.heap.size := by have := hb15.size; first | omega | (simp at this; omega)
  have a0_15 : w15.cell? ⟨w5.heap.size, 0, none⟩ = some (.int .i64 cm) := carry hb15 (by go_simp)
  have a1_15 : w15.cell? ⟨w5.heap.size, 1, none⟩ = some (.int .i64 ce) := carry hb15 (by go_simp)
  have az_15 : w5.heap.size < w15.heap.size := by have := hb15.size; first | omega | (simp at this; omega)
  have b0_15 : w15.cell? ⟨w6.heap.size, 0, none⟩ = some (.int .i64 bm) := carry hb15 (by go_simp)
  have bf0_15 : w15.frozen? ⟨w6.heap.size, 0, none⟩ = false := carryF hb15 (v := .int .i64 bm) (by go_simp) (by go_simp)
  have b1_15 : w15.cell? ⟨w6.heap.size, 1, none⟩ = some (.int .i64 be) := carry hb15 (by go_simp)
  have bf1_15 : w15.frozen? ⟨w6.heap.size, 1, none⟩ = false := carryF hb15 (v := .int .i64 be) (by go_simp) (by go_simp)
  have bz_15 : w6.heap.size < w15.heap.size := by have := hb15.size; first | omega | (simp at this; omega)
  have u0_15 : w15.cell? ⟨w7.heap.size, 0, none⟩ = some (.int .i64 um) := carry hb15 (by go_simp)
  have uf0_15 : w15.frozen? ⟨w7.heap.size, 0, none⟩ = false := carryF hb15 (v := .int .i64 um) (by go_simp) (by go_simp)
  have u1_15 : w15.cell? ⟨w7.heap.size, 1, none⟩ = some (.int .i64 ue) := carry hb15 (by go_simp)
  have uf1_15 : w15.frozen? ⟨w7.heap.size, 1, none⟩ = false := carryF hb15 (v := .int .i64 ue) (by go_simp) (by go_simp)
  have uz_15 : w7.heap.size < w15.heap.size := by have := hb15.size; first | omega | (simp at this; omega)
  have v0_15 : w15.cell? ⟨w8.heap.size, 0, none⟩ = some (.int .i64 vm) := carry hb15 (by go_simp)
  have vf0_15 : w15.frozen? ⟨w8.heap.size, 0, none⟩ = false := carryF hb15 (v := .int .i64 vm) (by go_simp) (by go_simp)
  have v1_15 : w15.cell? ⟨w8.heap.size, 1, none⟩ = some (.int .i64 ve) := carry hb15 (by go_simp)
  have vf1_15 : w15.frozen? ⟨w8.heap.size, 1, none⟩ = false := carryF hb15 (v := .int .i64 ve) (by go_simp) (by go_simp)
  have vz_15 : w8.heap.size < w15.heap.size := by have := hb15.size; first | omega | (simp at this; omega)
  have HB_15 := Lib.hid ((by repeat (first | exact HB_14.out | refine Below.drew ?_ | refine Below.setCell ?_ (by first | omega | (simp; done) | (simp; omega)) _ | refine Below.alloc ?_ (by first | omega | (simp; done) | (simp; omega)) _) : Below w.heap.size w _).trans (hb15.mono (by first | omega | (simp; done) | (simp; omega))))
  have nz_15 : w.heap.size ≤ w15.heap.size := HB_15.out.size
  clear hb15 x0_14 x1_14 y0_14 y1_14 z0_14 z1_14 a0_14 af0_14 a1_14 af1_14 b0_14 bf0_14 b1_14 bf1_14 u0_14 uf0_14 u1_14 uf1_14 v0_14 vf0_14 v1_14 vf1_14 HB_14
  go_wp2_with fail
  refine (HD1.out _).mono ?_
  rintro e w16 ⟨rfl, hb16⟩
  have x0_16 : w16.cell? ⟨w1.heap.size, 0, none⟩ = some (.int .i64 xm) := carry hb16 (by go_simp)
  have x1_16 : w16.cell? ⟨w1.heap.size, 1, none⟩ = some (.int .i64 xe) := carry hb16 (by go_simp)
  have xz_16 : w1.heap.size < w16.heap.size := by have := hb16.size; first | omega | (simp at this; omega)
  have y0_16 : w16.cell? ⟨w2.heap.size, 0, none⟩ = some (.int .i64 ym) := carry hb16 (by go_simp)
  have y1_16 : w16.cell? ⟨w2.heap.size, 1, none⟩ = some (.int .i64 ye) := carry hb16 (by go_simp)
  have yz_16 : w2.heap.size < w16.heap.size := by have := hb16.size; first | omega | (simp at this; omega)
  have z0_16 : w16.cell? ⟨w3.heap.size, 0, none⟩ = some (.int .i64 zm) := carry hb16 (by go_simp)
  have z1_16 : w16.cell? ⟨w3.heap.size, 1, none⟩ = some (.int .i64 ze) := carry hb16 (by go_simp)
  have zz_16 : w3.heap.size < w16.heap.size := by have := hb16.size; first | omega | (simp at this; omega)
  have a0_16 : w16.cell? ⟨w5.heap.size, 0, none⟩ = some (.int .i64 cm) := carry hb16 (by go_simp)
  have a1_16 : w16.cell? ⟨w5.heap.size, 1, none⟩ = some (.int .i64 ce) := carry hb16 (by go_simp)
  have az_16 : w5.heap.size < w16.heap.size := by have := hb16.size; first | omega | (simp at this; omega)
  have b0_16 : w16.cell? ⟨w6.heap.size, 0, none⟩ = some (.int .i64 dm) := carry hb16 (by go_simp)
  have b1_16 : w16.cell? ⟨w6.heap.size, 1, none⟩ = some (.int .i64 de) := carry hb16 (by go_simp)
  have bz_16 : w6.heap.size < w16.heap.size := by have := hb16.size; first | omega | (simp at this; omega)
  have u0_16 : w16.cell? ⟨w7.heap.size, 0, none⟩ = some (.int .i64 um) := carry hb16 (by go_simp)
  have uf0_16 : w16.frozen? ⟨w7.heap.size, 0, none⟩ = false := carryF hb16 (v := .int .i64 um) (by go_simp) (by go_simp)
  have u1_16 : w16.cell? ⟨w7.heap.size, 1, none⟩ = some (.int .i64 ue) := carry hb16 (by go_simp)
  have uf1_16 : w16.frozen? ⟨w7.heap.size, 1, none⟩ = false := carryF hb16 (v := .int .i64 ue) (by go_simp) (by go_simp)
  have uz_16 : w7.heap.size < w16.heap.size := by have := hb16.size; first | omega | (simp at this; omega)
  have v0_16 : w16.cell? ⟨w8.heap.size, 0, none⟩ = some (.int .i64 vm) := carry hb16 (by go_simp)
  have vf0_16 : w16.frozen? ⟨w8.heap.size, 0, none⟩ = false := carryF hb16 (v := .int .i64 vm) (by go_simp) (by go_simp)
  have v1_16 : w16.cell? ⟨w8.heap.size, 1, none⟩ = some (.int .i64 ve) := carry hb16 (by go_simp)
  have vf1_16 : w16.frozen? ⟨w8.heap.size, 1, none⟩ = false := carryF hb16 (v := .int .i64 ve) (by go_simp) (by go_simp)
  have vz_16 : w8.heap.size < w16.heap.size := by have := hb16.size; first | omega | (simp at this; omega)
  have HB_16 := Lib.hid ((by repeat (first | exact HB_15.out | refine Below.drew ?_ | refine Below.setCell ?_ (by first | omega | (simp; done) | (simp; omega)) _ | refine Below.alloc ?_ (by first | omega | (simp; done) | (simp; omega)) _) : Below w.heap.size w _).trans (hb16.mono (by first | omega | (simp; done) | (simp; omega))))
  have nz_16 : w.heap.size ≤ w16.heap.size := HB_16.out.size
  clear hb16 x0_15 x1_15 y0_15 y1_15 z0_15 z1_15 a0_15 a1_15 b0_15 bf0_15 b1_15 bf1_15 u0_15 uf0_15 u1_15 uf1_15 v0_15 vf0_15 v1_15 vf1_15 HB_15
  go_wp2_with fail
  refine (HD2.out _).mono ?_
  rintro e w17 ⟨rfl, hb17⟩
  have y0_17 : w17.cell? ⟨w2.heap.size, 0, none⟩ = some (.int .i64 ym) := carry hb17 (by go_simp)
  have y1_17 : w17.cell? ⟨w2.heap.size, 1, none⟩ = some (.int .i64 ye) := carry hb17 (by go_simp)
  have yz_17 : w2.heap.size < w17.heap.size := by have := hb17.size; first | omega | (simp at this; omega)
  have z0_17 : w17.cell? ⟨w3.heap.size, 0, none⟩ = some (.int .i64 zm) := carry hb17 (by go_simp)
  have z1_17 : w17.cell? ⟨w3.heap.size, 1, none⟩ = some (.int .i64 ze) := carry hb17 (by go_simp)
  have zz_17 : w3.heap.size < w17.heap.size := by have := hb17.size; first | omega | (simp at this; omega)
  have a0_17 : w17.cell? ⟨w5.heap.size, 0, none⟩ = some (.int .i64 cm) := carry hb17 (by go_simp)
  have a1_17 : w17.cell? ⟨w5.heap.size, 1, none⟩ = some (.int .i64 ce) := carry hb17 (by go_simp)
  have az_17 : w5.heap.size < w17.heap.size := by have := hb17.size; first | omega | (simp at this; omega)
  have b0_17 : w17.cell? ⟨w6.heap.size, 0, none⟩ = some (.int .i64 dm) := carry hb17 (by go_simp)
  have b1_17 : w17.cell? ⟨w6.heap.size, 1, none⟩ = some (.int .i64 de) := carry hb17 (by go_simp)
  have bz_17 : w6.heap.size < w17.heap.size := by have := hb17.size; first | omega | (simp at this; omega)
  have u0_17 : w17.cell? ⟨w7.heap.size, 0, none⟩ = some (.int .i64 gm) := carry hb17 (by go_simp)
  have u1_17 : w17.cell? ⟨w7.heap.size, 1, none⟩ = some (.int .i64 ge) := carry hb17 (by go_simp)
  have uz_17 : w7.heap.size < w17.heap.size := by have := hb17.size; first | omega | (simp at this; omega)
  have v0_17 : w17.cell? ⟨w8.heap.size, 0, none⟩ = some (.int .i64 vm) := carry hb17 (by go_simp)
  have vf0_17 : w17.frozen? ⟨w8.heap.size, 0, none⟩ = false := carryF hb17 (v := .int .i64 vm) (by go_simp) (by go_simp)
  have v1_17 : w17.cell? ⟨w8.heap.size, 1, none⟩ = some (.int .i64 ve) := carry hb17 (by go_simp)
  have vf1_17 : w17.frozen? ⟨w8.heap.size, 1, none⟩ = false := carryF hb17 (v := .int .i64 ve) (by go_simp) (by go_simp)
  have vz_17 : w8.heap.size < w17.heap.size := by have := hb17.size; first | omega | (simp at this; omega)
  have HB_17 := Lib.hid ((by repeat (first | exact HB_16.out | refine Below.drew ?_ | refine Below.setCell ?_ (by first | omega | (simp; done) | (simp; omega)) _ | refine Below.alloc ?_ (by first | omega | (simp; done) | (simp; omega)) _) : Below w.heap.size w _).trans (hb17.mono (by first | omega | (simp; done) | (simp; omega))))
  have nz_17 : w.heap.size ≤ w17.heap.size := HB_17.out.size
  clear hb17 x0_16 x1_16 y0_16 y1_16 z0_16 z1_16 a0_16 a1_16 b0_16 b1_16 u0_16 uf0_16 u1_16 uf1_16 v0_16 vf0_16 v1_16 vf1_16 HB_16
  go_wp2_with fail
  refine (HSan.out _ (by repeat (first | exact HB_17.out | refine Below.drew ?_ | refine Below.setCell ?_ (by first | omega | (simp; done) | (simp; omega)) _ | refine Below.alloc ?_ (by first | omega | (simp; done) | (simp; omega)) _))).mono ?_
  rintro e w18 ⟨rfl, hb18⟩
  have a0_18 : w18.cell? ⟨w5.heap.size, 0, none⟩ = some (.int .i64 cm) := carry hb18 (by go_simp)
  have a1_18 : w18.cell? ⟨w5.heap.size, 1, none⟩ = some (.int .i64 ce) := carry hb18 (by go_simp)
  have az_18 : w5.heap.size < w18.heap.size := by have := hb18.size; first | omega | (simp at this; omega)
  have b0_18 : w18.cell? ⟨w6.heap.size, 0, none⟩ = some (.int .i64 dm) := carry hb18 (by go_simp)
  have b1_18 : w18.cell? ⟨w6.heap.size, 1, none⟩ = some (.int .i64 de) := carry hb18 (by go_simp)
  have bz_18 : w6.heap.size < w18.heap.size := by have := hb18.size; first | omega | (simp at this; omega)
  have u0_18 : w18.cell? ⟨w7.heap.size, 0, none⟩ = some (.int .i64 gm) := carry hb18 (by go_simp)
  have u1_18 : w18.cell? ⟨w7.heap.size, 1, none⟩ = some (.int .i64 ge) := carry hb18 (by go_simp)
  have uz_18 : w7.heap.size < w18.heap.size := by have := hb18.size; first | omega | (simp at this; omega)
  have v0_18 : w18.cell? ⟨w8.heap.size, 0, none⟩ = some (.int .i64 hm) := carry hb18 (by go_simp)
  have v1_18 : w18.cell? ⟨w8.heap.size, 1, none⟩ = some (.int .i64 he) := carry hb18 (by go_simp)
  have vz_18 : w8.heap.size < w18.heap.size := by have := hb18.size; first | omega | (simp at this; omega)
  have HB_18 := Lib.hid ((by repeat (first | exact HB_17.out | refine Below.drew ?_ | refine Below.setCell ?_ (by first | omega | (simp; done) | (simp; omega)) _ | refine Below.alloc ?_ (by first | omega | (simp; done) | (simp; omega)) _) : Below w.heap.size w _).trans (hb18.mono (by first | omega | (simp; done) | (simp; omega))))
  have nz_18 : w.heap.size ≤ w18.heap.size := HB_18.out.size
  clear hb18 y0_17 y1_17 z0_17 z1_17 a0_17 a1_17 b0_17 b1_17 u0_17 u1_17 v0_17 vf0_17 v1_17 vf1_17 HB_17
  go_wp2_with fail
  refine (HO4.out _).mono ?_
  rintro e w19 ⟨rfl, hb19⟩
  have a0_19 : w19.cell? ⟨w5.heap.size, 0, none⟩ = some (.int .i64 cm) := carry hb19 (by go_simp)
  have a1_19 : w19.cell? ⟨w5.heap.size, 1, none⟩ = some (.int .i64 ce) := carry hb19 (by go_simp)
  have az_19 : w5.heap.size < w19.heap.size := by have := hb19.size; first | omega | (simp at this; omega)
  have b0_19 : w19.cell? ⟨w6.heap.size, 0, none⟩ = some (.int .i64 dm) := carry hb19 (by go_simp)
  have b1_19 : w19.cell? ⟨w6.heap.size, 1, none⟩ = some (.int .i64 de) := carry hb19 (by go_simp)
  have bz_19 : w6.heap.size < w19.heap.size := by have := hb19.size; first | omega | (simp at this; omega)
  have u0_19 : w19.cell? ⟨w7.heap.size, 0, none⟩ = some (.int .i64 gm) := carry hb19 (by go_simp)
  have u1_19 : w19.cell? ⟨w7.heap.size, 1, none⟩ = some (.int .i64 ge) := carry hb19 (by go_simp)
  have uz_19 : w7.heap.size < w19.heap.size := by have := hb19.size; first | omega | (simp at this; omega)
  have v0_19 : w19.cell? ⟨w8.heap.size, 0, none⟩ = some (.int .i64 hm) := carry hb19 (by go_simp)
  have v1_19 : w19.cell? ⟨w8.heap.size, 1, none⟩ = some (.int .i64 he) := carry hb19 (by go_simp)
  have vz_19 : w8.heap.size < w19.heap.size := by have := hb19.size; first | omega | (simp at this; omega)
  have HB_19 := Lib.hid ((by repeat (first | exact HB_18.out | refine Below.drew ?_ | refine Below.setCell ?_ (by first | omega | (simp; done) | (simp; omega)) _ | refine Below.alloc ?_ (by first | omega | (simp; done) | (simp; omega)) _) : Below w.heap.size w _).trans (hb19.mono (by first | omega | (simp; done) | (simp; omega))))
  have nz_19 : w.heap.size ≤ w19.heap.size := HB_19.out.size
  clear hb19 a0_18 a1_18 b0_18 b1_18 u0_18 u1_18 v0_18 v1_18 HB_18
  go_wp2_with fail
  refine (HO5.out _).mono ?_
  rintro e w20 ⟨rfl, hb20⟩
  have u0_20 : w20.cell? ⟨w7.heap.size, 0, none⟩ = some (.int .i64 gm) := carry hb20 (by go_simp)
  have u1_20 : w20.cell? ⟨w7.heap.size, 1, none⟩ = some (.int .i64 ge) := carry hb20 (by go_simp)
  have uz_20 : w7.heap.size < w20.heap.size := by have := hb20.size; first | omega | (simp at this; omega)
  have v0_20 : w20.cell? ⟨w8.heap.size, 0, none⟩ = some (.int .i64 hm) := carry hb20 (by go_simp)
  have v1_20 : w20.cell? ⟨w8.heap.size, 1, none⟩ = some (.int .i64 he) := carry hb20 (by go_simp)
  have vz_20 : w8.heap.size < w20.heap.size := by have := hb20.size; first | omega | (simp at this; omega)
  have HB_20 := Lib.hid ((by repeat (first | exact HB_19.out | refine Below.drew ?_ | refine Below.setCell ?_ (by first | omega | (simp; done) | (simp; omega)) _ | refine Below.alloc ?_ (by first | omega | (simp; done) | (simp; omega)) _) : Below w.heap.size w _).trans (hb20.mono (by first | omega | (simp; done) | (simp; omega))))
  have nz_20 : w.heap.size ≤ w20.heap.size := HB_20.out.size
  clear hb20 a0_19 a1_19 b0_19 b1_19 u0_19 u1_19 v0_19 v1_19 HB_19
  go_wp2_with fail
  go_ret
  exact ⟨rfl, by repeat (first | exact HB_20.out | refine Below.drew ?_ | refine Below.setCell ?_ (by first | omega | (simp; done) | (simp; omega)) _ | refine Below.alloc ?_ (by first | omega | (simp; done) | (simp; omega)) _)⟩

end Go.Proofs.YtoofdihnflnaiaaGreatDoor.realMonotonic

namespace Go.Proofs.YtoofdihnflnaiaaGreatDoor.realMonotonic
open Go.RowKit
set_option linter.unusedVariables false

set_option maxRecDepth 100000 in
set_option maxHeartbeats 8000000 in
theorem sn (i j k c xm xe ym ye zm ze am ae ax bm be bx um ue ux vm ve vx rm re rx qm qe qx : Int) (w : World) (HAi : Hid (∀ W : World, Calls Tryz.prog 8 #[.int .i64 i] W fun r w' => r = .returned (realV ym ye) ∧ Below W.heap.size W w')) (HAj : Hid (∀ W : World, Calls Tryz.prog 8 #[.int .i64 j] W fun r w' => r = .returned (realV xm xe) ∧ Below W.heap.size W w')) (HAk : Hid (∀ W : World, Calls Tryz.prog 8 #[.int .i64 k] W fun r w' => r = .returned (realV zm ze) ∧ Below W.heap.size W w')) (HC : Hid (∀ W : World, Calls Tryz.prog 18 #[realV ym ye, realV xm xe] W fun r w' => r = .returned (.tuple #[.int .i64 c, .int .i64 0]) ∧ Below W.heap.size W w')) (HA1 : Hid (∀ W : World, Calls Tryz.prog 11 #[realV xm xe, realV zm ze] W fun r w' => r = .returned (rE am ae ax) ∧ Below W.heap.size W w')) (HA2 : Hid (∀ W : World, Calls Tryz.prog 11 #[realV ym ye, realV zm ze] W fun r w' => r = .returned (rE bm be bx) ∧ Below W.heap.size W w')) (HS1 : Hid (∀ W : World, Calls Tryz.prog 15 #[realV zm ze, realV ym ye] W fun r w' => r = .returned (rE um ue ux) ∧ Below W.heap.size W w')) (HS2 : Hid (∀ W : World, Calls Tryz.prog 15 #[realV zm ze, realV xm xe] W fun r w' => r = .returned (rE vm ve vx) ∧ Below W.heap.size W w')) (HO1 : Hid (∀ W : World, Calls Tryz.prog 24 #[realV am ae, .int .i64 ax, realV bm be, .int .i64 bx] W fun r w' => r = .returned (.bool true) ∧ Below W.heap.size W w')) (HO2 : Hid (∀ W : World, Calls Tryz.prog 24 #[realV um ue, .int .i64 ux, realV vm ve, .int .i64 vx] W fun r w' => r = .returned (.bool true) ∧ Below W.heap.size W w')) (HQ1 : Hid (∀ W : World, Calls Tryz.prog 25 #[realV xm xe] W fun r w' => r = .returned (rE rm re rx) ∧ Below W.heap.size W w')) (HQ2 : Hid (∀ W : World, Calls Tryz.prog 25 #[realV ym ye] W fun r w' => r = .returned (rE qm qe qx) ∧ Below W.heap.size W w')) (HO3 : Hid (∀ W : World, Calls Tryz.prog 24 #[realV rm re, .int .i64 rx, realV qm qe, .int .i64 qx] W fun r w' => r = .returned (.bool true) ∧ Below W.heap.size W w')) (hc : 0 < c) (hz : zm ≤ 0) (HSan : Hid (∀ W, Below w.heap.size w W → Calls Tryz.prog 19 #[] W fun r W' => r = .returned (.bool true) ∧ Below W.heap.size W W'))  :
    Calls Tryz.prog 6 #[.int .i64 i, .int .i64 j, .int .i64 k] w fun r w' => r = .returned (.bool true) ∧ Below w.heap.size w w' := by
  go_enter Tryz.func6, Tryz.ntmps6
  go_wp2_with fail
  refine (HAi.out _).mono ?_
  rintro e w1 ⟨rfl, hb1⟩
  have HB_1 := Lib.hid ((by repeat (first | exact Below.refl _ _ | refine Below.drew ?_ | refine Below.setCell ?_ (by first | omega | (simp; done) | (simp; omega)) _ | refine Below.alloc ?_ (by first | omega | (simp; done) | (simp; omega)) _) : Below w.heap.size w _).trans (hb1.mono (by first | omega | (simp; done) | (simp; omega))))
  have nz_1 : w.heap.size ≤ w1.heap.size := HB_1.out.size
  clear hb1
  go_wp2_with fail
  refine (HAj.out _).mono ?_
  rintro e w2 ⟨rfl, hb2⟩
  have x0_2 : w2.cell? ⟨w1.heap.size, 0, none⟩ = some (.int .i64 ym) := carry hb2 (by go_simp)
  have xf0_2 : w2.frozen? ⟨w1.heap.size, 0, none⟩ = false := carryF hb2 (v := .int .i64 ym) (by go_simp) (by go_simp)
  have x1_2 : w2.cell? ⟨w1.heap.size, 1, none⟩ = some (.int .i64 ye) := carry hb2 (by go_simp)
  have xf1_2 : w2.frozen? ⟨w1.heap.size, 1, none⟩ = false := carryF hb2 (v := .int .i64 ye) (by go_simp) (by go_simp)
  have xz_2 : w1.heap.size < w2.heap.size := by have := hb2.size; first | omega | (simp at this; omega)
  have HB_2 := Lib.hid ((by repeat (first | exact HB_1.out | refine Below.drew ?_ | refine Below.setCell ?_ (by first | omega | (simp; done) | (simp; omega)) _ | refine Below.alloc ?_ (by first | omega | (simp; done) | (simp; omega)) _) : Below w.heap.size w _).trans (hb2.mono (by first | omega | (simp; done) | (simp; omega))))
  have nz_2 : w.heap.size ≤ w2.heap.size := HB_2.out.size
  clear hb2 HB_1
  go_wp2_with fail
  refine (HAk.out _).mono ?_
  rintro e w3 ⟨rfl, hb3⟩
  have x0_3 : w3.cell? ⟨w1.heap.size, 0, none⟩ = some (.int .i64 ym) := carry hb3 (by go_simp)
  have xf0_3 : w3.frozen? ⟨w1.heap.size, 0, none⟩ = false := carryF hb3 (v := .int .i64 ym) (by go_simp) (by go_simp)
  have x1_3 : w3.cell? ⟨w1.heap.size, 1, none⟩ = some (.int .i64 ye) := carry hb3 (by go_simp)
  have xf1_3 : w3.frozen? ⟨w1.heap.size, 1, none⟩ = false := carryF hb3 (v := .int .i64 ye) (by go_simp) (by go_simp)
  have xz_3 : w1.heap.size < w3.heap.size := by have := hb3.size; first | omega | (simp at this; omega)
  have y0_3 : w3.cell? ⟨w2.heap.size, 0, none⟩ = some (.int .i64 xm) := carry hb3 (by go_simp)
  have yf0_3 : w3.frozen? ⟨w2.heap.size, 0, none⟩ = false := carryF hb3 (v := .int .i64 xm) (by go_simp) (by go_simp)
  have y1_3 : w3.cell? ⟨w2.heap.size, 1, none⟩ = some (.int .i64 xe) := carry hb3 (by go_simp)
  have yf1_3 : w3.frozen? ⟨w2.heap.size, 1, none⟩ = false := carryF hb3 (v := .int .i64 xe) (by go_simp) (by go_simp)
  have yz_3 : w2.heap.size < w3.heap.size := by have := hb3.size; first | omega | (simp at this; omega)
  have HB_3 := Lib.hid ((by repeat (first | exact HB_2.out | refine Below.drew ?_ | refine Below.setCell ?_ (by first | omega | (simp; done) | (simp; omega)) _ | refine Below.alloc ?_ (by first | omega | (simp; done) | (simp; omega)) _) : Below w.heap.size w _).trans (hb3.mono (by first | omega | (simp; done) | (simp; omega))))
  have nz_3 : w.heap.size ≤ w3.heap.size := HB_3.out.size
  clear hb3 x0_2 xf0_2 x1_2 xf1_2 HB_2
  go_wp2_with fail
  refine (HC.out _).mono ?_
  rintro e w4 ⟨rfl, hb4⟩
  have x0_4 : w4.cell? ⟨w1.heap.size, 0, none⟩ = some (.int .i64 ym) := carry hb4 (by go_simp)
  have xf0_4 : w4.frozen? ⟨w1.heap.size, 0, none⟩ = false := carryF hb4 (v := .int .i64 ym) (by go_simp) (by go_simp)
  have x1_4 : w4.cell? ⟨w1.heap.size, 1, none⟩ = some (.int .i64 ye) := carry hb4 (by go_simp)
  have xf1_4 : w4.frozen? ⟨w1.heap.size, 1, none⟩ = false := carryF hb4 (v := .int .i64 ye) (by go_simp) (by go_simp)
  have xz_4 : w1.heap.size < w4.heap.size := by have := hb4.size; first | omega | (simp at this; omega)
  have y0_4 : w4.cell? ⟨w2.heap.size, 0, none⟩ = some (.int .i64 xm) := carry hb4 (by go_simp)
  have yf0_4 : w4.frozen? ⟨w2.heap.size, 0, none⟩ = false := carryF hb4 (v := .int .i64 xm) (by go_simp) (by go_simp)
  have y1_4 : w4.cell? ⟨w2.heap.size, 1, none⟩ = some (.int .i64 xe) := carry hb4 (by go_simp)
  have yf1_4 : w4.frozen? ⟨w2.heap.size, 1, none⟩ = false := carryF hb4 (v := .int .i64 xe) (by go_simp) (by go_simp)
  have yz_4 : w2.heap.size < w4.heap.size := by have := hb4.size; first | omega | (simp at this; omega)
  have z0_4 : w4.cell? ⟨w3.heap.size, 0, none⟩ = some (.int .i64 zm) := carry hb4 (by go_simp)
  have z1_4 : w4.cell? ⟨w3.heap.size, 1, none⟩ = some (.int .i64 ze) := carry hb4 (by go_simp)
  have zz_4 : w3.heap.size < w4.heap.size := by have := hb4.size; first | omega | (simp at this; omega)
  have HB_4 := Lib.hid ((by repeat (first | exact HB_3.out | refine Below.drew ?_ | refine Below.setCell ?_ (by first | omega | (simp; done) | (simp; omega)) _ | refine Below.alloc ?_ (by first | omega | (simp; done) | (simp; omega)) _) : Below w.heap.size w _).trans (hb4.mono (by first | omega | (simp; done) | (simp; omega))))
  have nz_4 : w.heap.size ≤ w4.heap.size := HB_4.out.size
  clear hb4 x0_3 xf0_3 x1_3 xf1_3 y0_3 yf0_3 y1_3 yf1_3 HB_3
  go_wp2_with fail
  refine (HA1.out _).mono ?_
  rintro e w5 ⟨rfl, hb5⟩
  have x0_5 : w5.cell? ⟨w1.heap.size, 0, none⟩ = some (.int .i64 xm) := carry hb5 (by go_simp)
  have x1_5 : w5.cell? ⟨w1.heap.size, 1, none⟩ = some (.int .i64 xe) := carry hb5 (by go_simp)
  have xz_5 : w1.heap.size < w5.heap.size := by have := hb5.size; first | omega | (simp at this; omega)
  have y0_5 : w5.cell? ⟨w2.heap.size, 0, none⟩ = some (.int .i64 ym) := carry hb5 (by go_simp)
  have y1_5 : w5.cell? ⟨w2.heap.size, 1, none⟩ = some (.int .i64 ye) := carry hb5 (by go_simp)
  have yz_5 : w2.heap.size < w5.heap.size := by have := hb5.size; first | omega | (simp at this; omega)
  have z0_5 : w5.cell? ⟨w3.heap.size, 0, none⟩ = some (.int .i64 zm) := carry hb5 (by go_simp)
  have z1_5 : w5.cell? ⟨w3.heap.size, 1, none⟩ = some (.int .i64 ze) := carry hb5 (by go_simp)
  have zz_5 : w3.heap.size < w5.heap.size := by have := hb5.size; first | omega | (simp at this; omega)
  have HB_5 := Lib.hid ((by repeat (first | exact HB_4.out | refine Below.drew ?_ | refine Below.setCell ?_ (by first | omega | (simp; done) | (simp; omega)) _ | refine Below.alloc ?_ (by first | omega | (simp; done) | (simp; omega)) _) : Below w.heap.size w _).trans (hb5.mono (by first | omega | (simp; done) | (simp; omega))))
  have nz_5 : w.heap.size ≤ w5.heap.size := HB_5.out.size
  clear hb5 x0_4 xf0_4 x1_4 xf1_4 y0_4 yf0_4 y1_4 yf1_4 z0_4 z1_4 HB_4
  go_wp2_with fail
  refine (HA2.out _).mono ?_
  rintro e w6 ⟨rfl, hb6⟩
  have x0_6 : w6.cell? ⟨w1.heap.size, 0, none⟩ = some (.int .i64 xm) := carry hb6 (by go_simp)
  have x1_6 : w6.cell? ⟨w1.heap.size, 1, none⟩ = some (.int .i64 xe) := carry hb6 (by go_simp)
  have xz_6 : w1.heap.size < w6.heap.size := by have := hb6.size; first | omega | (simp at this; omega)
  have y0_6 : w6.cell? ⟨w2.heap.size, 0, none⟩ = some (.int .i64 ym) := carry hb6 (by go_simp)
  have y1_6 : w6.cell? ⟨w2.heap.size, 1, none⟩ = some (.int .i64 ye) := carry hb6 (by go_simp)
  have yz_6 : w2.heap.size < w6.heap.size := by have := hb6.size; first | omega | (simp at this; omega)
  have z0_6 : w6.cell? ⟨w3.heap.size, 0, none⟩ = some (.int .i64 zm) := carry hb6 (by go_simp)
  have z1_6 : w6.cell? ⟨w3.heap.size, 1, none⟩ = some (.int .i64 ze) := carry hb6 (by go_simp)
  have zz_6 : w3.heap.size < w6.heap.size := by have := hb6.size; first | omega | (simp at this; omega)
  have a0_6 : w6.cell? ⟨w5.heap.size, 0, none⟩ = some (.int .i64 am) := carry hb6 (by go_simp)
  have a1_6 : w6.cell? ⟨w5.heap.size, 1, none⟩ = some (.int .i64 ae) := carry hb6 (by go_simp)
  have az_6 : w5.heap.size < w6.heap.size := by have := hb6.size; first | omega | (simp at this; omega)
  have HB_6 := Lib.hid ((by repeat (first | exact HB_5.out | refine Below.drew ?_ | refine Below.setCell ?_ (by first | omega | (simp; done) | (simp; omega)) _ | refine Below.alloc ?_ (by first | omega | (simp; done) | (simp; omega)) _) : Below w.heap.size w _).trans (hb6.mono (by first | omega | (simp; done) | (simp; omega))))
  have nz_6 : w.heap.size ≤ w6.heap.size := HB_6.out.size
  clear hb6 x0_5 x1_5 y0_5 y1_5 z0_5 z1_5 HB_5
  go_wp2_with fail
  refine (HS1.out _).mono ?_
  rintro e w7 ⟨rfl, hb7⟩
  have x0_7 : w7.cell? ⟨w1.heap.size, 0, none⟩ = some (.int .i64 xm) := carry hb7 (by go_simp)
  have x1_7 : w7.cell? ⟨w1.heap.size, 1, none⟩ = some (.int .i64 xe) := carry hb7 (by go_simp)
  have xz_7 : w1.heap.size < w7.heap.size := by have := hb7.size; first | omega | (simp at this; omega)
  have y0_7 : w7.cell? ⟨w2.heap.size, 0, none⟩ = some (.int .i64 ym) := carry hb7 (by go_simp)
  have y1_7 : w7.cell? ⟨w2.heap.size, 1, none⟩ = some (.int .i64 ye) := carry hb7 (by go_simp)
  have yz_7 : w2.heap.size < w7.heap.size := by have := hb7.size; first | omega | (simp at this; omega)
  have z0_7 : w7.cell? ⟨w3.heap.size, 0, none⟩ = some (.int .i64 zm) := carry hb7 (by go_simp)
  have z1_7 : w7.cell? ⟨w3.heap.size, 1, none⟩ = some (.int .i64 ze) := carry hb7 (by go_simp)
  have zz_7 : w3.heap.size < w7.heap.size := by have := hb7.size; first | omega | (simp at this; omega)
  have a0_7 : w7.cell? ⟨w5.heap.size, 0, none⟩ = some (.int .i64 am) := carry hb7 (by go_simp)
  have a1_7 : w7.cell? ⟨w5.heap.size, 1, none⟩ = some (.int .i64 ae) := carry hb7 (by go_simp)
  have az_7 : w5.heap.size < w7.heap.size := by have := hb7.size; first | omega | (simp at this; omega)
  have b0_7 : w7.cell? ⟨w6.heap.size, 0, none⟩ = some (.int .i64 bm) := carry hb7 (by go_simp)
  have b1_7 : w7.cell? ⟨w6.heap.size, 1, none⟩ = some (.int .i64 be) := carry hb7 (by go_simp)
  have bz_7 : w6.heap.size < w7.heap.size := by have := hb7.size; first | omega | (simp at this; omega)
  have HB_7 := Lib.hid ((by repeat (first | exact HB_6.out | refine Below.drew ?_ | refine Below.setCell ?_ (by first | omega | (simp; done) | (simp; omega)) _ | refine Below.alloc ?_ (by first | omega | (simp; done) | (simp; omega)) _) : Below w.heap.size w _).trans (hb7.mono (by first | omega | (simp; done) | (simp; omega))))
  have nz_7 : w.heap.size ≤ w7.heap.size := HB_7.out.size
  clear hb7 x0_6 x1_6 y0_6 y1_6 z0_6 z1_6 a0_6 a1_6 HB_6
  go_wp2_with fail
  refine (HS2.out _).mono ?_
  rintro e w8 ⟨rfl, hb8⟩
  have x0_8 : w8.cell? ⟨w1.heap.size, 0, none⟩ = some (.int .i64 xm) := carry hb8 (by go_simp)
  have x1_8 : w8.cell? ⟨w1.heap.size, 1, none⟩ = some (.int .i64 xe) := carry hb8 (by go_simp)
  have xz_8 : w1.heap.size < w8.heap.size := by have := hb8.size; first | omega | (simp at this; omega)
  have y0_8 : w8.cell? ⟨w2.heap.size, 0, none⟩ = some (.int .i64 ym) := carry hb8 (by go_simp)
  have y1_8 : w8.cell? ⟨w2.heap.size, 1, none⟩ = some (.int .i64 ye) := carry hb8 (by go_simp)
  have yz_8 : w2.heap.size < w8.heap.size := by have := hb8.size; first | omega | (simp at this; omega)
  have z0_8 : w8.cell? ⟨w3.heap.size, 0, none⟩ = some (.int .i64 zm) := carry hb8 (by go_simp)
  have z1_8 : w8.cell? ⟨w3.heap.size, 1, none⟩ = some (.int .i64 ze) := carry hb8 (by go_simp)
  have zz_8 : w3.heap.size < w8.heap.size := by have := hb8.size; first | omega | (simp at this; omega)
  have a0_8 : w8.cell? ⟨w5.heap.size, 0, none⟩ = some (.int .i64 am) := carry hb8 (by go_simp)
  have a1_8 : w8.cell? ⟨w5.heap.size, 1, none⟩ = some (.int .i64 ae) := carry hb8 (by go_simp)
  have az_8 : w5.heap.size < w8.heap.size := by have := hb8.size; first | omega | (simp at this; omega)
  have b0_8 : w8.cell? ⟨w6.heap.size, 0, none⟩ = some (.int .i64 bm) := carry hb8 (by go_simp)
  have b1_8 : w8.cell? ⟨w6.heap.size, 1, none⟩ = some (.int .i64 be) := carry hb8 (by go_simp)
  have bz_8 : w6.heap.size < w8.heap.size := by have := hb8.size; first | omega | (simp at this; omega)
  have u0_8 : w8.cell? ⟨w7.heap.size, 0, none⟩ = some (.int .i64 um) := carry hb8 (by go_simp)
  have u1_8 : w8.cell? ⟨w7.heap.size, 1, none⟩ = some (.int .i64 ue) := carry hb8 (by go_simp)
  have uz_8 : w7.heap.size < w8.heap.size := by have := hb8.size; first | omega | (simp at this; omega)
  have HB_8 := Lib.hid ((by repeat (first | exact HB_7.out | refine Below.drew ?_ | refine Below.setCell ?_ (by first | omega | (simp; done) | (simp; omega)) _ | refine Below.alloc ?_ (by first | omega | (simp; done) | (simp; omega)) _) : Below w.heap.size w _).trans (hb8.mono (by first | omega | (simp; done) | (simp; omega))))
  have nz_8 : w.heap.size ≤ w8.heap.size := HB_8.out.size
  clear hb8 x0_7 x1_7 y0_7 y1_7 z0_7 z1_7 a0_7 a1_7 b0_7 b1_7 HB_7
  go_wp2_with fail
  refine (HO1.out _).mono ?_
  rintro e w9 ⟨rfl, hb9⟩
  have x0_9 : w9.cell? ⟨w1.heap.size, 0, none⟩ = some (.int .i64 xm) := carry hb9 (by go_simp)
  have x1_9 : w9.cell? ⟨w1.heap.size, 1, none⟩ = some (.int .i64 xe) := carry hb9 (by go_simp)
  have xz_9 : w1.heap.size < w9.heap.size := by have := hb9.size; first | omega | (simp at this; omega)
  have y0_9 : w9.cell? ⟨w2.heap.size, 0, none⟩ = some (.int .i64 ym) := carry hb9 (by go_simp)
  have y1_9 : w9.cell? ⟨w2.heap.size, 1, none⟩ = some (.int .i64 ye) := carry hb9 (by go_simp)
  have yz_9 : w2.heap.size < w9.heap.size := by have := hb9.size; first | omega | (simp at this; omega)
  have z0_9 : w9.cell? ⟨w3.heap.size, 0, none⟩ = some (.int .i64 zm) := carry hb9 (by go_simp)
  have z1_9 : w9.cell? ⟨w3.heap.size, 1, none⟩ = some (.int .i64 ze) := carry hb9 (by go_simp)
  have zz_9 : w3.heap.size < w9.heap.size := by have := hb9.size; first | omega | (simp at this; omega)
  have a0_9 : w9.cell? ⟨w5.heap.size, 0, none⟩ = some (.int .i64 am) := carry hb9 (by go_simp)
  have a1_9 : w9.cell? ⟨w5.heap.size, 1, none⟩ = some (.int .i64 ae) := carry hb9 (by go_simp)
  have az_9 : w5.heap.size < w9.heap.size := by have := hb9.size; first | omega | (simp at this; omega)
  have b0_9 : w9.cell? ⟨w6.heap.size, 0, none⟩ = some (.int .i64 bm) := carry hb9 (by go_simp)
  have b1_9 : w9.cell? ⟨w6.heap.size, 1, none⟩ = some (.int .i64 be) := carry hb9 (by go_simp)
  have bz_9 : w6.heap.size < w9.heap.size := by have := hb9.size; first | omega | (simp at this; omega)
  have u0_9 : w9.cell? ⟨w7.heap.size, 0, none⟩ = some (.int .i64 um) := carry hb9 (by go_simp)
  have u1_9 : w9.cell? ⟨w7.heap.size, 1, none⟩ = some (.int .i64 ue) := carry hb9 (by go_simp)
  have uz_9 : w7.heap.size < w9.heap.size := by have := hb9.size; first | omega | (simp at this; omega)
  have v0_9 : w9.cell? ⟨w8.heap.size, 0, none⟩ = some (.int .i64 vm) := carry hb9 (by go_simp)
  have v1_9 : w9.cell? ⟨w8.heap.size, 1, none⟩ = some (.int .i64 ve) := carry hb9 (by go_simp)
  have vz_9 : w8.heap.size < w9.heap.size := by have := hb9.size; first | omega | (simp at this; omega)
  have HB_9 := Lib.hid ((by repeat (first | exact HB_8.out | refine Below.drew ?_ | refine Below.setCell ?_ (by first | omega | (simp; done) | (simp; omega)) _ | refine Below.alloc ?_ (by first | omega | (simp; done) | (simp; omega)) _) : Below w.heap.size w _).trans (hb9.mono (by first | omega | (simp; done) | (simp; omega))))
  have nz_9 : w.heap.size ≤ w9.heap.size := HB_9.out.size
  clear hb9 x0_8 x1_8 y0_8 y1_8 z0_8 z1_8 a0_8 a1_8 b0_8 b1_8 u0_8 u1_8 HB_8
  go_wp2_with fail
  refine (HO2.out _).mono ?_
  rintro e w10 ⟨rfl, hb10⟩
  have x0_10 : w10.cell? ⟨w1.heap.size, 0, none⟩ = some (.int .i64 xm) := carry hb10 (by go_simp)
  have x1_10 : w10.cell? ⟨w1.heap.size, 1, none⟩ = some (.int .i64 xe) := carry hb10 (by go_simp)
  have xz_10 : w1.heap.size < w10.heap.size := by have := hb10.size; first | omega | (simp at this; omega)
  have y0_10 : w10.cell? ⟨w2.heap.size, 0, none⟩ = some (.int .i64 ym) := carry hb10 (by go_simp)
  have y1_10 : w10.cell? ⟨w2.heap.size, 1, none⟩ = some (.int .i64 ye) := carry hb10 (by go_simp)
  have yz_10 : w2.heap.size < w10.heap.size := by have := hb10.size; first | omega | (simp at this; omega)
  have z0_10 : w10.cell? ⟨w3.heap.size, 0, none⟩ = some (.int .i64 zm) := carry hb10 (by go_simp)
  have z1_10 : w10.cell? ⟨w3.heap.size, 1, none⟩ = some (.int .i64 ze) := carry hb10 (by go_simp)
  have zz_10 : w3.heap.size < w10.heap.size := by have := hb10.size; first | omega | (simp at this; omega)
  have a0_10 : w10.cell? ⟨w5.heap.size, 0, none⟩ = some (.int .i64 am) := carry hb10 (by go_simp)
  have a1_10 : w10.cell? ⟨w5.heap.size, 1, none⟩ = some (.int .i64 ae) := carry hb10 (by go_simp)
  have az_10 : w5.heap.size < w10.heap.size := by have := hb10.size; first | omega | (simp at this; omega)
  have b0_10 : w10.cell? ⟨w6.heap.size, 0, none⟩ = some (.int .i64 bm) := carry hb10 (by go_simp)
  have b1_10 : w10.cell? ⟨w6.heap.size, 1, none⟩ = some (.int .i64 be) := carry hb10 (by go_simp)
  have bz_10 : w6.heap.size < w10.heap.size := by have := hb10.size; first | omega | (simp at this; omega)
  have u0_10 : w10.cell? ⟨w7.heap.size, 0, none⟩ = some (.int .i64 um) := carry hb10 (by go_simp)
  have u1_10 : w10.cell? ⟨w7.heap.size, 1, none⟩ = some (.int .i64 ue) := carry hb10 (by go_simp)
  have uz_10 : w7.heap.size < w10.heap.size := by have := hb10.size; first | omega | (simp at this; omega)
  have v0_10 : w10.cell? ⟨w8.heap.size, 0, none⟩ = some (.int .i64 vm) := carry hb10 (by go_simp)
  have v1_10 : w10.cell? ⟨w8.heap.size, 1, none⟩ = some (.int .i64 ve) := carry hb10 (by go_simp)
  have vz_10 : w8.heap.size < w10.heap.size := by have := hb10.size; first | omega | (simp at this; omega)
  have HB_10 := Lib.hid ((by repeat (first | exact HB_9.out | refine Below.drew ?_ | refine Below.setCell ?_ (by first | omega | (simp; done) | (simp; omega)) _ | refine Below.alloc ?_ (by first | omega | (simp; done) | (simp; omega)) _) : Below w.heap.size w _).trans (hb10.mono (by first | omega | (simp; done) | (simp; omega))))
  have nz_10 : w.heap.size ≤ w10.heap.size := HB_10.out.size
  clear hb10 x0_9 x1_9 y0_9 y1_9 z0_9 z1_9 a0_9 a1_9 b0_9 b1_9 u0_9 u1_9 v0_9 v1_9 HB_9
  go_wp2_with fail
  refine (HQ1.out _).mono ?_
  rintro e w11 ⟨rfl, hb11⟩
  have x0_11 : w11.cell? ⟨w1.heap.size, 0, none⟩ = some (.int .i64 xm) := carry hb11 (by go_simp)
  have x1_11 : w11.cell? ⟨w1.heap.size, 1, none⟩ = some (.int .i64 xe) := carry hb11 (by go_simp)
  have xz_11 : w1.heap.size < w11.heap.size := by have := hb11.size; first | omega | (simp at this; omega)
  have y0_11 : w11.cell? ⟨w2.heap.size, 0, none⟩ = some (.int .i64 ym) := carry hb11 (by go_simp)
  have y1_11 : w11.cell? ⟨w2.heap.size, 1, none⟩ = some (.int .i64 ye) := carry hb11 (by go_simp)
  have yz_11 : w2.heap.size < w11.heap.size := by have := hb11.size; first | omega | (simp at this; omega)
  have z0_11 : w11.cell? ⟨w3.heap.size, 0, none⟩ = some (.int .i64 zm) := carry hb11 (by go_simp)
  have z1_11 : w11.cell? ⟨w3.heap.size, 1, none⟩ = some (.int .i64 ze) := carry hb11 (by go_simp)
  have zz_11 : w3.heap.size < w11.heap.size := by have := hb11.size; first | omega | (simp at this; omega)
  have HB_11 := Lib.hid ((by repeat (first | exact HB_10.out | refine Below.drew ?_ | refine Below.setCell ?_ (by first | omega | (simp; done) | (simp; omega)) _ | refine Below.alloc ?_ (by first | omega | (simp; done) | (simp; omega)) _) : Below w.heap.size w _).trans (hb11.mono (by first | omega | (simp; done) | (simp; omega))))
  have nz_11 : w.heap.size ≤ w11.heap.size := HB_11.out.size
  clear hb11 x0_10 x1_10 y0_10 y1_10 z0_10 z1_10 a0_10 a1_10 b0_10 b1_10 u0_10 u1_10 v0_10 v1_10 HB_10
  go_wp2_with fail
  refine (HQ2.out _).mono ?_
  rintro e w12 ⟨rfl, hb12⟩
  have y0_12 : w12.cell? ⟨w2.heap.size, 0, none⟩ = some (.int .i64 ym) := carry hb12 (by go_simp)
  have y1_12 : w12.cell? ⟨w2.heap.size, 1, none⟩ = some (.int .i64 ye) := carry hb12 (by go_simp)
  have yz_12 : w2.heap.size < w12.heap.size := by have := hb12.size; first | omega | (simp at this; omega)
  have z0_12 : w12.cell? ⟨w3.heap.size, 0, none⟩ = some (.int .i64 zm) := carry hb12 (by go_simp)
  have z1_12 : w12.cell? ⟨w3.heap.size, 1, none⟩ = some (.int .i64 ze) := carry hb12 (by go_simp)
  have zz_12 : w3.heap.size < w12.heap.size := by have := hb12.size; first | omega | (simp at this; omega)
  have r0_12 : w12.cell? ⟨w11.heap.size, 0, none⟩ = some (.int .i64 rm) := carry hb12 (by go_simp)
  have r1_12 : w12.cell? ⟨w11.heap.size, 1, none⟩ = some (.int .i64 re) := carry hb12 (by go_simp)
  have rz_12 : w11.heap.size < w12.heap.size := by have := hb12.size; first | omega | (simp at this; omega)
  have HB_12 := Lib.hid ((by repeat (first | exact HB_11.out | refine Below.drew ?_ | refine Below.setCell ?_ (by first | omega | (simp; done) | (simp; omega)) _ | refine Below.alloc ?_ (by first | omega | (simp; done) | (simp; omega)) _) : Below w.heap.size w _).trans (hb12.mono (by first | omega | (simp; done) | (simp; omega))))
  have nz_12 : w.heap.size ≤ w12.heap.size := HB_12.out.size
  clear hb12 x0_11 x1_11 y0_11 y1_11 z0_11 z1_11 HB_11
  go_wp2_with fail
  refine (HO3.out _).mono ?_
  rintro e w13 ⟨rfl, hb13⟩
  have z0_13 : w13.cell? ⟨w3.heap.size, 0, none⟩ = some (.int .i64 zm) := carry hb13 (by go_simp)
  have z1_13 : w13.cell? ⟨w3.heap.size, 1, none⟩ = some (.int .i64 ze) := carry hb13 (by go_simp)
  have zz_13 : w3.heap.size < w13.heap.size := by have := hb13.size; first | omega | (simp at this; omega)
  have r0_13 : w13.cell? ⟨w11.heap.size, 0, none⟩ = some (.int .i64 rm) := carry hb13 (by go_simp)
  have r1_13 : w13.cell? ⟨w11.heap.size, 1, none⟩ = some (.int .i64 re) := carry hb13 (by go_simp)
  have rz_13 : w11.heap.size < w13.heap.size := by have := hb13.size; first | omega | (simp at this; omega)
  have q0_13 : w13.cell? ⟨w12.heap.size, 0, none⟩ = some (.int .i64 qm) := carry hb13 (by go_simp)
  have q1_13 : w13.cell? ⟨w12.heap.size, 1, none⟩ = some (.int .i64 qe) := carry hb13 (by go_simp)
  have qz_13 : w12.heap.size < w13.heap.size := by have := hb13.size; first | omega | (simp at this; omega)
  have HB_13 := Lib.hid ((by repeat (first | exact HB_12.out | refine Below.drew ?_ | refine Below.setCell ?_ (by first | omega | (simp; done) | (simp; omega)) _ | refine Below.alloc ?_ (by first | omega | (simp; done) | (simp; omega)) _) : Below w.heap.size w _).trans (hb13.mono (by first | omega | (simp; done) | (simp; omega))))
  have nz_13 : w.heap.size ≤ w13.heap.size := HB_13.out.size
  clear hb13 y0_12 y1_12 z0_12 z1_12 r0_12 r1_12 HB_12
  go_wp2_with fail
  refine (HSan.out _ (by repeat (first | exact HB_13.out | refine Below.drew ?_ | refine Below.setCell ?_ (by first | omega | (simp; done) | (simp; omega)) _ | refine Below.alloc ?_ (by first | omega | (simp; done) | (simp; omega)) _))).mono ?_
  rintro e w14 ⟨rfl, hb14⟩
  have HB_14 := Lib.hid ((by repeat (first | exact HB_13.out | refine Below.drew ?_ | refine Below.setCell ?_ (by first | omega | (simp; done) | (simp; omega)) _ | refine Below.alloc ?_ (by first | omega | (simp; done) | (simp; omega)) _) : Below w.heap.size w _).trans (hb14.mono (by first | omega | (simp; done) | (simp; omega))))
  have nz_14 : w.heap.size ≤ w14.heap.size := HB_14.out.size
  clear hb14 z0_13 z1_13 r0_13 r1_13 q0_13 q1_13 HB_13
  go_wp2_with fail
  go_ret
  exact ⟨rfl, by repeat (first | exact HB_14.out | refine Below.drew ?_ | refine Below.setCell ?_ (by first | omega | (simp; done) | (simp; omega)) _ | refine Below.alloc ?_ (by first | omega | (simp; done) | (simp; omega)) _)⟩

set_option maxRecDepth 100000 in
set_option maxHeartbeats 8000000 in
theorem sp (i j k c xm xe ym ye zm ze am ae ax bm be bx um ue ux vm ve vx rm re rx qm qe qx cm ce cx dm de dx gm ge gx hm he hx : Int) (w : World) (HAi : Hid (∀ W : World, Calls Tryz.prog 8 #[.int .i64 i] W fun r w' => r = .returned (realV ym ye) ∧ Below W.heap.size W w')) (HAj : Hid (∀ W : World, Calls Tryz.prog 8 #[.int .i64 j] W fun r w' => r = .returned (realV xm xe) ∧ Below W.heap.size W w')) (HAk : Hid (∀ W : World, Calls Tryz.prog 8 #[.int .i64 k] W fun r w' => r = .returned (realV zm ze) ∧ Below W.heap.size W w')) (HC : Hid (∀ W : World, Calls Tryz.prog 18 #[realV ym ye, realV xm xe] W fun r w' => r = .returned (.tuple #[.int .i64 c, .int .i64 0]) ∧ Below W.heap.size W w')) (HA1 : Hid (∀ W : World, Calls Tryz.prog 11 #[realV xm xe, realV zm ze] W fun r w' => r = .returned (rE am ae ax) ∧ Below W.heap.size W w')) (HA2 : Hid (∀ W : World, Calls Tryz.prog 11 #[realV ym ye, realV zm ze] W fun r w' => r = .returned (rE bm be bx) ∧ Below W.heap.size W w')) (HS1 : Hid (∀ W : World, Calls Tryz.prog 15 #[realV zm ze, realV ym ye] W fun r w' => r = .returned (rE um ue ux) ∧ Below W.heap.size W w')) (HS2 : Hid (∀ W : World, Calls Tryz.prog 15 #[realV zm ze, realV xm xe] W fun r w' => r = .returned (rE vm ve vx) ∧ Below W.heap.size W w')) (HO1 : Hid (∀ W : World, Calls Tryz.prog 24 #[realV am ae, .int .i64 ax, realV bm be, .int .i64 bx] W fun r w' => r = .returned (.bool true) ∧ Below W.heap.size W w')) (HO2 : Hid (∀ W : World, Calls Tryz.prog 24 #[realV um ue, .int .i64 ux, realV vm ve, .int .i64 vx] W fun r w' => r = .returned (.bool true) ∧ Below W.heap.size W w')) (HQ1 : Hid (∀ W : World, Calls Tryz.prog 25 #[realV xm xe] W fun r w' => r = .returned (rE rm re rx) ∧ Below W.heap.size W w')) (HQ2 : Hid (∀ W : World, Calls Tryz.prog 25 #[realV ym ye] W fun r w' => r = .returned (rE qm qe qx) ∧ Below W.heap.size W w')) (HO3 : Hid (∀ W : World, Calls Tryz.prog 24 #[realV rm re, .int .i64 rx, realV qm qe, .int .i64 qx] W fun r w' => r = .returned (.bool true) ∧ Below W.heap.size W w')) (hc : 0 < c) (hz : ¬ zm ≤ 0) (HM1 : Hid (∀ W : World, Calls Tryz.prog 13 #[realV xm xe, realV zm ze] W fun r w' => r = .returned (rE cm ce cx) ∧ Below W.heap.size W w')) (HM2 : Hid (∀ W : World, Calls Tryz.prog 13 #[realV ym ye, realV zm ze] W fun r w' => r = .returned (rE dm de dx) ∧ Below W.heap.size W w')) (HD1 : Hid (∀ W : World, Calls Tryz.prog 14 #[realV xm xe, realV zm ze] W fun r w' => r = .returned (rE gm ge gx) ∧ Below W.heap.size W w')) (HD2 : Hid (∀ W : World, Calls Tryz.prog 14 #[realV ym ye, realV zm ze] W fun r w' => r = .returned (rE hm he hx) ∧ Below W.heap.size W w')) (HO4 : Hid (∀ W : World, Calls Tryz.prog 24 #[realV cm ce, .int .i64 cx, realV dm de, .int .i64 dx] W fun r w' => r = .returned (.bool true) ∧ Below W.heap.size W w')) (HO5 : Hid (∀ W : World, Calls Tryz.prog 24 #[realV gm ge, .int .i64 gx, realV hm he, .int .i64 hx] W fun r w' => r = .returned (.bool true) ∧ Below W.heap.size W w')) (HSan : Hid (∀ W, Below w.heap.size w W → Calls Tryz.prog 19 #[] W fun r W' => r = .returned (.bool true) ∧ Below W.heap.size W W'))  :
    Calls Tryz.prog 6 #[.int .i64 i, .int .i64 j, .int .i64 k] w fun r w' => r = .returned (.bool true) ∧ Below w.heap.size w w' := by
  go_enter Tryz.func6, Tryz.ntmps6
  go_wp2_with fail
  refine (HAi.out _).mono ?_
  rintro e w1 ⟨rfl, hb1⟩
  have HB_1 := Lib.hid ((by repeat (first | exact Below.refl _ _ | refine Below.drew ?_ | refine Below.setCell ?_ (by first | omega | (simp; done) | (simp; omega)) _ | refine Below.alloc ?_ (by first | omega | (simp; done) | (simp; omega)) _) : Below w.heap.size w _).trans (hb1.mono (by first | omega | (simp; done) | (simp; omega))))
  have nz_1 : w.heap.size ≤ w1.heap.size := HB_1.out.size
  clear hb1
  go_wp2_with fail
  refine (HAj.out _).mono ?_
  rintro e w2 ⟨rfl, hb2⟩
  have x0_2 : w2.cell? ⟨w1.heap.size, 0, none⟩ = some (.int .i64 ym) := carry hb2 (by go_simp)
  have xf0_2 : w2.frozen? ⟨w1.heap.size, 0, none⟩ = false := carryF hb2 (v := .int .i64 ym) (by go_simp) (by go_simp)
  have x1_2 : w2.cell? ⟨w1.heap.size, 1, none⟩ = some (.int .i64 ye) := carry hb2 (by go_simp)
  have xf1_2 : w2.frozen? ⟨w1.heap.size, 1, none⟩ = false := carryF hb2 (v := .int .i64 ye) (by go_simp) (by go_simp)
  have xz_2 : w1.heap.size < w2.heap.size := by have := hb2.size; first | omega | (simp at this; omega)
  have HB_2 := Lib.hid ((by repeat (first | exact HB_1.out | refine Below.drew ?_ | refine Below.setCell ?_ (by first | omega | (simp; done) | (simp; omega)) _ | refine Below.alloc ?_ (by first | omega | (simp; done) | (simp; omega)) _) : Below w.heap.size w _).trans (hb2.mono (by first | omega | (simp; done) | (simp; omega))))
  have nz_2 : w.heap.size ≤ w2.heap.size := HB_2.out.size
  clear hb2 HB_1
  go_wp2_with fail
  refine (HAk.out _).mono ?_
  rintro e w3 ⟨rfl, hb3⟩
  have x0_3 : w3.cell? ⟨w1.heap.size, 0, none⟩ = some (.int .i64 ym) := carry hb3 (by go_simp)
  have xf0_3 : w3.frozen? ⟨w1.heap.size, 0, none⟩ = false := carryF hb3 (v := .int .i64 ym) (by go_simp) (by go_simp)
  have x1_3 : w3.cell? ⟨w1.heap.size, 1, none⟩ = some (.int .i64 ye) := carry hb3 (by go_simp)
  have xf1_3 : w3.frozen? ⟨w1.heap.size, 1, none⟩ = false := carryF hb3 (v := .int .i64 ye) (by go_simp) (by go_simp)
  have xz_3 : w1.heap.size < w3.heap.size := by have := hb3.size; first | omega | (simp at this; omega)
  have y0_3 : w3.cell? ⟨w2.heap.size, 0, none⟩ = some (.int .i64 xm) := carry hb3 (by go_simp)
  have yf0_3 : w3.frozen? ⟨w2.heap.size, 0, none⟩ = false := carryF hb3 (v := .int .i64 xm) (by go_simp) (by go_simp)
  have y1_3 : w3.cell? ⟨w2.heap.size, 1, none⟩ = some (.int .i64 xe) := carry hb3 (by go_simp)
  have yf1_3 : w3.frozen? ⟨w2.heap.size, 1, none⟩ = false := carryF hb3 (v := .int .i64 xe) (by go_simp) (by go_simp)
  have yz_3 : w2.heap.size < w3.heap.size := by have := hb3.size; first | omega | (simp at this; omega)
  have HB_3 := Lib.hid ((by repeat (first | exact HB_2.out | refine Below.drew ?_ | refine Below.setCell ?_ (by first | omega | (simp; done) | (simp; omega)) _ | refine Below.alloc ?_ (by first | omega | (simp; done) | (simp; omega)) _) : Below w.heap.size w _).trans (hb3.mono (by first | omega | (simp; done) | (simp; omega))))
  have nz_3 : w.heap.size ≤ w3.heap.size := HB_3.out.size
  clear hb3 x0_2 xf0_2 x1_2 xf1_2 HB_2
  go_wp2_with fail
  refine (HC.out _).mono ?_
  rintro e w4 ⟨rfl, hb4⟩
  have x0_4 : w4.cell? ⟨w1.heap.size, 0, none⟩ = some (.int .i64 ym) := carry hb4 (by go_simp)
  have xf0_4 : w4.frozen? ⟨w1.heap.size, 0, none⟩ = false := carryF hb4 (v := .int .i64 ym) (by go_simp) (by go_simp)
  have x1_4 : w4.cell? ⟨w1.heap.size, 1, none⟩ = some (.int .i64 ye) := carry hb4 (by go_simp)
  have xf1_4 : w4.frozen? ⟨w1.heap.size, 1, none⟩ = false := carryF hb4 (v := .int .i64 ye) (by go_simp) (by go_simp)
  have xz_4 : w1.heap.size < w4.heap.size := by have := hb4.size; first | omega | (simp at this; omega)
  have y0_4 : w4.cell? ⟨w2.heap.size, 0, none⟩ = some (.int .i64 xm) := carry hb4 (by go_simp)
  have yf0_4 : w4.frozen? ⟨w2.heap.size, 0, none⟩ = false := carryF hb4 (v := .int .i64 xm) (by go_simp) (by go_simp)
  have y1_4 : w4.cell? ⟨w2.heap.size, 1, none⟩ = some (.int .i64 xe) := carry hb4 (by go_simp)
  have yf1_4 : w4.frozen? ⟨w2.heap.size, 1, none⟩ = false := carryF hb4 (v := .int .i64 xe) (by go_simp) (by go_simp)
  have yz_4 : w2.heap.size < w4.heap.size := by have := hb4.size; first | omega | (simp at this; omega)
  have z0_4 : w4.cell? ⟨w3.heap.size, 0, none⟩ = some (.int .i64 zm) := carry hb4 (by go_simp)
  have z1_4 : w4.cell? ⟨w3.heap.size, 1, none⟩ = some (.int .i64 ze) := carry hb4 (by go_simp)
  have zz_4 : w3.heap.size < w4.heap.size := by have := hb4.size; first | omega | (simp at this; omega)
  have HB_4 := Lib.hid ((by repeat (first | exact HB_3.out | refine Below.drew ?_ | refine Below.setCell ?_ (by first | omega | (simp; done) | (simp; omega)) _ | refine Below.alloc ?_ (by first | omega | (simp; done) | (simp; omega)) _) : Below w.heap.size w _).trans (hb4.mono (by first | omega | (simp; done) | (simp; omega))))
  have nz_4 : w.heap.size ≤ w4.heap.size := HB_4.out.size
  clear hb4 x0_3 xf0_3 x1_3 xf1_3 y0_3 yf0_3 y1_3 yf1_3 HB_3
  go_wp2_with fail
  refine (HA1.out _).mono ?_
  rintro e w5 ⟨rfl, hb5⟩
  have x0_5 : w5.cell? ⟨w1.heap.size, 0, none⟩ = some (.int .i64 xm) := carry hb5 (by go_simp)
  have x1_5 : w5.cell? ⟨w1.heap.size, 1, none⟩ = some (.int .i64 xe) := carry hb5 (by go_simp)
  have xz_5 : w1.heap.size < w5.heap.size := by have := hb5.size; first | omega | (simp at this; omega)
  have y0_5 : w5.cell? ⟨w2.heap.size, 0, none⟩ = some (.int .i64 ym) := carry hb5 (by go_simp)
  have y1_5 : w5.cell? ⟨w2.heap.size, 1, none⟩ = some (.int .i64 ye) := carry hb5 (by go_simp)
  have yz_5 : w2.heap.size < w5.heap.size := by have := hb5.size; first | omega | (simp at this; omega)
  have z0_5 : w5.cell? ⟨w3.heap.size, 0, none⟩ = some (.int .i64 zm) := carry hb5 (by go_simp)
  have z1_5 : w5.cell? ⟨w3.heap.size, 1, none⟩ = some (.int .i64 ze) := carry hb5 (by go_simp)
  have zz_5 : w3.heap.size < w5.heap.size := by have := hb5.size; first | omega | (simp at this; omega)
  have HB_5 := Lib.hid ((by repeat (first | exact HB_4.out | refine Below.drew ?_ | refine Below.setCell ?_ (by first | omega | (simp; done) | (simp; omega)) _ | refine Below.alloc ?_ (by first | omega | (simp; done) | (simp; omega)) _) : Below w.heap.size w _).trans (hb5.mono (by first | omega | (simp; done) | (simp; omega))))
  have nz_5 : w.heap.size ≤ w5.heap.size := HB_5.out.size
  clear hb5 x0_4 xf0_4 x1_4 xf1_4 y0_4 yf0_4 y1_4 yf1_4 z0_4 z1_4 HB_4
  go_wp2_with fail
  refine (HA2.out _).mono ?_
  rintro e w6 ⟨rfl, hb6⟩
  have x0_6 : w6.cell? ⟨w1.heap.size, 0, none⟩ = some (.int .i64 xm) := carry hb6 (by go_simp)
  have x1_6 : w6.cell? ⟨w1.heap.size, 1, none⟩ = some (.int .i64 xe) := carry hb6 (by go_simp)
  have xz_6 : w1.heap.size < w6.heap.size := by have := hb6.size; first | omega | (simp at this; omega)
  have y0_6 : w6.cell? ⟨w2.heap.size, 0, none⟩ = some (.int .i64 ym) := carry hb6 (by go_simp)
  have y1_6 : w6.cell? ⟨w2.heap.size, 1, none⟩ = some (.int .i64 ye) := carry hb6 (by go_simp)
  have yz_6 : w2.heap.size < w6.heap.size := by have := hb6.size; first | omega | (simp at this; omega)
  have z0_6 : w6.cell? ⟨w3.heap.size, 0, none⟩ = some (.int .i64 zm) := carry hb6 (by go_simp)
  have z1_6 : w6.cell? ⟨w3.heap.size, 1, none⟩ = some (.int .i64 ze) := carry hb6 (by go_simp)
  have zz_6 : w3.heap.size < w6.heap.size := by have := hb6.size; first | omega | (simp at this; omega)
  have a0_6 : w6.cell? ⟨w5.heap.size, 0, none⟩ = some (.int .i64 am) := carry hb6 (by go_simp)
  have af0_6 : w6.frozen? ⟨w5.heap.size, 0, none⟩ = false := carryF hb6 (v := .int .i64 am) (by go_simp) (by go_simp)
  have a1_6 : w6.cell? ⟨w5.heap.size, 1, none⟩ = some (.int .i64 ae) := carry hb6 (by go_simp)
  have af1_6 : w6.frozen? ⟨w5.heap.size, 1, none⟩ = false := carryF hb6 (v := .int .i64 ae) (by go_simp) (by go_simp)
  have az_6 : w5.heap.size < w6.heap.size := by have := hb6.size; first | omega | (simp at this; omega)
  have HB_6 := Lib.hid ((by repeat (first | exact HB_5.out | refine Below.drew ?_ | refine Below.setCell ?_ (by first | omega | (simp; done) | (simp; omega)) _ | refine Below.alloc ?_ (by first | omega | (simp; done) | (simp; omega)) _) : Below w.heap.size w _).trans (hb6.mono (by first | omega | (simp; done) | (simp; omega))))
  have nz_6 : w.heap.size ≤ w6.heap.size := HB_6.out.size
  clear hb6 x0_5 x1_5 y0_5 y1_5 z0_5 z1_5 HB_5
  go_wp2_with fail
  refine (HS1.out _).mono ?_
  rintro e w7 ⟨rfl, hb7⟩
  have x0_7 : w7.cell? ⟨w1.heap.size, 0, none⟩ = some (.int .i64 xm) := carry hb7 (by go_simp)
  have x1_7 : w7.cell? ⟨w1.heap.size, 1, none⟩ = some (.int .i64 xe) := carry hb7 (by go_simp)
  have xz_7 : w1.heap.size < w7.heap.size := by have := hb7.size; first | omega | (simp at this; omega)
  have y0_7 : w7.cell? ⟨w2.heap.size, 0, none⟩ = some (.int .i64 ym) := carry hb7 (by go_simp)
  have y1_7 : w7.cell? ⟨w2.heap.size, 1, none⟩ = some (.int .i64 ye) := carry hb7 (by go_simp)
  have yz_7 : w2.heap.size < w7.heap.size := by have := hb7.size; first | omega | (simp at this; omega)
  have z0_7 : w7.cell? ⟨w3.heap.size, 0, none⟩ = some (.int .i64 zm) := carry hb7 (by go_simp)
  have z1_7 : w7.cell? ⟨w3.heap.size, 1, none⟩ = some (.int .i64 ze) := carry hb7 (by go_simp)
  have zz_7 : w3.heap.size < w7.heap.size := by have := hb7.size; first | omega | (simp at this; omega)
  have a0_7 : w7.cell? ⟨w5.heap.size, 0, none⟩ = some (.int .i64 am) := carry hb7 (by go_simp)
  have af0_7 : w7.frozen? ⟨w5.heap.size, 0, none⟩ = false := carryF hb7 (v := .int .i64 am) (by go_simp) (by go_simp)
  have a1_7 : w7.cell? ⟨w5.heap.size, 1, none⟩ = some (.int .i64 ae) := carry hb7 (by go_simp)
  have af1_7 : w7.frozen? ⟨w5.heap.size, 1, none⟩ = false := carryF hb7 (v := .int .i64 ae) (by go_simp) (by go_simp)
  have az_7 : w5.heap.size < w7.heap.size := by have := hb7.size; first | omega | (simp at this; omega)
  have b0_7 : w7.cell? ⟨w6.heap.size, 0, none⟩ = some (.int .i64 bm) := carry hb7 (by go_simp)
  have bf0_7 : w7.frozen? ⟨w6.heap.size, 0, none⟩ = false := carryF hb7 (v := .int .i64 bm) (by go_simp) (by go_simp)
  have b1_7 : w7.cell? ⟨w6.heap.size, 1, none⟩ = some (.int .i64 be) := carry hb7 (by go_simp)
  have bf1_7 : w7.frozen? ⟨w6.heap.size, 1, none⟩ = false := carryF hb7 (v := .int .i64 be) (by go_simp) (by go_simp)
  have bz_7 : w6.heap.size < w7.heap.size := by have := hb7.size; first | omega | (simp at this; omega)
  have HB_7 := Lib.hid ((by repeat (first | exact HB_6.out | refine Below.drew ?_ | refine Below.setCell ?_ (by first | omega | (simp; done) | (simp; omega)) _ | refine Below.alloc ?_ (by first | omega | (simp; done) | (simp; omega)) _) : Below w.heap.size w _).trans (hb7.mono (by first | omega | (simp; done) | (simp; omega))))
  have nz_7 : w.heap.size ≤ w7.heap.size := HB_7.out.size
  clear hb7 x0_6 x1_6 y0_6 y1_6 z0_6 z1_6 a0_6 af0_6 a1_6 af1_6 HB_6
  go_wp2_with fail
  refine (HS2.out _).mono ?_
  rintro e w8 ⟨rfl, hb8⟩
  have x0_8 : w8.cell? ⟨w1.heap.size, 0, none⟩ = some (.int .i64 xm) := carry hb8 (by go_simp)
  have x1_8 : w8.cell? ⟨w1.heap.size, 1, none⟩ = some (.int .i64 xe) := carry hb8 (by go_simp)
  have xz_8 : w1.heap.size < w8.heap.size := by have := hb8.size; first | omega | (simp at this; omega)
  have y0_8 : w8.cell? ⟨w2.heap.size, 0, none⟩ = some (.int .i64 ym) := carry hb8 (by go_simp)
  have y1_8 : w8.cell? ⟨w2.heap.size, 1, none⟩ = some (.int .i64 ye) := carry hb8 (by go_simp)
  have yz_8 : w2.heap.size < w8.heap.size := by have := hb8.size; first | omega | (simp at this; omega)
  have z0_8 : w8.cell? ⟨w3.heap.size, 0, none⟩ = some (.int .i64 zm) := carry hb8 (by go_simp)
  have z1_8 : w8.cell? ⟨w3.heap.size, 1, none⟩ = some (.int .i64 ze) := carry hb8 (by go_simp)
  have zz_8 : w3.heap.size < w8.heap.size := by have := hb8.size; first | omega | (simp at this; omega)
  have a0_8 : w8.cell? ⟨w5.heap.size, 0, none⟩ = some (.int .i64 am) := carry hb8 (by go_simp)
  have af0_8 : w8.frozen? ⟨w5.heap.size, 0, none⟩ = false := carryF hb8 (v := .int .i64 am) (by go_simp) (by go_simp)
  have a1_8 : w8.cell? ⟨w5.heap.size, 1, none⟩ = some (.int .i64 ae) := carry hb8 (by go_simp)
  have af1_8 : w8.frozen? ⟨w5.heap.size, 1, none⟩ = false := carryF hb8 (v := .int .i64 ae) (by go_simp) (by go_simp)
  have az_8 : w5.heap.size < w8.heap.size := by have := hb8.size; first | omega | (simp at this; omega)
  have b0_8 : w8.cell? ⟨w6.heap.size, 0, none⟩ = some (.int .i64 bm) := carry hb8 (by go_simp)
  have bf0_8 : w8.frozen? ⟨w6.heap.size, 0, none⟩ = false := carryF hb8 (v := .int .i64 bm) (by go_simp) (by go_simp)
  have b1_8 : w8.cell? ⟨w6.heap.size, 1, none⟩ = some (.int .i64 be) := carry hb8 (by go_simp)
  have bf1_8 : w8.frozen? ⟨w6.heap.size, 1, none⟩ = false := carryF hb8 (v := .int .i64 be) (by go_simp) (by go_simp)
  have bz_8 : w6.heap.size < w8.heap.size := by have := hb8.size; first | omega | (simp at this; omega)
  have u0_8 : w8.cell? ⟨w7.heap.size, 0, none⟩ = some (.int .i64 um) := carry hb8 (by go_simp)
  have uf0_8 : w8.frozen? ⟨w7.heap.size, 0, none⟩ = false := carryF hb8 (v := .int .i64 um) (by go_simp) (by go_simp)
  have u1_8 : w8.cell? ⟨w7.heap.size, 1, none⟩ = some (.int .i64 ue) := carry hb8 (by go_simp)
  have uf1_8 : w8.frozen? ⟨w7.heap.size, 1, none⟩ = false := carryF hb8 (v := .int .i64 ue) (by go_simp) (by go_simp)
  have uz_8 : w7.heap.size < w8.heap.size := by have := hb8.size; first | omega | (simp at this; omega)
  have HB_8 := Lib.hid ((by repeat (first | exact HB_7.out | refine Below.drew ?_ | refine Below.setCell ?_ (by first | omega | (simp; done) | (simp; omega)) _ | refine Below.alloc ?_ (by first | omega | (simp; done) | (simp; omega)) _) : Below w.heap.size w _).trans (hb8.mono (by first | omega | (simp; done) | (simp; omega))))
  have nz_8 : w.heap.size ≤ w8.heap.size := HB_8.out.size
  clear hb8 x0_7 x1_7 y0_7 y1_7 z0_7 z1_7 a0_7 af0_7 a1_7 af1_7 b0_7 bf0_7 b1_7 bf1_7 HB_7
  go_wp2_with fail
  refine (HO1.out _).mono ?_
  rintro e w9 ⟨rfl, hb9⟩
  have x0_9 : w9.cell? ⟨w1.heap.size, 0, none⟩ = some (.int .i64 xm) := carry hb9 (by go_simp)
  have x1_9 : w9.cell? ⟨w1.heap.size, 1, none⟩ = some (.int .i64 xe) := carry hb9 (by go_simp)
  have xz_9 : w1.heap.size < w9.heap.size := by have := hb9.size; first | omega | (simp at this; omega)
  have y0_9 : w9.cell? ⟨w2.heap.size, 0, none⟩ = some (.int .i64 ym) := carry hb9 (by go_simp)
  have y1_9 : w9.cell? ⟨w2.heap.size, 1, none⟩ = some (.int .i64 ye) := carry hb9 (by go_simp)
  have yz_9 : w2.heap.size < w9.heap.size := by have := hb9.size; first | omega | (simp at this; omega)
  have z0_9 : w9.cell? ⟨w3.heap.size, 0, none⟩ = some (.int .i64 zm) := carry hb9 (by go_simp)
  have z1_9 : w9.cell? ⟨w3.heap.size, 1, none⟩ = some (.int .i64 ze) := carry hb9 (by go_simp)
  have zz_9 : w3.heap.size < w9.heap.size := by have := hb9.size; first | omega | (simp at this; omega)
  have a0_9 : w9.cell? ⟨w5.heap.size, 0, none⟩ = some (.int .i64 am) := carry hb9 (by go_simp)
  have af0_9 : w9.frozen? ⟨w5.heap.size, 0, none⟩ = false := carryF hb9 (v := .int .i64 am) (by go_simp) (by go_simp)
  have a1_9 : w9.cell? ⟨w5.heap.size, 1, none⟩ = some (.int .i64 ae) := carry hb9 (by go_simp)
  have af1_9 : w9.frozen? ⟨w5.heap.size, 1, none⟩ = false := carryF hb9 (v := .int .i64 ae) (by go_simp) (by go_simp)
  have az_9 : w5.heap.size < w9.heap.size := by have := hb9.size; first | omega | (simp at this; omega)
  have b0_9 : w9.cell? ⟨w6.heap.size, 0, none⟩ = some (.int .i64 bm) := carry hb9 (by go_simp)
  have bf0_9 : w9.frozen? ⟨w6.heap.size, 0, none⟩ = false := carryF hb9 (v := .int .i64 bm) (by go_simp) (by go_simp)
  have b1_9 : w9.cell? ⟨w6.heap.size, 1, none⟩ = some (.int .i64 be) := carry hb9 (by go_simp)
  have bf1_9 : w9.frozen? ⟨w6.heap.size, 1, none⟩ = false := carryF hb9 (v := .int .i64 be) (by go_simp) (by go_simp)
  have bz_9 : w6.heap.size < w9.heap.size := by have := hb9.size; first | omega | (simp at this; omega)
  have u0_9 : w9.cell? ⟨w7.heap.size, 0, none⟩ = some (.int .i64 um) := carry hb9 (by go_simp)
  have uf0_9 : w9.frozen? ⟨w7.heap.size, 0, none⟩ = false := carryF hb9 (v := .int .i64 um) (by go_simp) (by go_simp)
  have u1_9 : w9.cell? ⟨w7.heap.size, 1, none⟩ = some (.int .i64 ue) := carry hb9 (by go_simp)
  have uf1_9 : w9.frozen? ⟨w7.heap.size, 1, none⟩ = false := carryF hb9 (v := .int .i64 ue) (by go_simp) (by go_simp)
  have uz_9 : w7.heap.size < w9.heap.size := by have := hb9.size; first | omega | (simp at this; omega)
  have v0_9 : w9.cell? ⟨w8.heap.size, 0, none⟩ = some (.int .i64 vm) := carry hb9 (by go_simp)
  have vf0_9 : w9.frozen? ⟨w8.heap.size, 0, none⟩ = false := carryF hb9 (v := .int .i64 vm) (by go_simp) (by go_simp)
  have v1_9 : w9.cell? ⟨w8.heap.size, 1, none⟩ = some (.int .i64 ve) := carry hb9 (by go_simp)
  have vf1_9 : w9.frozen? ⟨w8.heap.size, 1, none⟩ = false := carryF hb9 (v := .int .i64 ve) (by go_simp) (by go_simp)
  have vz_9 : w8.heap.size < w9.heap.size := by have := hb9.size; first | omega | (simp at this; omega)
  have HB_9 := Lib.hid ((by repeat (first | exact HB_8.out | refine Below.drew ?_ | refine Below.setCell ?_ (by first | omega | (simp; done) | (simp; omega)) _ | refine Below.alloc ?_ (by first | omega | (simp; done) | (simp; omega)) _) : Below w.heap.size w _).trans (hb9.mono (by first | omega | (simp; done) | (simp; omega))))
  have nz_9 : w.heap.size ≤ w9.heap.size := HB_9.out.size
  clear hb9 x0_8 x1_8 y0_8 y1_8 z0_8 z1_8 a0_8 af0_8 a1_8 af1_8 b0_8 bf0_8 b1_8 bf1_8 u0_8 uf0_8 u1_8 uf1_8 HB_8
  go_wp2_with fail
  refine (HO2.out _).mono ?_
  rintro e w10 ⟨rfl, hb10⟩
  have x0_10 : w10.cell? ⟨w1.heap.size, 0, none⟩ = some (.int .i64 xm) := carry hb10 (by go_simp)
  have x1_10 : w10.cell? ⟨w1.heap.size, 1, none⟩ = some (.int .i64 xe) := carry hb10 (by go_simp)
  have xz_10 : w1.heap.size < w10.heap.size := by have := hb10.size; first | omega | (simp at this; omega)
  have y0_10 : w10.cell? ⟨w2.heap.size, 0, none⟩ = some (.int .i64 ym) := carry hb10 (by go_simp)
  have y1_10 : w10.cell? ⟨w2.heap.size, 1, none⟩ = some (.int .i64 ye) := carry hb10 (by go_simp)
  have yz_10 : w2.heap.size < w10.heap.size := by have := hb10.size; first | omega | (simp at this; omega)
  have z0_10 : w10.cell? ⟨w3.heap.size, 0, none⟩ = some (.int .i64 zm) := carry hb10 (by go_simp)
  have z1_10 : w10.cell? ⟨w3.heap.size, 1, none⟩ = some (.int .i64 ze) := carry hb10 (by go_simp)
  have zz_10 : w3.heap.size < w10.heap.size := by have := hb10.size; first | omega | (simp at this; omega)
  have a0_10 : w10.cell? ⟨w5.heap.size, 0, none⟩ = some (.int .i64 am) := carry hb10 (by go_simp)
  have af0_10 : w10.frozen? ⟨w5.heap.size, 0, none⟩ = false := carryF hb10 (v := .int .i64 am) (by go_simp) (by go_simp)
  have a1_10 : w10.cell? ⟨w5.heap.size, 1, none⟩ = some (.int .i64 ae) := carry hb10 (by go_simp)
  have af1_10 : w10.frozen? ⟨w5.heap.size, 1, none⟩ = false := carryF hb10 (v := .int .i64 ae) (by go_simp) (by go_simp)
  have az_10 : w5.heap.size < w10.heap.size := by have := hb10.size; first | omega | (simp at this; omega)
  have b0_10 : w10.cell? ⟨w6.heap.size, 0, none⟩ = some (.int .i64 bm) := carry hb10 (by go_simp)
  have bf0_10 : w10.frozen? ⟨w6.heap.size, 0, none⟩ = false := carryF hb10 (v := .int .i64 bm) (by go_simp) (by go_simp)
  have b1_10 : w10.cell? ⟨w6.heap.size, 1, none⟩ = some (.int .i64 be) := carry hb10 (by go_simp)
  have bf1_10 : w10.frozen? ⟨w6.heap.size, 1, none⟩ = false := carryF hb10 (v := .int .i64 be) (by go_simp) (by go_simp)
  have bz_10 : w6.heap.size < w10.heap.size := by have := hb10.size; first | omega | (simp at this; omega)
  have u0_10 : w10.cell? ⟨w7.heap.size, 0, none⟩ = some (.int .i64 um) := carry hb10 (by go_simp)
  have uf0_10 : w10.frozen? ⟨w7.heap.size, 0, none⟩ = false := carryF hb10 (v := .int .i64 um) (by go_simp) (by go_simp)
  have u1_10 : w10.cell? ⟨w7.heap.size, 1, none⟩ = some (.int .i64 ue) := carry hb10 (by go_simp)
  have uf1_10 : w10.frozen? ⟨w7.heap.size, 1, none⟩ = false := carryF hb10 (v := .int .i64 ue) (by go_simp) (by go_simp)
  have uz_10 : w7.heap.size < w10.heap.size := by have := hb10.size; first | omega | (simp at this; omega)
  have v0_10 : w10.cell? ⟨w8.heap.size, 0, none⟩ = some (.int .i64 vm) := carry hb10 (by go_simp)
  have vf0_10 : w10.frozen? ⟨w8.heap.size, 0, none⟩ = false := carryF hb10 (v := .int .i64 vm) (by go_simp) (by go_simp)
  have v1_10 : w10.cell? ⟨w8.heap.size, 1, none⟩ = some (.int .i64 ve) := carry hb10 (by go_simp)
  have vf1_10 : w10.frozen? ⟨w8.heap.size, 1, none⟩ = false := carryF hb10 (v := .int .i64 ve) (by go_simp) (by go_simp)
  have vz_10 : w8.heap.size < w10.heap.size := by have := hb10.size; first | omega | (simp at this; omega)
  have HB_10 := Lib.hid ((by repeat (first | exact HB_9.out | refine Below.drew ?_ | refine Below.setCell ?_ (by first | omega | (simp; done) | (simp; omega)) _ | refine Below.alloc ?_ (by first | omega | (simp; done) | (simp; omega)) _) : Below w.heap.size w _).trans (hb10.mono (by first | omega | (simp; done) | (simp; omega))))
  have nz_10 : w.heap.size ≤ w10.heap.size := HB_10.out.size
  clear hb10 x0_9 x1_9 y0_9 y1_9 z0_9 z1_9 a0_9 af0_9 a1_9 af1_9 b0_9 bf0_9 b1_9 bf1_9 u0_9 uf0_9 u1_9 uf1_9 v0_9 vf0_9 v1_9 vf1_9 HB_9
  go_wp2_with fail
  refine (HQ1.out _).mono ?_
  rintro e w11 ⟨rfl, hb11⟩
  have x0_11 : w11.cell? ⟨w1.heap.size, 0, none⟩ = some (.int .i64 xm) := carry hb11 (by go_simp)
  have x1_11 : w11.cell? ⟨w1.heap.size, 1, none⟩ = some (.int .i64 xe) := carry hb11 (by go_simp)
  have xz_11 : w1.heap.size < w11.heap.size := by have := hb11.size; first | omega | (simp at this; omega)
  have y0_11 : w11.cell? ⟨w2.heap.size, 0, none⟩ = some (.int .i64 ym) := carry hb11 (by go_simp)
  have y1_11 : w11.cell? ⟨w2.heap.size, 1, none⟩ = some (.int .i64 ye) := carry hb11 (by go_simp)
  have yz_11 : w2.heap.size < w11.heap.size := by have := hb11.size; first | omega | (simp at this; omega)
  have z0_11 : w11.cell? ⟨w3.heap.size, 0, none⟩ = some (.int .i64 zm) := carry hb11 (by go_simp)
  have z1_11 : w11.cell? ⟨w3.heap.size, 1, none⟩ = some (.int .i64 ze) := carry hb11 (by go_simp)
  have zz_11 : w3.heap.size < w11.heap.size := by have := hb11.size; first | omega | (simp at this; omega)
  have a0_11 : w11.cell? ⟨w5.heap.size, 0, none⟩ = some (.int .i64 am) := carry hb11 (by go_simp)
  have af0_11 : w11.frozen? ⟨w5.heap.size, 0, none⟩ = false := carryF hb11 (v := .int .i64 am) (by go_simp) (by go_simp)
  have a1_11 : w11.cell? ⟨w5.heap.size, 1, none⟩ = some (.int .i64 ae) := carry hb11 (by go_simp)
  have af1_11 : w11.frozen? ⟨w5.heap.size, 1, none⟩ = false := carryF hb11 (v := .int .i64 ae) (by go_simp) (by go_simp)
  have az_11 : w5.heap.size < w11.heap.size := by have := hb11.size; first | omega | (simp at this; omega)
  have b0_11 : w11.cell? ⟨w6.heap.size, 0, none⟩ = some (.int .i64 bm) := carry hb11 (by go_simp)
  have bf0_11 : w11.frozen? ⟨w6.heap.size, 0, none⟩ = false := carryF hb11 (v := .int .i64 bm) (by go_simp) (by go_simp)
  have b1_11 : w11.cell? ⟨w6.heap.size, 1, none⟩ = some (.int .i64 be) := carry hb11 (by go_simp)
  have bf1_11 : w11.frozen? ⟨w6.heap.size, 1, none⟩ = false := carryF hb11 (v := .int .i64 be) (by go_simp) (by go_simp)
  have bz_11 : w6.heap.size < w11.heap.size := by have := hb11.size; first | omega | (simp at this; omega)
  have u0_11 : w11.cell? ⟨w7.heap.size, 0, none⟩ = some (.int .i64 um) := carry hb11 (by go_simp)
  have uf0_11 : w11.frozen? ⟨w7.heap.size, 0, none⟩ = false := carryF hb11 (v := .int .i64 um) (by go_simp) (by go_simp)
  have u1_11 : w11.cell? ⟨w7.heap.size, 1, none⟩ = some (.int .i64 ue) := carry hb11 (by go_simp)
  have uf1_11 : w11.frozen? ⟨w7.heap.size, 1, none⟩ = false := carryF hb11 (v := .int .i64 ue) (by go_simp) (by go_simp)
  have uz_11 : w7.heap.size < w11.heap.size := by have := hb11.size; first | omega | (simp at this; omega)
  have v0_11 : w11.cell? ⟨w8.heap.size, 0, none⟩ = some (.int .i64 vm) := carry hb11 (by go_simp)
  have vf0_11 : w11.frozen? ⟨w8.heap.size, 0, none⟩ = false := carryF hb11 (v := .int .i64 vm) (by go_simp) (by go_simp)
  have v1_11 : w11.cell? ⟨w8.heap.size, 1, none⟩ = some (.int .i64 ve) := carry hb11 (by go_simp)
  have vf1_11 : w11.frozen? ⟨w8.heap.size, 1, none⟩ = false := carryF hb11 (v := .int .i64 ve) (by go_simp) (by go_simp)
  have vz_11 : w8.heap.size < w11.heap.size := by have := hb11.size; first | omega | (simp at this; omega)
  have HB_11 := Lib.hid ((by repeat (first | exact HB_10.out | refine Below.drew ?_ | refine Below.setCell ?_ (by first | omega | (simp; done) | (simp; omega)) _ | refine Below.alloc ?_ (by first | omega | (simp; done) | (simp; omega)) _) : Below w.heap.size w _).trans (hb11.mono (by first | omega | (simp; done) | (simp; omega))))
  have nz_11 : w.heap.size ≤ w11.heap.size := HB_11.out.size
  clear hb11 x0_10 x1_10 y0_10 y1_10 z0_10 z1_10 a0_10 af0_10 a1_10 af1_10 b0_10 bf0_10 b1_10 bf1_10 u0_10 uf0_10 u1_10 uf1_10 v0_10 vf0_10 v1_10 vf1_10 HB_10
  go_wp2_with fail
  refine (HQ2.out _).mono ?_
  rintro e w12 ⟨rfl, hb12⟩
  have x0_12 : w12.cell? ⟨w1.heap.size, 0, none⟩ = some (.int .i64 xm) := carry hb12 (by go_simp)
  have x1_12 : w12.cell? ⟨w1.heap.size, 1, none⟩ = some (.int .i64 xe) := carry hb12 (by go_simp)
  have xz_12 : w1.heap.size < w12.heap.size := by have := hb12.size; first | omega | (simp at this; omega)
  have y0_12 : w12.cell? ⟨w2.heap.size, 0, none⟩ = some (.int .i64 ym) := carry hb12 (by go_simp)
  have y1_12 : w12.cell? ⟨w2.heap.size, 1, none⟩ = some (.int .i64 ye) := carry hb12 (by go_simp)
  have yz_12 : w2.heap.size < w12.heap.size := by have := hb12.size; first | omega | (simp at this; omega)
  have z0_12 : w12.cell? ⟨w3.heap.size, 0, none⟩ = some (.int .i64 zm) := carry hb12 (by go_simp)
  have z1_12 : w12.cell? ⟨w3.heap.size, 1, none⟩ = some (.int .i64 ze) := carry hb12 (by go_simp)
  have zz_12 : w3.heap.size < w12.heap.size := by have := hb12.size; first | omega | (simp at this; omega)
  have a0_12 : w12.cell? ⟨w5.heap.size, 0, none⟩ = some (.int .i64 am) := carry hb12 (by go_simp)
  have af0_12 : w12.frozen? ⟨w5.heap.size, 0, none⟩ = false := carryF hb12 (v := .int .i64 am) (by go_simp) (by go_simp)
  have a1_12 : w12.cell? ⟨w5.heap.size, 1, none⟩ = some (.int .i64 ae) := carry hb12 (by go_simp)
  have af1_12 : w12.frozen? ⟨w5.heap.size, 1, none⟩ = false := carryF hb12 (v := .int .i64 ae) (by go_simp) (by go_simp)
  have az_12 : w5.heap.size < w12.heap.size := by have := hb12.size; first | omega | (simp at this; omega)
  have b0_12 : w12.cell? ⟨w6.heap.size, 0, none⟩ = some (.int .i64 bm) := carry hb12 (by go_simp)
  have bf0_12 : w12.frozen? ⟨w6.heap.size, 0, none⟩ = false := carryF hb12 (v := .int .i64 bm) (by go_simp) (by go_simp)
  have b1_12 : w12.cell? ⟨w6.heap.size, 1, none⟩ = some (.int .i64 be) := carry hb12 (by go_simp)
  have bf1_12 : w12.frozen? ⟨w6.heap.size, 1, none⟩ = false := carryF hb12 (v := .int .i64 be) (by go_simp) (by go_simp)
  have bz_12 : w6.heap.size < w12.heap.size := by have := hb12.size; first | omega | (simp at this; omega)
  have u0_12 : w12.cell? ⟨w7.heap.size, 0, none⟩ = some (.int .i64 um) := carry hb12 (by go_simp)
  have uf0_12 : w12.frozen? ⟨w7.heap.size, 0, none⟩ = false := carryF hb12 (v := .int .i64 um) (by go_simp) (by go_simp)
  have u1_12 : w12.cell? ⟨w7.heap.size, 1, none⟩ = some (.int .i64 ue) := carry hb12 (by go_simp)
  have uf1_12 : w12.frozen? ⟨w7.heap.size, 1, none⟩ = false := carryF hb12 (v := .int .i64 ue) (by go_simp) (by go_simp)
  have uz_12 : w7.heap.size < w12.heap.size := by have := hb12.size; first | omega | (simp at this; omega)
  have v0_12 : w12.cell? ⟨w8.heap.size, 0, none⟩ = some (.int .i64 vm) := carry hb12 (by go_simp)
  have vf0_12 : w12.frozen? ⟨w8.heap.size, 0, none⟩ = false := carryF hb12 (v := .int .i64 vm) (by go_simp) (by go_simp)
  have v1_12 : w12.cell? ⟨w8.heap.size, 1, none⟩ = some (.int .i64 ve) := carry hb12 (by go_simp)
  have vf1_12 : w12.frozen? ⟨w8.heap.size, 1, none⟩ = false := carryF hb12 (v := .int .i64 ve) (by go_simp) (by go_simp)
  have vz_12 : w8.heap.size < w12.heap.size := by have := hb12.size; first | omega | (simp at this; omega)
  have r0_12 : w12.cell? ⟨w11.heap.size, 0, none⟩ = some (.int .i64 rm) := carry hb12 (by go_simp)
  have r1_12 : w12.cell? ⟨w11.heap.size, 1, none⟩ = some (.int .i64 re) := carry hb12 (by go_simp)
  have rz_12 : w11.heap.size < w12.heap.size := by have := hb12.size; first | omega | (simp at this; omega)
  have HB_12 := Lib.hid ((by repeat (first | exact HB_11.out | refine Below.drew ?_ | refine Below.setCell ?_ (by first | omega | (simp; done) | (simp; omega)) _ | refine Below.alloc ?_ (by first | omega | (simp; done) | (simp; omega)) _) : Below w.heap.size w _).trans (hb12.mono (by first | omega | (simp; done) | (simp; omega))))
  have nz_12 : w.heap.size ≤ w12.heap.size := HB_12.out.size
  clear hb12 x0_11 x1_11 y0_11 y1_11 z0_11 z1_11 a0_11 af0_11 a1_11 af1_11 b0_11 bf0_11 b1_11 bf1_11 u0_11 uf0_11 u1_11 uf1_11 v0_11 vf0_11 v1_11 vf1_11 HB_11
  go_wp2_with fail
  refine (HO3.out _).mono ?_
  rintro e w13 ⟨rfl, hb13⟩
  have x0_13 : w13.cell? ⟨w1.heap.size, 0, none⟩ = some (.int .i64 xm) := carry hb13 (by go_simp)
  have x1_13 : w13.cell? ⟨w1.heap.size, 1, none⟩ = some (.int .i64 xe) := carry hb13 (by go_simp)
  have xz_13 : w1.heap.size < w13.heap.size := by have := hb13.size; first | omega | (simp at this; omega)
  have y0_13 : w13.cell? ⟨w2.heap.size, 0, none⟩ = some (.int .i64 ym) := carry hb13 (by go_simp)
  have y1_13 : w13.cell? ⟨w2.heap.size, 1, none⟩ = some (.int .i64 ye) := carry hb13 (by go_simp)
  have yz_13 : w2.heap.size < w13.heap.size := by have := hb13.size; first | omega | (simp at this; omega)
  have z0_13 : w13.cell? ⟨w3.heap.size, 0, none⟩ = some (.int .i64 zm) := carry hb13 (by go_simp)
  have z1_13 : w13.cell? ⟨w3.heap.size, 1, none⟩ = some (.int .i64 ze) := carry hb13 (by go_simp)
  have zz_13 : w3.heap.size < w13.heap.size := by have := hb13.size; first | omega | (simp at this; omega)
  have a0_13 : w13.cell? ⟨w5.heap.size, 0, none⟩ = some (.int .i64 am) := carry hb13 (by go_simp)
  have af0_13 : w13.frozen? ⟨w5.heap.size, 0, none⟩ = false := carryF hb13 (v := .int .i64 am) (by go_simp) (by go_simp)
  have a1_13 : w13.cell? ⟨w5.heap.size, 1, none⟩ = some (.int .i64 ae) := carry hb13 (by go_simp)
  have af1_13 : w13.frozen? ⟨w5.heap.size, 1, none⟩ = false := carryF hb13 (v := .int .i64 ae) (by go_simp) (by go_simp)
  have az_13 : w5.heap.size < w13.heap.size := by have := hb13.size; first | omega | (simp at this; omega)
  have b0_13 : w13.cell? ⟨w6.heap.size, 0, none⟩ = some (.int .i64 bm) := carry hb13 (by go_simp)
  have bf0_13 : w13.frozen? ⟨w6.heap.size, 0, none⟩ = false := carryF hb13 (v := .int .i64 bm) (by go_simp) (by go_simp)
  have b1_13 : w13.cell? ⟨w6.heap.size, 1, none⟩ = some (.int .i64 be) := carry hb13 (by go_simp)
  have bf1_13 : w13.frozen? ⟨w6.heap.size, 1, none⟩ = false := carryF hb13 (v := .int .i64 be) (by go_simp) (by go_simp)
  have bz_13 : w6.heap.size < w13.heap.size := by have := hb13.size; first | omega | (simp at this; omega)
  have u0_13 : w13.cell? ⟨w7.heap.size, 0, none⟩ = some (.int .i64 um) := carry hb13 (by go_simp)
  have uf0_13 : w13.frozen? ⟨w7.heap.size, 0, none⟩ = false := carryF hb13 (v := .int .i64 um) (by go_simp) (by go_simp)
  have u1_13 : w13.cell? ⟨w7.heap.size, 1, none⟩ = some (.int .i64 ue) := carry hb13 (by go_simp)
  have uf1_13 : w13.frozen? ⟨w7.heap.size, 1, none⟩ = false := carryF hb13 (v := .int .i64 ue) (by go_simp) (by go_simp)
  have uz_13 : w7.heap.size < w13.heap.size := by have := hb13.size; first | omega | (simp at this; omega)
  have v0_13 : w13.cell? ⟨w8.heap.size, 0, none⟩ = some (.int .i64 vm) := carry hb13 (by go_simp)
  have vf0_13 : w13.frozen? ⟨w8.heap.size, 0, none⟩ = false := carryF hb13 (v := .int .i64 vm) (by go_simp) (by go_simp)
  have v1_13 : w13.cell? ⟨w8.heap.size, 1, none⟩ = some (.int .i64 ve) := carry hb13 (by go_simp)
  have vf1_13 : w13.frozen? ⟨w8.heap.size, 1, none⟩ = false := carryF hb13 (v := .int .i64 ve) (by go_simp) (by go_simp)
  have vz_13 : w8.heap.size < w13.heap.size := by have := hb13.size; first | omega | (simp at this; omega)
  have r0_13 : w13.cell? ⟨w11.heap.size, 0, none⟩ = some (.int .i64 rm) := carry hb13 (by go_simp)
  have r1_13 : w13.cell? ⟨w11.heap.size, 1, none⟩ = some (.int .i64 re) := carry hb13 (by go_simp)
  have rz_13 : w11.heap.size < w13.heap.size := by have := hb13.size; first | omega | (simp at this; omega)
  have q0_13 : w13.cell? ⟨w12.heap.size, 0, none⟩ = some (.int .i64 qm) := carry hb13 (by go_simp)
  have q1_13 : w13.cell? ⟨w12.heap.size, 1, none⟩ = some (.int .i64 qe) := carry hb13 (by go_simp)
  have qz_13 : w12.heap.size < w13.heap.size := by have := hb13.size; first | omega | (simp at this; omega)
  have HB_13 := Lib.hid ((by repeat (first | exact HB_12.out | refine Below.drew ?_ | refine Below.setCell ?_ (by first | omega | (simp; done) | (simp; omega)) _ | refine Below.alloc ?_ (by first | omega | (simp; done) | (simp; omega)) _) : Below w.heap.size w _).trans (hb13.mono (by first | omega | (simp; done) | (simp; omega))))
  have nz_13 : w.heap.size ≤ w13.heap.size := HB_13.out.size
  clear hb13 x0_12 x1_12 y0_12 y1_12 z0_12 z1_12 a0_12 af0_12 a1_12 af1_12 b0_12 bf0_12 b1_12 bf1_12 u0_12 uf0_12 u1_12 uf1_12 v0_12 vf0_12 v1_12 vf1_12 r0_12 r1_12 HB_12
  go_wp2_with fail
  refine (HM1.out _).mono ?_
  rintro e w14 ⟨rfl, hb14⟩
  have x0_14 : w14.cell? ⟨w1.heap.size, 0, none⟩ = some (.int .i64 xm) := carry hb14 (by go_simp)
  have x1_14 : w14.cell? ⟨w1.heap.size, 1, none⟩ = some (.int .i64 xe) := carry hb14 (by go_simp)
  have xz_14 : w1.heap.size < w14.heap.size := by have := hb14.size; first | omega | (simp at this; omega)
  have y0_14 : w14.cell? ⟨w2.heap.size, 0, none⟩ = some (.int .i64 ym) := carry hb14 (by go_simp)
  have y1_14 : w14.cell? ⟨w2.heap.size, 1, none⟩ = some (.int .i64 ye) := carry hb14 (by go_simp)
  have yz_14 : w2.heap.size < w14.heap.size := by have := hb14.size; first | omega | (simp at this; omega)
  have z0_14 : w14.cell? ⟨w3.heap.size, 0, none⟩ = some (.int .i64 zm) := carry hb14 (by go_simp)
  have z1_14 : w14.cell? ⟨w3.heap.size, 1, none⟩ = some (.int .i64 ze) := carry hb14 (by go_simp)
  have zz_14 : w3.heap.size < w14.heap.size := by have := hb14.size; first | omega | (simp at this; omega)
  have a0_14 : w14.cell? ⟨w5.heap.size, 0, none⟩ = some (.int .i64 am) := carry hb14 (by go_simp)
  have af0_14 : w14.frozen? ⟨w5.heap.size, 0, none⟩ = false := carryF hb14 (v := .int .i64 am) (by go_simp) (by go_simp)
  have a1_14 : w14.cell? ⟨w5.heap.size, 1, none⟩ = some (.int .i64 ae) := carry hb14 (by go_simp)
  have af1_14 : w14.frozen? ⟨w5.heap.size, 1, none⟩ = false := carryF hb14 (v := .int .i64 ae) (by go_simp) (by go_simp)
  have az_14 : w5.heap.size < w14.heap.size := by have := hb14.size; first | omega | (simp at this; omega)
  have b0_14 : w14.cell? ⟨w6.heap.size, 0, none⟩ = some (.int .i64 bm) := carry hb14 (by go_simp)
  have bf0_14 : w14.frozen? ⟨w6.heap.size, 0, none⟩ = false := carryF hb14 (v := .int .i64 bm) (by go_simp) (by go_simp)
  have b1_14 : w14.cell? ⟨w6.heap.size, 1, none⟩ = some (.int .i64 be) := carry hb14 (by go_simp)
  have bf1_14 : w14.frozen? ⟨w6.heap.size, 1, none⟩ = false := carryF hb14 (v := .int .i64 be) (by go_simp) (by go_simp)
  have bz_14 : w6.heap.size < w14.heap.size := by have := hb14.size; first | omega | (simp at this; omega)
  have u0_14 : w14.cell? ⟨w7.heap.size, 0, none⟩ = some (.int .i64 um) := carry hb14 (by go_simp)
  have uf0_14 : w14.frozen? ⟨w7.heap.size, 0, none⟩ = false := carryF hb14 (v := .int .i64 um) (by go_simp) (by go_simp)
  have u1_14 : w14.cell? ⟨w7.heap.size, 1, none⟩ = some (.int .i64 ue) := carry hb14 (by go_simp)
  have uf1_14 : w14.frozen? ⟨w7.heap.size, 1, none⟩ = false := carryF hb14 (v := .int .i64 ue) (by go_simp) (by go_simp)
  have uz_14 : w7.heap.size < w14.heap.size := by have := hb14.size; first | omega | (simp at this; omega)
  have v0_14 : w14.cell? ⟨w8.heap.size, 0, none⟩ = some (.int .i64 vm) := carry hb14 (by go_simp)
  have vf0_14 : w14.frozen? ⟨w8.heap.size, 0, none⟩ = false := carryF hb14 (v := .int .i64 vm) (by go_simp) (by go_simp)
  have v1_14 : w14.cell? ⟨w8.heap.size, 1, none⟩ = some (.int .i64 ve) := carry hb14 (by go_simp)
  have vf1_14 : w14.frozen? ⟨w8.heap.size, 1, none⟩ = false := carryF hb14 (v := .int .i64 ve) (by go_simp) (by go_simp)
  have vz_14 : w8.heap.size < w14.heap.size := by have := hb14.size; first | omega | (simp at this; omega)
  have HB_14 := Lib.hid ((by repeat (first | exact HB_13.out | refine Below.drew ?_ | refine Below.setCell ?_ (by first | omega | (simp; done) | (simp; omega)) _ | refine Below.alloc ?_ (by first | omega | (simp; done) | (simp; omega)) _) : Below w.heap.size w _).trans (hb14.mono (by first | omega | (simp; done) | (simp; omega))))
  have nz_14 : w.heap.size ≤ w14.heap.size := HB_14.out.size
  clear hb14 x0_13 x1_13 y0_13 y1_13 z0_13 z1_13 a0_13 af0_13 a1_13 af1_13 b0_13 bf0_13 b1_13 bf1_13 u0_13 uf0_13 u1_13 uf1_13 v0_13 vf0_13 v1_13 vf1_13 r0_13 r1_13 q0_13 q1_13 HB_13
  go_wp2_with fail
  refine (HM2.out _).mono ?_
  rintro e w15 ⟨rfl, hb15⟩
  have x0_15 : w15.cell? ⟨w1.heap.size, 0, none⟩ = some (.int .i64 xm) := carry hb15 (by go_simp)
  have x1_15 : w15.cell? ⟨w1.heap.size, 1, none⟩ = some (.int .i64 xe) := carry hb15 (by go_simp)
  have xz_15 : w1.heap.size < w15.heap.size := by have := hb15.size; first | omega | (simp at this; omega)
  have y0_15 : w15.cell? ⟨w2.heap.size, 0, none⟩ = some (.int .i64 ym) := carry hb15 (by go_simp)
  have y1_15 : w15.cell? ⟨w2.heap.size, 1, none⟩ = some (.int .i64 ye) := carry hb15 (by go_simp)
  have yz_15 : w2.heap.size < w15.heap.size := by have := hb15.size; first | omega | (simp at this; omega)
  have z0_15 : w15.cell? ⟨w3.heap.size, 0, none⟩ = some (.int .i64 zm) := carry hb15 (by go_simp)
  have z1_15 : w15.cell? ⟨w3.heap.size, 1, none⟩ = some (.int .i64 ze) := carry hb15 (by go_simp)
  have zz_15 : w3.heap.size < w15.heap.size := by have := hb15.size; first | omega | (simp at this; omega)
  have a0_15 : w15.cell? ⟨w5.heap.size, 0, none⟩ = some (.int .i64 cm) := carry hb15 (by go_simp)
  have a1_15 : w15.cell? ⟨w5.heap.size, 1, none⟩ = some (.int .i64 ce) := carry hb15 (by go_simp)
  have az_15 : w5.heap.size < w15.heap.size := by have := hb15.size; first | omega | (simp at this; omega)
  have b0_15 : w15.cell? ⟨w6.heap.size, 0, none⟩ = some (.int .i64 bm) := carry hb15 (by go_simp)
  have bf0_15 : w15.frozen? ⟨w6.heap.size, 0, none⟩ = false := carryF hb15 (v := .int .i64 bm) (by go_simp) (by go_simp)
  have b1_15 : w15.cell? ⟨w6.heap.size, 1, none⟩ = some (.int .i64 be) := carry hb15 (by go_simp)
  have bf1_15 : w15.frozen? ⟨w6.heap.size, 1, none⟩ = false := carryF hb15 (v := .int .i64 be) (by go_simp) (by go_simp)
  have bz_15 : w6.heap.size < w15.heap.size := by have := hb15.size; first | omega | (simp at this; omega)
  have u0_15 : w15.cell? ⟨w7.heap.size, 0, none⟩ = some (.int .i64 um) := carry hb15 (by go_simp)
  have uf0_15 : w15.frozen? ⟨w7.heap.size, 0, none⟩ = false := carryF hb15 (v := .int .i64 um) (by go_simp) (by go_simp)
  have u1_15 : w15.cell? ⟨w7.heap.size, 1, none⟩ = some (.int .i64 ue) := carry hb15 (by go_simp)
  have uf1_15 : w15.frozen? ⟨w7.heap.size, 1, none⟩ = false := carryF hb15 (v := .int .i64 ue) (by go_simp) (by go_simp)
  have uz_15 : w7.heap.size < w15.heap.size := by have := hb15.size; first | omega | (simp at this; omega)
  have v0_15 : w15.cell? ⟨w8.heap.size, 0, none⟩ = some (.int .i64 vm) := carry hb15 (by go_simp)
  have vf0_15 : w15.frozen? ⟨w8.heap.size, 0, none⟩ = false := carryF hb15 (v := .int .i64 vm) (by go_simp) (by go_simp)
  have v1_15 : w15.cell? ⟨w8.heap.size, 1, none⟩ = some (.int .i64 ve) := carry hb15 (by go_simp)
  have vf1_15 : w15.frozen? ⟨w8.heap.size, 1, none⟩ = false := carryF hb15 (v := .int .i64 ve) (by go_simp) (by go_simp)
  have vz_15 : w8.heap.size < w15.heap.size := by have := hb15.size; first | omega | (simp at this; omega)
  have HB_15 := Lib.hid ((by repeat (first | exact HB_14.out | refine Below.drew ?_ | refine Below.setCell ?_ (by first | omega | (simp; done) | (simp; omega)) _ | refine Below.alloc ?_ (by first | omega | (simp; done) | (simp; omega)) _) : Below w.heap.size w _).trans (hb15.mono (by first | omega | (simp; done) | (simp; omega))))
  have nz_15 : w.heap.size ≤ w15.heap.size := HB_15.out.size
  clear hb15 x0_14 x1_14 y0_14 y1_14 z0_14 z1_14 a0_14 af0_14 a1_14 af1_14 b0_14 bf0_14 b1_14 bf1_14 u0_14 uf0_14 u1_14 uf1_14 v0_14 vf0_14 v1_14 vf1_14 HB_14
  go_wp2_with fail
  refine (HD1.out _).mono ?_
  rintro e w16 ⟨rfl, hb16⟩
  have x0_16 : w16.cell? ⟨w1.heap.size, 0, none⟩ = some (.int .i64 xm) := carry hb16 (by go_simp)
  have x1_16 : w16.cell? ⟨w1.heap.size, 1, none⟩ = some (.int .i64 xe) := carry hb16 (by go_simp)
  have xz_16 : w1.heap.size < w16.heap.size := by have := hb16.size; first | omega | (simp at this; omega)
  have y0_16 : w16.cell? ⟨w2.heap.size, 0, none⟩ = some (.int .i64 ym) := carry hb16 (by go_simp)
  have y1_16 : w16.cell? ⟨w2.heap.size, 1, none⟩ = some (.int .i64 ye) := carry hb16 (by go_simp)
  have yz_16 : w2.heap.size < w16.heap.size := by have := hb16.size; first | omega | (simp at this; omega)
  have z0_16 : w16.cell? ⟨w3.heap.size, 0, none⟩ = some (.int .i64 zm) := carry hb16 (by go_simp)
  have z1_16 : w16.cell? ⟨w3.heap.size, 1, none⟩ = some (.int .i64 ze) := carry hb16 (by go_simp)
  have zz_16 : w3.heap.size < w16.heap.size := by have := hb16.size; first | omega | (simp at this; omega)
  have a0_16 : w16.cell? ⟨w5.heap.size, 0, none⟩ = some (.int .i64 cm) := carry hb16 (by go_simp)
  have a1_16 : w16.cell? ⟨w5.heap.size, 1, none⟩ = some (.int .i64 ce) := carry hb16 (by go_simp)
  have az_16 : w5.heap.size < w16.heap.size := by have := hb16.size; first | omega | (simp at this; omega)
  have b0_16 : w16.cell? ⟨w6.heap.size, 0, none⟩ = some (.int .i64 dm) := carry hb16 (by go_simp)
  have b1_16 : w16.cell? ⟨w6.heap.size, 1, none⟩ = some (.int .i64 de) := carry hb16 (by go_simp)
  have bz_16 : w6.heap.size < w16.heap.size := by have := hb16.size; first | omega | (simp at this; omega)
  have u0_16 : w16.cell? ⟨w7.heap.size, 0, none⟩ = some (.int .i64 um) := carry hb16 (by go_simp)
  have uf0_16 : w16.frozen? ⟨w7.heap.size, 0, none⟩ = false := carryF hb16 (v := .int .i64 um) (by go_simp) (by go_simp)
  have u1_16 : w16.cell? ⟨w7.heap.size, 1, none⟩ = some (.int .i64 ue) := carry hb16 (by go_simp)
  have uf1_16 : w16.frozen? ⟨w7.heap.size, 1, none⟩ = false := carryF hb16 (v := .int .i64 ue) (by go_simp) (by go_simp)
  have uz_16 : w7.heap.size < w16.heap.size := by have := hb16.size; first | omega | (simp at this; omega)
  have v0_16 : w16.cell? ⟨w8.heap.size, 0, none⟩ = some (.int .i64 vm) := carry hb16 (by go_simp)
  have vf0_16 : w16.frozen? ⟨w8.heap.size, 0, none⟩ = false := carryF hb16 (v := .int .i64 vm) (by go_simp) (by go_simp)
  have v1_16 : w16.cell? ⟨w8.heap.size, 1, none⟩ = some (.int .i64 ve) := carry hb16 (by go_simp)
  have vf1_16 : w16.frozen? ⟨w8.heap.size, 1, none⟩ = false := carryF hb16 (v := .int .i64 ve) (by go_simp) (by go_simp)
  have vz_16 : w8.heap.size < w16.heap.size := by have := hb16.size; first | omega | (simp at this; omega)
  have HB_16 := Lib.hid ((by repeat (first | exact HB_15.out | refine Below.drew ?_ | refine Below.setCell ?_ (by first | omega | (simp; done) | (simp; omega)) _ | refine Below.alloc ?_ (by first | omega | (simp; done) | (simp; omega)) _) : Below w.heap.size w _).trans (hb16.mono (by first | omega | (simp; done) | (simp; omega))))
  have nz_16 : w.heap.size ≤ w16.heap.size := HB_16.out.size
  clear hb16 x0_15 x1_15 y0_15 y1_15 z0_15 z1_15 a0_15 a1_15 b0_15 bf0_15 b1_15 bf1_15 u0_15 uf0_15 u1_15 uf1_15 v0_15 vf0_15 v1_15 vf1_15 HB_15
  go_wp2_with fail
  refine (HD2.out _).mono ?_
  rintro e w17 ⟨rfl, hb17⟩
  have y0_17 : w17.cell? ⟨w2.heap.size, 0, none⟩ = some (.int .i64 ym) := carry hb17 (by go_simp)
  have y1_17 : w17.cell? ⟨w2.heap.size, 1, none⟩ = some (.int .i64 ye) := carry hb17 (by go_simp)
  have yz_17 : w2.heap.size < w17.heap.size := by have := hb17.size; first | omega | (simp at this; omega)
  have z0_17 : w17.cell? ⟨w3.heap.size, 0, none⟩ = some (.int .i64 zm) := carry hb17 (by go_simp)
  have z1_17 : w17.cell? ⟨w3.heap.size, 1, none⟩ = some (.int .i64 ze) := carry hb17 (by go_simp)
  have zz_17 : w3.heap.size < w17.heap.size := by have := hb17.size; first | omega | (simp at this; omega)
  have a0_17 : w17.cell? ⟨w5.heap.size, 0, none⟩ = some (.int .i64 cm) := carry hb17 (by go_simp)
  have a1_17 : w17.cell? ⟨w5.heap.size, 1, none⟩ = some (.int .i64 ce) := carry hb17 (by go_simp)
  have az_17 : w5.heap.size < w17.heap.size := by have := hb17.size; first | omega | (simp at this; omega)
  have b0_17 : w17.cell? ⟨w6.heap.size, 0, none⟩ = some (.int .i64 dm) := carry hb17 (by go_simp)
  have b1_17 : w17.cell? ⟨w6.heap.size, 1, none⟩ = some (.int .i64 de) := carry hb17 (by go_simp)
  have bz_17 : w6.heap.size < w17.heap.size := by have := hb17.size; first | omega | (simp at this; omega)
  have u0_17 : w17.cell? ⟨w7.heap.size, 0, none⟩ = some (.int .i64 gm) := carry hb17 (by go_simp)
  have u1_17 : w17.cell? ⟨w7.heap.size, 1, none⟩ = some (.int .i64 ge) := carry hb17 (by go_simp)
  have uz_17 : w7.heap.size < w17.heap.size := by have := hb17.size; first | omega | (simp at this; omega)
  have v0_17 : w17.cell? ⟨w8.heap.size, 0, none⟩ = some (.int .i64 vm) := carry hb17 (by go_simp)
  have vf0_17 : w17.frozen? ⟨w8.heap.size, 0, none⟩ = false := carryF hb17 (v := .int .i64 vm) (by go_simp) (by go_simp)
  have v1_17 : w17.cell? ⟨w8.heap.size, 1, none⟩ = some (.int .i64 ve) := carry hb17 (by go_simp)
  have vf1_17 : w17.frozen? ⟨w8.heap.size, 1, none⟩ = false := carryF hb17 (v := .int .i64 ve) (by go_simp) (by go_simp)
  have vz_17 : w8.heap.size < w17.heap.size := by have := hb17.size; first | omega | (simp at this; omega)
  have HB_17 := Lib.hid ((by repeat (first | exact HB_16.out | refine Below.drew ?_ | refine Below.setCell ?_ (by first | omega | (simp; done) | (simp; omega)) _ | refine Below.alloc ?_ (by first | omega | (simp; done) | (simp; omega)) _) : Below w.heap.size w _).trans (hb17.mono (by first | omega | (simp; done) | (simp; omega))))
  have nz_17 : w.heap.size ≤ w17.heap.size := HB_17.out.size
  clear hb17 x0_16 x1_16 y0_16 y1_16 z0_16 z1_16 a0_16 a1_16 b0_16 b1_16 u0_16 uf0_16 u1_16 uf1_16 v0_16 vf0_16 v1_16 vf1_16 HB_16
  go_wp2_with fail
  refine (HSan.out _ (by repeat (first | exact HB_17.out | refine Below.drew ?_ | refine Below.setCell ?_ (by first | omega | (simp; done) | (simp; omega)) _ | refine Below.alloc ?_ (by first | omega | (simp; done) | (simp; omega)) _))).mono ?_
  rintro e w18 ⟨rfl, hb18⟩
  have a0_18 : w18.cell? ⟨w5.heap.size, 0, none⟩ = some (.int .i64 cm) := carry hb18 (by go_simp)
  have a1_18 : w18.cell? ⟨w5.heap.size, 1, none⟩ = some (.int .i64 ce) := carry hb18 (by go_simp)
  have az_18 : w5.heap.size < w18.heap.size := by have := hb18.size; first | omega | (simp at this; omega)
  have b0_18 : w18.cell? ⟨w6.heap.size, 0, none⟩ = some (.int .i64 dm) := carry hb18 (by go_simp)
  have b1_18 : w18.cell? ⟨w6.heap.size, 1, none⟩ = some (.int .i64 de) := carry hb18 (by go_simp)
  have bz_18 : w6.heap.size < w18.heap.size := by have := hb18.size; first | omega | (simp at this; omega)
  have u0_18 : w18.cell? ⟨w7.heap.size, 0, none⟩ = some (.int .i64 gm) := carry hb18 (by go_simp)
  have u1_18 : w18.cell? ⟨w7.heap.size, 1, none⟩ = some (.int .i64 ge) := carry hb18 (by go_simp)
  have uz_18 : w7.heap.size < w18.heap.size := by have := hb18.size; first | omega | (simp at this; omega)
  have v0_18 : w18.cell? ⟨w8.heap.size, 0, none⟩ = some (.int .i64 hm) := carry hb18 (by go_simp)
  have v1_18 : w18.cell? ⟨w8.heap.size, 1, none⟩ = some (.int .i64 he) := carry hb18 (by go_simp)
  have vz_18 : w8.heap.size < w18.heap.size := by have := hb18.size; first | omega | (simp at this; omega)
  have HB_18 := Lib.hid ((by repeat (first | exact HB_17.out | refine Below.drew ?_ | refine Below.setCell ?_ (by first | omega | (simp; done) | (simp; omega)) _ | refine Below.alloc ?_ (by first | omega | (simp; done) | (simp; omega)) _) : Below w.heap.size w _).trans (hb18.mono (by first | omega | (simp; done) | (simp; omega))))
  have nz_18 : w.heap.size ≤ w18.heap.size := HB_18.out.size
  clear hb18 y0_17 y1_17 z0_17 z1_17 a0_17 a1_17 b0_17 b1_17 u0_17 u1_17 v0_17 vf0_17 v1_17 vf1_17 HB_17
  go_wp2_with fail
  refine (HO4.out _).mono ?_
  rintro e w19 ⟨rfl, hb19⟩
  have a0_19 : w19.cell? ⟨w5.heap.size, 0, none⟩ = some (.int .i64 cm) := carry hb19 (by go_simp)
  have a1_19 : w19.cell? ⟨w5.heap.size, 1, none⟩ = some (.int .i64 ce) := carry hb19 (by go_simp)
  have az_19 : w5.heap.size < w19.heap.size := by have := hb19.size; first | omega | (simp at this; omega)
  have b0_19 : w19.cell? ⟨w6.heap.size, 0, none⟩ = some (.int .i64 dm) := carry hb19 (by go_simp)
  have b1_19 : w19.cell? ⟨w6.heap.size, 1, none⟩ = some (.int .i64 de) := carry hb19 (by go_simp)
  have bz_19 : w6.heap.size < w19.heap.size := by have := hb19.size; first | omega | (simp at this; omega)
  have u0_19 : w19.cell? ⟨w7.heap.size, 0, none⟩ = some (.int .i64 gm) := carry hb19 (by go_simp)
  have u1_19 : w19.cell? ⟨w7.heap.size, 1, none⟩ = some (.int .i64 ge) := carry hb19 (by go_simp)
  have uz_19 : w7.heap.size < w19.heap.size := by have := hb19.size; first | omega | (simp at this; omega)
  have v0_19 : w19.cell? ⟨w8.heap.size, 0, none⟩ = some (.int .i64 hm) := carry hb19 (by go_simp)
  have v1_19 : w19.cell? ⟨w8.heap.size, 1, none⟩ = some (.int .i64 he) := carry hb19 (by go_simp)
  have vz_19 : w8.heap.size < w19.heap.size := by have := hb19.size; first | omega | (simp at this; omega)
  have HB_19 := Lib.hid ((by repeat (first | exact HB_18.out | refine Below.drew ?_ | refine Below.setCell ?_ (by first | omega | (simp; done) | (simp; omega)) _ | refine Below.alloc ?_ (by first | omega | (simp; done) | (simp; omega)) _) : Below w.heap.size w _).trans (hb19.mono (by first | omega | (simp; done) | (simp; omega))))
  have nz_19 : w.heap.size ≤ w19.heap.size := HB_19.out.size
  clear hb19 a0_18 a1_18 b0_18 b1_18 u0_18 u1_18 v0_18 v1_18 HB_18
  go_wp2_with fail
  refine (HO5.out _).mono ?_
  rintro e w20 ⟨rfl, hb20⟩
  have u0_20 : w20.cell? ⟨w7.heap.size, 0, none⟩ = some (.int .i64 gm) := carry hb20 (by go_simp)
  have u1_20 : w20.cell? ⟨w7.heap.size, 1, none⟩ = some (.int .i64 ge) := carry hb20 (by go_simp)
  have uz_20 : w7.heap.size < w20.heap.size := by have := hb20.size; first | omega | (simp at this; omega)
  have v0_20 : w20.cell? ⟨w8.heap.size, 0, none⟩ = some (.int .i64 hm) := carry hb20 (by go_simp)
  have v1_20 : w20.cell? ⟨w8.heap.size, 1, none⟩ = some (.int .i64 he) := carry hb20 (by go_simp)
  have vz_20 : w8.heap.size < w20.heap.size := by have := hb20.size; first | omega | (simp at this; omega)
  have HB_20 := Lib.hid ((by repeat (first | exact HB_19.out | refine Below.drew ?_ | refine Below.setCell ?_ (by first | omega | (simp; done) | (simp; omega)) _ | refine Below.alloc ?_ (by first | omega | (simp; done) | (simp; omega)) _) : Below w.heap.size w _).trans (hb20.mono (by first | omega | (simp; done) | (simp; omega))))
  have nz_20 : w.heap.size ≤ w20.heap.size := HB_20.out.size
  clear hb20 a0_19 a1_19 b0_19 b1_19 u0_19 u1_19 v0_19 v1_19 HB_19
  go_wp2_with fail
  go_ret
  exact ⟨rfl, by repeat (first | exact HB_20.out | refine Below.drew ?_ | refine Below.setCell ?_ (by first | omega | (simp; done) | (simp; omega)) _ | refine Below.alloc ?_ (by first | omega | (simp; done) | (simp; omega)) _)⟩

end Go.Proofs.YtoofdihnflnaiaaGreatDoor.realMonotonic
