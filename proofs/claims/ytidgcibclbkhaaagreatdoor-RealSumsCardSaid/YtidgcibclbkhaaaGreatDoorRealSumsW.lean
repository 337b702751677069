/-
  RealSums: the ways.
-/
import Derived.Test.YtidgcibclbkhaaaGreatDoorNaB
import Derived.Test.YtidgcibclbkhaaaGreatDoorRefI
import Derived.Test.YtidgcibclbkhaaaGreatDoorSanH

namespace Go.Proofs.YtidgcibclbkhaaaGreatDoor.realSums
open Go.RowKit
set_option linter.unusedVariables false

set_option maxRecDepth 100000 in
set_option maxHeartbeats 8000000 in
theorem bad_x (m e k f : Int) (w : World) (HAdd : Hid (∀ W : World, Calls Tryz.prog 26 #[realV m e, realV k f] W fun r w' => r = .returned (rE 0 0 1) ∧ Below W.heap.size W w')) (HSub : Hid (∀ W : World, Calls Tryz.prog 27 #[realV m e, realV k f] W fun r w' => r = .returned (rE 0 0 1) ∧ Below W.heap.size W w')) (HVx : Hid (∀ W : World, Calls Tryz.prog 14 #[realV m e] W fun r w' => r = .returned (.bool false) ∧ Below W.heap.size W w')) (HSan : Hid (∀ W, Below w.heap.size w W → Calls Tryz.prog 21 #[] W fun r W' => r = .returned (.bool true) ∧ Below W.heap.size W W'))  :
    Calls Tryz.prog 4 #[realV m e, realV k f] w fun r w' => r = .returned (.bool true) ∧ Below w.heap.size w w' := by
  go_enter Tryz.func4, Tryz.ntmps4
  go_wp2_with fail
  refine (HAdd.out _).mono ?_
  rintro e w1 ⟨rfl, hb1⟩
  have x0_1 : w1.cell? ⟨w.heap.size, 0, none⟩ = some (.int .i64 m) := carry hb1 (by go_simp)
  have x1_1 : w1.cell? ⟨w.heap.size, 1, none⟩ = some (.int .i64 e) := carry hb1 (by go_simp)
  have xz_1 : w.heap.size < w1.heap.size := by have := hb1.size; first | omega | (simp at this; omega)
  have y0_1 : w1.cell? ⟨w.heap.size + 1, 0, none⟩ = some (.int .i64 k) := carry hb1 (by go_simp)
  have y1_1 : w1.cell? ⟨w.heap.size + 1, 1, none⟩ = some (.int .i64 f) := carry hb1 (by go_simp)
  have yz_1 : w.heap.size + 1 < w1.heap.size := by have := hb1.size; first | omega | (simp at this; omega)
  have HB_1 := Lib.hid ((by repeat (first | exact Below.refl _ _ | refine Below.drew ?_ | refine Below.setCell ?_ (by first | omega | (simp; done) | (simp; omega)) _ | refine Below.alloc ?_ (by first | omega | (simp; done) | (simp; omega)) _) : Below w.heap.size w _).trans (hb1.mono (by first | omega | (simp; done) | (simp; omega))))
  have nz_1 : w.heap.size ≤ w1.heap.size := HB_1.out.size
  clear hb1
  go_wp2_with fail
  refine (HSub.out _).mono ?_
  rintro e w2 ⟨rfl, hb2⟩
  have x0_2 : w2.cell? ⟨w.heap.size, 0, none⟩ = some (.int .i64 m) := carry hb2 (by go_simp)
  have x1_2 : w2.cell? ⟨w.heap.size, 1, none⟩ = some (.int .i64 e) := carry hb2 (by go_simp)
  have xz_2 : w.heap.size < w2.heap.size := by have := hb2.size; first | omega | (simp at this; omega)
  have y0_2 : w2.cell? ⟨w.heap.size + 1, 0, none⟩ = some (.int .i64 k) := carry hb2 (by go_simp)
  have y1_2 : w2.cell? ⟨w.heap.size + 1, 1, none⟩ = some (.int .i64 f) := carry hb2 (by go_simp)
  have yz_2 : w.heap.size + 1 < w2.heap.size := by have := hb2.size; first | omega | (simp at this; omega)
  have s0_2 : w2.cell? ⟨w1.heap.size, 0, none⟩ = some (.int .i64 0) := carry hb2 (by go_simp)
  have s1_2 : w2.cell? ⟨w1.heap.size, 1, none⟩ = some (.int .i64 0) := carry hb2 (by go_simp)
  have sz_2 : w1.heap.size < w2.heap.size := by have := hb2.size; first | omega | (simp at this; omega)
  have HB_2 := Lib.hid ((by repeat (first | exact HB_1.out | refine Below.drew ?_ | refine Below.setCell ?_ (by first | omega | (simp; done) | (simp; omega)) _ | refine Below.alloc ?_ (by first | omega | (simp; done) | (simp; omega)) _) : Below w.heap.size w _).trans (hb2.mono (by first | omega | (simp; done) | (simp; omega))))
  have nz_2 : w.heap.size ≤ w2.heap.size := HB_2.out.size
  clear hb2 x0_1 x1_1 y0_1 y1_1 HB_1
  go_wp2_with fail
  refine (HVx.out _).mono ?_
  rintro e w3 ⟨rfl, hb3⟩
  have x0_3 : w3.cell? ⟨w.heap.size, 0, none⟩ = some (.int .i64 m) := carry hb3 (by go_simp)
  have x1_3 : w3.cell? ⟨w.heap.size, 1, none⟩ = some (.int .i64 e) := carry hb3 (by go_simp)
  have xz_3 : w.heap.size < w3.heap.size := by have := hb3.size; first | omega | (simp at this; omega)
  have y0_3 : w3.cell? ⟨w.heap.size + 1, 0, none⟩ = some (.int .i64 k) := carry hb3 (by go_simp)
  have y1_3 : w3.cell? ⟨w.heap.size + 1, 1, none⟩ = some (.int .i64 f) := carry hb3 (by go_simp)
  have yz_3 : w.heap.size + 1 < w3.heap.size := by have := hb3.size; first | omega | (simp at this; omega)
  have s0_3 : w3.cell? ⟨w1.heap.size, 0, none⟩ = some (.int .i64 0) := carry hb3 (by go_simp)
  have s1_3 : w3.cell? ⟨w1.heap.size, 1, none⟩ = some (.int .i64 0) := carry hb3 (by go_simp)
  have sz_3 : w1.heap.size < w3.heap.size := by have := hb3.size; first | omega | (simp at this; omega)
  have d0_3 : w3.cell? ⟨w2.heap.size, 0, none⟩ = some (.int .i64 0) := carry hb3 (by go_simp)
  have d1_3 : w3.cell? ⟨w2.heap.size, 1, none⟩ = some (.int .i64 0) := carry hb3 (by go_simp)
  have dz_3 : w2.heap.size < w3.heap.size := by have := hb3.size; first | omega | (simp at this; omega)
  have HB_3 := Lib.hid ((by repeat (first | exact HB_2.out | refine Below.drew ?_ | refine Below.setCell ?_ (by first | omega | (simp; done) | (simp; omega)) _ | refine Below.alloc ?_ (by first | omega | (simp; done) | (simp; omega)) _) : Below w.heap.size w _).trans (hb3.mono (by first | omega | (simp; done) | (simp; omega))))
  have nz_3 : w.heap.size ≤ w3.heap.size := HB_3.out.size
  clear hb3 x0_2 x1_2 y0_2 y1_2 s0_2 s1_2 HB_2
  go_wp2_with fail
  refine (HSan.out _ (by repeat (first | exact HB_3.out | refine Below.drew ?_ | refine Below.setCell ?_ (by first | omega | (simp; done) | (simp; omega)) _ | refine Below.alloc ?_ (by first | omega | (simp; done) | (simp; omega)) _))).mono ?_
  rintro e w4 ⟨rfl, hb4⟩
  have s0_4 : w4.cell? ⟨w1.heap.size, 0, none⟩ = some (.int .i64 0) := carry hb4 (by go_simp)
  have s1_4 : w4.cell? ⟨w1.heap.size, 1, none⟩ = some (.int .i64 0) := carry hb4 (by go_simp)
  have sz_4 : w1.heap.size < w4.heap.size := by have := hb4.size; first | omega | (simp at this; omega)
  have d0_4 : w4.cell? ⟨w2.heap.size, 0, none⟩ = some (.int .i64 0) := carry hb4 (by go_simp)
  have d1_4 : w4.cell? ⟨w2.heap.size, 1, none⟩ = some (.int .i64 0) := carry hb4 (by go_simp)
  have dz_4 : w2.heap.size < w4.heap.size := by have := hb4.size; first | omega | (simp at this; omega)
  have HB_4 := Lib.hid ((by repeat (first | exact HB_3.out | refine Below.drew ?_ | refine Below.setCell ?_ (by first | omega | (simp; done) | (simp; omega)) _ | refine Below.alloc ?_ (by first | omega | (simp; done) | (simp; omega)) _) : Below w.heap.size w _).trans (hb4.mono (by first | omega | (simp; done) | (simp; omega))))
  have nz_4 : w.heap.size ≤ w4.heap.size := HB_4.out.size
  clear hb4 x0_3 x1_3 y0_3 y1_3 s0_3 s1_3 d0_3 d1_3 HB_3
  go_wp2_with fail
  go_ret
  exact ⟨rfl, by repeat (first | exact HB_4.out | refine Below.drew ?_ | refine Below.setCell ?_ (by first | omega | (simp; done) | (simp; omega)) _ | refine Below.alloc ?_ (by first | omega | (simp; done) | (simp; omega)) _)⟩

set_option maxRecDepth 100000 in
set_option maxHeartbeats 8000000 in
theorem bad_y (m e k f : Int) (w : World) (HAdd : Hid (∀ W : World, Calls Tryz.prog 26 #[realV m e, realV k f] W fun r w' => r = .returned (rE 0 0 1) ∧ Below W.heap.size W w')) (HSub : Hid (∀ W : World, Calls Tryz.prog 27 #[realV m e, realV k f] W fun r w' => r = .returned (rE 0 0 1) ∧ Below W.heap.size W w')) (HVx : Hid (∀ W : World, Calls Tryz.prog 14 #[realV m e] W fun r w' => r = .returned (.bool true) ∧ Below W.heap.size W w')) (HVy : Hid (∀ W : World, Calls Tryz.prog 14 #[realV k f] W fun r w' => r = .returned (.bool false) ∧ Below W.heap.size W w')) (HSan : Hid (∀ W, Below w.heap.size w W → Calls Tryz.prog 21 #[] W fun r W' => r = .returned (.bool true) ∧ Below W.heap.size W W'))  :
    Calls Tryz.prog 4 #[realV m e, realV k f] w fun r w' => r = .returned (.bool true) ∧ Below w.heap.size w w' := by
  go_enter Tryz.func4, Tryz.ntmps4
  go_wp2_with fail
  refine (HAdd.out _).mono ?_
  rintro e w1 ⟨rfl, hb1⟩
  have x0_1 : w1.cell? ⟨w.heap.size, 0, none⟩ = some (.int .i64 m) := carry hb1 (by go_simp)
  have x1_1 : w1.cell? ⟨w.heap.size, 1, none⟩ = some (.int .i64 e) := carry hb1 (by go_simp)
  have xz_1 : w.heap.size < w1.heap.size := by have := hb1.size; first | omega | (simp at this; omega)
  have y0_1 : w1.cell? ⟨w.heap.size + 1, 0, none⟩ = some (.int .i64 k) := carry hb1 (by go_simp)
  have y1_1 : w1.cell? ⟨w.heap.size + 1, 1, none⟩ = some (.int .i64 f) := carry hb1 (by go_simp)
  have yz_1 : w.heap.size + 1 < w1.heap.size := by have := hb1.size; first | omega | (simp at this; omega)
  have HB_1 := Lib.hid ((by repeat (first | exact Below.refl _ _ | refine Below.drew ?_ | refine Below.setCell ?_ (by first | omega | (simp; done) | (simp; omega)) _ | refine Below.alloc ?_ (by first | omega | (simp; done) | (simp; omega)) _) : Below w.heap.size w _).trans (hb1.mono (by first | omega | (simp; done) | (simp; omega))))
  have nz_1 : w.heap.size ≤ w1.heap.size := HB_1.out.size
  clear hb1
  go_wp2_with fail
  refine (HSub.out _).mono ?_
  rintro e w2 ⟨rfl, hb2⟩
  have x0_2 : w2.cell? ⟨w.heap.size, 0, none⟩ = some (.int .i64 m) := carry hb2 (by go_simp)
  have x1_2 : w2.cell? ⟨w.heap.size, 1, none⟩ = some (.int .i64 e) := carry hb2 (by go_simp)
  have xz_2 : w.heap.size < w2.heap.size := by have := hb2.size; first | omega | (simp at this; omega)
  have y0_2 : w2.cell? ⟨w.heap.size + 1, 0, none⟩ = some (.int .i64 k) := carry hb2 (by go_simp)
  have y1_2 : w2.cell? ⟨w.heap.size + 1, 1, none⟩ = some (.int .i64 f) := carry hb2 (by go_simp)
  have yz_2 : w.heap.size + 1 < w2.heap.size := by have := hb2.size; first | omega | (simp at this; omega)
  have s0_2 : w2.cell? ⟨w1.heap.size, 0, none⟩ = some (.int .i64 0) := carry hb2 (by go_simp)
  have s1_2 : w2.cell? ⟨w1.heap.size, 1, none⟩ = some (.int .i64 0) := carry hb2 (by go_simp)
  have sz_2 : w1.heap.size < w2.heap.size := by have := hb2.size; first | omega | (simp at this; omega)
  have HB_2 := Lib.hid ((by repeat (first | exact HB_1.out | refine Below.drew ?_ | refine Below.setCell ?_ (by first | omega | (simp; done) | (simp; omega)) _ | refine Below.alloc ?_ (by first | omega | (simp; done) | (simp; omega)) _) : Below w.heap.size w _).trans (hb2.mono (by first | omega | (simp; done) | (simp; omega))))
  have nz_2 : w.heap.size ≤ w2.heap.size := HB_2.out.size
  clear hb2 x0_1 x1_1 y0_1 y1_1 HB_1
  go_wp2_with fail
  refine (HVx.out _).mono ?_
  rintro e w3 ⟨rfl, hb3⟩
  have x0_3 : w3.cell? ⟨w.heap.size, 0, none⟩ = some (.int .i64 m) := carry hb3 (by go_simp)
  have x1_3 : w3.cell? ⟨w.heap.size, 1, none⟩ = some (.int .i64 e) := carry hb3 (by go_simp)
  have xz_3 : w.heap.size < w3.heap.size := by have := hb3.size; first | omega | (simp at this; omega)
  have y0_3 : w3.cell? ⟨w.heap.size + 1, 0, none⟩ = some (.int .i64 k) := carry hb3 (by go_simp)
  have y1_3 : w3.cell? ⟨w.heap.size + 1, 1, none⟩ = some (.int .i64 f) := carry hb3 (by go_simp)
  have yz_3 : w.heap.size + 1 < w3.heap.size := by have := hb3.size; first | omega | (simp at this; omega)
  have s0_3 : w3.cell? ⟨w1.heap.size, 0, none⟩ = some (.int .i64 0) := carry hb3 (by go_simp)
  have s1_3 : w3.cell? ⟨w1.heap.size, 1, none⟩ = some (.int .i64 0) := carry hb3 (by go_simp)
  have sz_3 : w1.heap.size < w3.heap.size := by have := hb3.size; first | omega | (simp at this; omega)
  have d0_3 : w3.cell? ⟨w2.heap.size, 0, none⟩ = some (.int .i64 0) := carry hb3 (by go_simp)
  have d1_3 : w3.cell? ⟨w2.heap.size, 1, none⟩ = some (.int .i64 0) := carry hb3 (by go_simp)
  have dz_3 : w2.heap.size < w3.heap.size := by have := hb3.size; first | omega | (simp at this; omega)
  have HB_3 := Lib.hid ((by repeat (first | exact HB_2.out | refine Below.drew ?_ | refine Below.setCell ?_ (by first | omega | (simp; done) | (simp; omega)) _ | refine Below.alloc ?_ (by first | omega | (simp; done) | (simp; omega)) _) : Below w.heap.size w _).trans (hb3.mono (by first | omega | (simp; done) | (simp; omega))))
  have nz_3 : w.heap.size ≤ w3.heap.size := HB_3.out.size
  clear hb3 x0_2 x1_2 y0_2 y1_2 s0_2 s1_2 HB_2
  go_wp2_with fail
  refine (HVy.out _).mono ?_
  rintro e w4 ⟨rfl, hb4⟩
  have y0_4 : w4.cell? ⟨w.heap.size + 1, 0, none⟩ = some (.int .i64 k) := carry hb4 (by go_simp)
  have y1_4 : w4.cell? ⟨w.heap.size + 1, 1, none⟩ = some (.int .i64 f) := carry hb4 (by go_simp)
  have yz_4 : w.heap.size + 1 < w4.heap.size := by have := hb4.size; first | omega | (simp at this; omega)
  have s0_4 : w4.cell? ⟨w1.heap.size, 0, none⟩ = some (.int .i64 0) := carry hb4 (by go_simp)
  have s1_4 : w4.cell? ⟨w1.heap.size, 1, none⟩ = some (.int .i64 0) := carry hb4 (by go_simp)
  have sz_4 : w1.heap.size < w4.heap.size := by have := hb4.size; first | omega | (simp at this; omega)
  have d0_4 : w4.cell? ⟨w2.heap.size, 0, none⟩ = some (.int .i64 0) := carry hb4 (by go_simp)
  have d1_4 : w4.cell? ⟨w2.heap.size, 1, none⟩ = some (.int .i64 0) := carry hb4 (by go_simp)
  have dz_4 : w2.heap.size < w4.heap.size := by have := hb4.size; first | omega | (simp at this; omega)
  have HB_4 := Lib.hid ((by repeat (first | exact HB_3.out | refine Below.drew ?_ | refine Below.setCell ?_ (by first | omega | (simp; done) | (simp; omega)) _ | refine Below.alloc ?_ (by first | omega | (simp; done) | (simp; omega)) _) : Below w.heap.size w _).trans (hb4.mono (by first | omega | (simp; done) | (simp; omega))))
  have nz_4 : w.heap.size ≤ w4.heap.size := HB_4.out.size
  clear hb4 x0_3 x1_3 y0_3 y1_3 s0_3 s1_3 d0_3 d1_3 HB_3
  go_wp2_with fail
  refine (HSan.out _ (by repeat (first | exact HB_4.out | refine Below.drew ?_ | refine Below.setCell ?_ (by first | omega | (simp; done) | (simp; omega)) _ | refine Below.alloc ?_ (by first | omega | (simp; done) | (simp; omega)) _))).mono ?_
  rintro e w5 ⟨rfl, hb5⟩
  have s0_5 : w5.cell? ⟨w1.heap.size, 0, none⟩ = some (.int .i64 0) := carry hb5 (by go_simp)
  have s1_5 : w5.cell? ⟨w1.heap.size, 1, none⟩ = some (.int .i64 0) := carry hb5 (by go_simp)
  have sz_5 : w1.heap.size < w5.heap.size := by have := hb5.size; first | omega | (simp at this; omega)
  have d0_5 : w5.cell? ⟨w2.heap.size, 0, none⟩ = some (.int .i64 0) := carry hb5 (by go_simp)
  have d1_5 : w5.cell? ⟨w2.heap.size, 1, none⟩ = some (.int .i64 0) := carry hb5 (by go_simp)
  have dz_5 : w2.heap.size < w5.heap.size := by have := hb5.size; first | omega | (simp at this; omega)
  have HB_5 := Lib.hid ((by repeat (first | exact HB_4.out | refine Below.drew ?_ | refine Below.setCell ?_ (by first | omega | (simp; done) | (simp; omega)) _ | refine Below.alloc ?_ (by first | omega | (simp; done) | (simp; omega)) _) : Below w.heap.size w _).trans (hb5.mono (by first | omega | (simp; done) | (simp; omega))))
  have nz_5 : w.heap.size ≤ w5.heap.size := HB_5.out.size
  clear hb5 y0_4 y1_4 s0_4 s1_4 d0_4 d1_4 HB_4
  go_wp2_with fail
  go_ret
  exact ⟨rfl, by repeat (first | exact HB_5.out | refine Below.drew ?_ | refine Below.setCell ?_ (by first | omega | (simp; done) | (simp; omega)) _ | refine Below.alloc ?_ (by first | omega | (simp; done) | (simp; omega)) _)⟩

set_option maxRecDepth 100000 in
set_option maxHeartbeats 8000000 in
theorem good (m e k f sm se sx dm de dx pm pe qm qe : Int) (po qo : Bool) (w : World) (HAdd : Hid (∀ W : World, Calls Tryz.prog 26 #[realV m e, realV k f] W fun r w' => r = .returned (rE sm se sx) ∧ Below W.heap.size W w')) (HSub : Hid (∀ W : World, Calls Tryz.prog 27 #[realV m e, realV k f] W fun r w' => r = .returned (rE dm de dx) ∧ Below W.heap.size W w')) (HVx : Hid (∀ W : World, Calls Tryz.prog 14 #[realV m e] W fun r w' => r = .returned (.bool true) ∧ Below W.heap.size W w')) (HVy : Hid (∀ W : World, Calls Tryz.prog 14 #[realV k f] W fun r w' => r = .returned (.bool true) ∧ Below W.heap.size W w')) (HRA : Hid (∀ W : World, Calls Tryz.prog 29 #[realV m e, realV k f] W fun r w' => r = .returned (.agg #[.int .i64 pm, .int .i64 pe, .bool po]) ∧ Below W.heap.size W w')) (HRS : Hid (∀ W : World, Calls Tryz.prog 30 #[realV m e, realV k f] W fun r w' => r = .returned (.agg #[.int .i64 qm, .int .i64 qe, .bool qo]) ∧ Below W.heap.size W w')) (HO1 : Hid (∀ W : World, Calls Tryz.prog 28 #[realV sm se, .int .i64 sx, .agg #[.int .i64 pm, .int .i64 pe, .bool po]] W fun r w' => r = .returned (.bool true) ∧ Below W.heap.size W w')) (HO2 : Hid (∀ W : World, Calls Tryz.prog 28 #[realV dm de, .int .i64 dx, .agg #[.int .i64 qm, .int .i64 qe, .bool qo]] W fun r w' => r = .returned (.bool true) ∧ Below W.heap.size W w')) (HSan : Hid (∀ W, Below w.heap.size w W → Calls Tryz.prog 21 #[] W fun r W' => r = .returned (.bool true) ∧ Below W.heap.size W W'))  :
    Calls Tryz.prog 4 #[realV m e, realV k f] w fun r w' => r = .returned (.bool true) ∧ Below w.heap.size w w' := by
  go_enter Tryz.func4, Tryz.ntmps4
  go_wp2_with fail
  refine (HAdd.out _).mono ?_
  rintro e w1 ⟨rfl, hb1⟩
  have x0_1 : w1.cell? ⟨w.heap.size, 0, none⟩ = some (.int .i64 m) := carry hb1 (by go_simp)
  have x1_1 : w1.cell? ⟨w.heap.size, 1, none⟩ = some (.int .i64 e) := carry hb1 (by go_simp)
  have xz_1 : w.heap.size < w1.heap.size := by have := hb1.size; first | omega | (simp at this; omega)
  have y0_1 : w1.cell? ⟨w.heap.size + 1, 0, none⟩ = some (.int .i64 k) := carry hb1 (by go_simp)
  have y1_1 : w1.cell? ⟨w.heap.size + 1, 1, none⟩ = some (.int .i64 f) := carry hb1 (by go_simp)
  have yz_1 : w.heap.size + 1 < w1.heap.size := by have := hb1.size; first | omega | (simp at this; omega)
  have HB_1 := Lib.hid ((by repeat (first | exact Below.refl _ _ | refine Below.drew ?_ | refine Below.setCell ?_ (by first | omega | (simp; done) | (simp; omega)) _ | refine Below.alloc ?_ (by first | omega | (simp; done) | (simp; omega)) _) : Below w.heap.size w _).trans (hb1.mono (by first | omega | (simp; done) | (simp; omega))))
  have nz_1 : w.heap.size ≤ w1.heap.size := HB_1.out.size
  clear hb1
  go_wp2_with fail
  refine (HSub.out _).mono ?_
  rintro e w2 ⟨rfl, hb2⟩
  have x0_2 : w2.cell? ⟨w.heap.size, 0, none⟩ = some (.int .i64 m) := carry hb2 (by go_simp)
  have x1_2 : w2.cell? ⟨w.heap.size, 1, none⟩ = some (.int .i64 e) := carry hb2 (by go_simp)
  have xz_2 : w.heap.size < w2.heap.size := by have := hb2.size; first | omega | (simp at this; omega)
  have y0_2 : w2.cell? ⟨w.heap.size + 1, 0, none⟩ = some (.int .i64 k) := carry hb2 (by go_simp)
  have y1_2 : w2.cell? ⟨w.heap.size + 1, 1, none⟩ = some (.int .i64 f) := carry hb2 (by go_simp)
  have yz_2 : w.heap.size + 1 < w2.heap.size := by have := hb2.size; first | omega | (simp at this; omega)
  have s0_2 : w2.cell? ⟨w1.heap.size, 0, none⟩ = some (.int .i64 sm) := carry hb2 (by go_simp)
  have s1_2 : w2.cell? ⟨w1.heap.size, 1, none⟩ = some (.int .i64 se) := carry hb2 (by go_simp)
  have sz_2 : w1.heap.size < w2.heap.size := by have := hb2.size; first | omega | (simp at this; omega)
  have HB_2 := Lib.hid ((by repeat (first | exact HB_1.out | refine Below.drew ?_ | refine Below.setCell ?_ (by first | omega | (simp; done) | (simp; omega)) _ | refine Below.alloc ?_ (by first | omega | (simp; done) | (simp; omega)) _) : Below w.heap.size w _).trans (hb2.mono (by first | omega | (simp; done) | (simp; omega))))
  have nz_2 : w.heap.size ≤ w2.heap.size := HB_2.out.size
  clear hb2 x0_1 x1_1 y0_1 y1_1 HB_1
  go_wp2_with fail
  refine (HVx.out _).mono ?_
  rintro e w3 ⟨rfl, hb3⟩
  have x0_3 : w3.cell? ⟨w.heap.size, 0, none⟩ = some (.int .i64 m) := carry hb3 (by go_simp)
  have x1_3 : w3.cell? ⟨w.heap.size, 1, none⟩ = some (.int .i64 e) := carry hb3 (by go_simp)
  have xz_3 : w.heap.size < w3.heap.size := by have := hb3.size; first | omega | (simp at this; omega)
  have y0_3 : w3.cell? ⟨w.heap.size + 1, 0, none⟩ = some (.int .i64 k) := carry hb3 (by go_simp)
  have y1_3 : w3.cell? ⟨w.heap.size + 1, 1, none⟩ = some (.int .i64 f) := carry hb3 (by go_simp)
  have yz_3 : w.heap.size + 1 < w3.heap.size := by have := hb3.size; first | omega | (simp at this; omega)
  have s0_3 : w3.cell? ⟨w1.heap.size, 0, none⟩ = some (.int .i64 sm) := carry hb3 (by go_simp)
  have s1_3 : w3.cell? ⟨w1.heap.size, 1, none⟩ = some (.int .i64 se) := carry hb3 (by go_simp)
  have sz_3 : w1.heap.size < w3.heap.size := by have := hb3.size; first | omega | (simp at this; omega)
  have d0_3 : w3.cell? ⟨w2.heap.size, 0, none⟩ = some (.int .i64 dm) := carry hb3 (by go_simp)
  have d1_3 : w3.cell? ⟨w2.heap.size, 1, none⟩ = some (.int .i64 de) := carry hb3 (by go_simp)
  have dz_3 : w2.heap.size < w3.heap.size := by have := hb3.size; first | omega | (simp at this; omega)
  have HB_3 := Lib.hid ((by repeat (first | exact HB_2.out | refine Below.drew ?_ | refine Below.setCell ?_ (by first | omega | (simp; done) | (simp; omega)) _ | refine Below.alloc ?_ (by first | omega | (simp; done) | (simp; omega)) _) : Below w.heap.size w _).trans (hb3.mono (by first | omega | (simp; done) | (simp; omega))))
  have nz_3 : w.heap.size ≤ w3.heap.size := HB_3.out.size
  clear hb3 x0_2 x1_2 y0_2 y1_2 s0_2 s1_2 HB_2
  go_wp2_with fail
  refine (HVy.out _).mono ?_
  rintro e w4 ⟨rfl, hb4⟩
  have x0_4 : w4.cell? ⟨w.heap.size, 0, none⟩ = some (.int .i64 m) := carry hb4 (by go_simp)
  have x1_4 : w4.cell? ⟨w.heap.size, 1, none⟩ = some (.int .i64 e) := carry hb4 (by go_simp)
  have xz_4 : w.heap.size < w4.heap.size := by have := hb4.size; first | omega | (simp at this; omega)
  have y0_4 : w4.cell? ⟨w.heap.size + 1, 0, none⟩ = some (.int .i64 k) := carry hb4 (by go_simp)
  have y1_4 : w4.cell? ⟨w.heap.size + 1, 1, none⟩ = some (.int .i64 f) := carry hb4 (by go_simp)
  have yz_4 : w.heap.size + 1 < w4.heap.size := by have := hb4.size; first | omega | (simp at this; omega)
  have s0_4 : w4.cell? ⟨w1.heap.size, 0, none⟩ = some (.int .i64 sm) := carry hb4 (by go_simp)
  have s1_4 : w4.cell? ⟨w1.heap.size, 1, none⟩ = some (.int .i64 se) := carry hb4 (by go_simp)
  have sz_4 : w1.heap.size < w4.heap.size := by have := hb4.size; first | omega | (simp at this; omega)
  have d0_4 : w4.cell? ⟨w2.heap.size, 0, none⟩ = some (.int .i64 dm) := carry hb4 (by go_simp)
  have d1_4 : w4.cell? ⟨w2.heap.size, 1, none⟩ = some (.int .i64 de) := carry hb4 (by go_simp)
  have dz_4 : w2.heap.size < w4.heap.size := by have := hb4.size; first | omega | (simp at this; omega)
  have HB_4 := Lib.hid ((by repeat (first | exact HB_3.out | refine Below.drew ?_ | refine Below.setCell ?_ (by first | omega | (simp; done) | (simp; omega)) _ | refine Below.alloc ?_ (by first | omega | (simp; done) | (simp; omega)) _) : Below w.heap.size w _).trans (hb4.mono (by first | omega | (simp; done) | (simp; omega))))
  have nz_4 : w.heap.size ≤ w4.heap.size := HB_4.out.size
  clear hb4 x0_3 x1_3 y0_3 y1_3 s0_3 s1_3 d0_3 d1_3 HB_3
  have HB0 := Lib.hid (Below.refl w4.heap.size w4)
  have HSK := Lib.hid (show ∀ wx, Below w4.heap.size w4 wx → wx.cell? ⟨w.heap.size, 0, none⟩ = some (.int .i64 m) ∧ wx.cell? ⟨w.heap.size, 1, none⟩ = some (.int .i64 e) ∧ wx.cell? ⟨w.heap.size + 1, 0, none⟩ = some (.int .i64 k) ∧ wx.cell? ⟨w.heap.size + 1, 1, none⟩ = some (.int .i64 f) ∧ wx.cell? ⟨w1.heap.size, 0, none⟩ = some (.int .i64 sm) ∧ wx.cell? ⟨w1.heap.size, 1, none⟩ = some (.int .i64 se) ∧ wx.cell? ⟨w2.heap.size, 0, none⟩ = some (.int .i64 dm) ∧ wx.cell? ⟨w2.heap.size, 1, none⟩ = some (.int .i64 de) ∧ w.heap.size < wx.heap.size ∧ w.heap.size + 1 < wx.heap.size ∧ w1.heap.size < wx.heap.size ∧ w2.heap.size < wx.heap.size from fun wx h => ⟨carry h x0_4, carry h x1_4, carry h y0_4, carry h y1_4, carry h s0_4, carry h s1_4, carry h d0_4, carry h d1_4, Nat.lt_of_lt_of_le xz_4 h.size, Nat.lt_of_lt_of_le yz_4 h.size, Nat.lt_of_lt_of_le sz_4 h.size, Nat.lt_of_lt_of_le dz_4 h.size⟩)
  go_wp2_with fail
  go_region_held3 (fun wx => wx.cell? ⟨w.heap.size, 0, none⟩ = some (.int .i64 m) ∧ wx.cell? ⟨w.heap.size, 1, none⟩ = some (.int .i64 e) ∧ wx.cell? ⟨w.heap.size + 1, 0, none⟩ = some (.int .i64 k) ∧ wx.cell? ⟨w.heap.size + 1, 1, none⟩ = some (.int .i64 f) ∧ wx.cell? ⟨w1.heap.size, 0, none⟩ = some (.int .i64 sm) ∧ wx.cell? ⟨w1.heap.size, 1, none⟩ = some (.int .i64 se) ∧ wx.cell? ⟨w2.heap.size, 0, none⟩ = some (.int .i64 dm) ∧ wx.cell? ⟨w2.heap.size, 1, none⟩ = some (.int .i64 de) ∧ w.heap.size < wx.heap.size ∧ w.heap.size + 1 < wx.heap.size ∧ w1.heap.size < wx.heap.size ∧ w2.heap.size < wx.heap.size) (first | (go_keep; done) | exact HSK.out _ (by first | with_reducible assumption | with_reducible exact HB0.out | with_reducible exact HB0.out.drew | with_reducible exact Below.drew (by with_reducible assumption)))
    (first
      | (go_at_call 21; ((with_reducible refine (HSan.out _ (HB_4.out.trans (Below.mono (by first | with_reducible assumption | with_reducible exact HB0.out | with_reducible exact HB0.out.drew | with_reducible exact Below.drew (by with_reducible assumption)) nz_4))).mono ?_); rintro r wq ⟨rfl, hbq⟩; have qb : Below w4.heap.size w4 wq := Below.trans (by first | with_reducible assumption | with_reducible exact HB0.out | with_reducible exact HB0.out.drew | with_reducible exact Below.drew (by with_reducible assumption)) (hbq.mono (Below.size (by first | with_reducible assumption | with_reducible exact HB0.out | with_reducible exact HB0.out.drew | with_reducible exact Below.drew (by with_reducible assumption))))))
      | (go_at_call 29; ((with_reducible refine (HRA.out _).mono ?_); rintro r wq ⟨rfl, hbq⟩; have qb : Below w4.heap.size w4 wq := Below.trans (by first | with_reducible assumption | with_reducible exact HB0.out | with_reducible exact HB0.out.drew | with_reducible exact Below.drew (by with_reducible assumption)) (hbq.mono (Below.size (by first | with_reducible assumption | with_reducible exact HB0.out | with_reducible exact HB0.out.drew | with_reducible exact Below.drew (by with_reducible assumption))))))
      | (go_at_call 30; ((with_reducible refine (HRS.out _).mono ?_); rintro r wq ⟨rfl, hbq⟩; have qb : Below w4.heap.size w4 wq := Below.trans (by first | with_reducible assumption | with_reducible exact HB0.out | with_reducible exact HB0.out.drew | with_reducible exact Below.drew (by with_reducible assumption)) (hbq.mono (Below.size (by first | with_reducible assumption | with_reducible exact HB0.out | with_reducible exact HB0.out.drew | with_reducible exact Below.drew (by with_reducible assumption))))))
      | (go_at_call 28; ((with_reducible refine (HO1.out _).mono ?_); rintro r wq ⟨rfl, hbq⟩; have qb : Below w4.heap.size w4 wq := Below.trans (by first | with_reducible assumption | with_reducible exact HB0.out | with_reducible exact HB0.out.drew | with_reducible exact Below.drew (by with_reducible assumption)) (hbq.mono (Below.size (by first | with_reducible assumption | with_reducible exact HB0.out | with_reducible exact HB0.out.drew | with_reducible exact Below.drew (by with_reducible assumption))))))
      | (go_at_call 28; ((with_reducible refine (HO2.out _).mono ?_); rintro r wq ⟨rfl, hbq⟩; have qb : Below w4.heap.size w4 wq := Below.trans (by first | with_reducible assumption | with_reducible exact HB0.out | with_reducible exact HB0.out.drew | with_reducible exact Below.drew (by with_reducible assumption)) (hbq.mono (Below.size (by first | with_reducible assumption | with_reducible exact HB0.out | with_reducible exact HB0.out.drew | with_reducible exact Below.drew (by with_reducible assumption)))))))
  go_wp2_with fail
  go_ret
  exact ⟨rfl, HB_4.out.trans (qb.mono nz_4)⟩

theorem rnd_oR (I : Int) (w : World) :
    Calls Tryz.prog 28 #[realV (oM I) (oE I), .int .i64 (oX I), rrV I] w fun r w' => r = .returned (.bool true) ∧ Below w.heap.size w w' := by
  unfold oM oE oX rrV
  by_cases h : -2533359615 ≤ I ∧ I ≤ 2533359615
  · rw [if_pos h, if_pos h, if_pos h, decide_eq_true h]
    have := rnd_yes (aM I) (aE I) w
    simpa only [oM, oE, if_pos h] using this
  · rw [if_neg h, if_neg h, if_neg h, decide_eq_false h]
    have := rnd_no w
    simpa only [oM, oE, if_neg h] using this

theorem run (m e k f : Int) (w : World) (w0 : (Lit.int .i64 m).wf = true) (w1 : (Lit.int .i64 e).wf = true) (w2 : (Lit.int .i64 k).wf = true) (w3 : (Lit.int .i64 f).wf = true) (hP : P10 w) (hQ : TabQ w) :
    Calls Tryz.prog 4 #[realV m e, realV k f] w fun r w' => r = .returned (.bool true) ∧ Below w.heap.size w w' := by
  have HS := hsan w hP hQ
  have hb : -9223372036854775808 ≤ m ∧ m ≤ 9223372036854775807 := by simpa [Lit.wf, IntKind.min, IntKind.max, IntKind.signed, IntKind.bits] using w0
  have hk : -9223372036854775808 ≤ k ∧ k ≤ 9223372036854775807 := by simpa [Lit.wf, IntKind.min, IntKind.max, IntKind.signed, IntKind.bits] using w2
  have HVx : Hid (∀ W : World, Calls Tryz.prog 14 #[realV m e] W fun r w' => r = .returned (.bool (vr m e)) ∧ Below W.heap.size W w') := Lib.hid (fun W => rvalid_any m e W hb.1 hb.2)
  have HVy : Hid (∀ W : World, Calls Tryz.prog 14 #[realV k f] W fun r w' => r = .returned (.bool (vr k f)) ∧ Below W.heap.size W w') := Lib.hid (fun W => rvalid_any k f W hk.1 hk.2)
  cases hv : vr m e
  · rw [hv] at HVx
    have hx : (vr m e && vr k f) = false := by rw [hv]; rfl
    exact bad_x m e k f w (Lib.hid (fun W => add_bad m e k f W (Lib.hid hx) hb hk)) (Lib.hid (fun W => sub_bad m e k f W (Lib.hid hx) hb hk)) HVx HS
  · cases hu : vr k f
    · rw [hv] at HVx
      rw [hu] at HVy
      have hx : (vr m e && vr k f) = false := by rw [hv, hu]; rfl
      exact bad_y m e k f w (Lib.hid (fun W => add_bad m e k f W (Lib.hid hx) hb hk)) (Lib.hid (fun W => sub_bad m e k f W (Lib.hid hx) hb hk)) HVx HVy HS
    · rw [hv] at HVx
      rw [hu] at HVy
      have hx : (vr m e && vr k f) = true := by rw [hv, hu]; rfl
      have HA : Hid (∀ W : World, Calls Tryz.prog 26 #[realV m e, realV k f] W fun r w' => r = .returned (oR (RI (UU m e + UU k f) 0)) ∧ Below W.heap.size W w') := Lib.hid (fun W => by
        have h := add_ok m e k f W (Lib.hid hx)
        rwa [add_i hv hu] at h)
      have HB : Hid (∀ W : World, Calls Tryz.prog 27 #[realV m e, realV k f] W fun r w' => r = .returned (oR (RI (UU m e - UU k f) 0)) ∧ Below W.heap.size W w') := Lib.hid (fun W => by
        have h := sub_ok m e k f W (Lib.hid hx)
        rwa [sub_i hv hu] at h)
      exact good m e k f _ _ _ _ _ _ _ _ _ _ _ _ w HA HB HVx HVy (Lib.hid (fun W => radd_any m e k f W hv hu)) (Lib.hid (fun W => rsub_any m e k f W hv hu)) (Lib.hid (fun W => rnd_oR _ W)) (Lib.hid (fun W => rnd_oR _ W)) HS

end Go.Proofs.YtidgcibclbkhaaaGreatDoor.realSums
