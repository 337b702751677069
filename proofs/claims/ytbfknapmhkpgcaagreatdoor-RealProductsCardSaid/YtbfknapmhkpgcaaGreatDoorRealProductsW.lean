/-
  RealProducts: the ways.
-/
import Derived.Test.YtbfknapmhkpgcaaGreatDoorNaC
import Derived.Test.YtbfknapmhkpgcaaGreatDoorRefI
import Derived.Test.YtbfknapmhkpgcaaGreatDoorSanH
import Derived.Deep.RegionHeld3

namespace Go.Proofs.YtbfknapmhkpgcaaGreatDoor.realProducts
open Go.RowKit
set_option linter.unusedVariables false

set_option maxRecDepth 100000 in
set_option maxHeartbeats 8000000 in
theorem bad_x (m e k f : Int) (w : World) (HMul : Hid (∀ W : World, Calls Tryz.prog 25 #[realV m e, realV k f] W fun r w' => r = .returned (rE 0 0 1) ∧ Below W.heap.size W w')) (HDiv : Hid (∀ W : World, Calls Tryz.prog 26 #[realV m e, realV k f] W fun r w' => r = .returned (rE 0 0 1) ∧ Below W.heap.size W w')) (HSq : Hid (∀ W : World, Calls Tryz.prog 27 #[realV m e] W fun r w' => r = .returned (rE 0 0 1) ∧ Below W.heap.size W w')) (HVx : Hid (∀ W : World, Calls Tryz.prog 13 #[realV m e] W fun r w' => r = .returned (.bool false) ∧ Below W.heap.size W w')) (HSan : Hid (∀ W, Below w.heap.size w W → Calls Tryz.prog 20 #[] W fun r W' => r = .returned (.bool true) ∧ Below W.heap.size W W'))  :
    Calls Tryz.prog 4 #[realV m e, realV k f] w fun r w' => r = .returned (.bool true) ∧ Below w.heap.size w w' := by
  go_enter Tryz.func4, Tryz.ntmps4
  go_wp2_with fail
  refine (HMul.out _).mono ?_
  rintro e w1 ⟨rfl, hb1⟩
  have x0_1 : w1.cell? ⟨w.heap.size, 0, none⟩ = some (.int .i64 m) := carry hb1 (by go_simp)
  have x1_1 : w1.cell? ⟨w.heap.size, 1, none⟩ = some (.int .i64 e) := carry hb1 (by go_simp)
  have xz_1 : w.heap.size < w1.heap.size := by have := hb1.size; first | omega | (simp at this; omega)
  have y0_1 : w1.cell? ⟨w.heap.size + 1, 0, none⟩ = some (.int .i64 k) := carry hb1 (by go_simp)
  have y1_1 : w1.cell? ⟨w.heap.size + 1, 1, none⟩ = some (.int .i64 f) := carry hb1 (by go_simp)
  have yz_1 : w.heap.size + 1 < w1.heap.size := by have := hb1.size; first | omega | (simp at this; omega)
  have HB_1 := Lib.hid ((by repeat (first | exact Below.refl _ _ | refine Below.drew ?_ | refine Below.setCell ?_ (by first | omega | (simp; done) | (simp; omega)) _ | refine Below.alloc ?_ (by first | omega | (simp; done) | (simp; omega)) _) : Below w.heap.size w _).trans (hb1.mono (by first | omega | (simp; done) | (simp; omega))))
  have nz_1 : w.heap.size ≤ w1.heap.size := HB_1.out.size
  clear hb1
  go_wp2_with fail
  refine (HDiv.out _).mono ?_
  rintro e w2 ⟨rfl, hb2⟩
  have x0_2 : w2.cell? ⟨w.heap.size, 0, none⟩ = some (.int .i64 m) := carry hb2 (by go_simp)
  have x1_2 : w2.cell? ⟨w.heap.size, 1, none⟩ = some (.int .i64 e) := carry hb2 (by go_simp)
  have xz_2 : w.heap.size < w2.heap.size := by have := hb2.size; first | omega | (simp at this; omega)
  have y0_2 : w2.cell? ⟨w.heap.size + 1, 0, none⟩ = some (.int .i64 k) := carry hb2 (by go_simp)
  have y1_2 : w2.cell? ⟨w.heap.size + 1, 1, none⟩ = some (.int .i64 f) := carry hb2 (by go_simp)
  have yz_2 : w.heap.size + 1 < w2.heap.size := by have := hb2.size; first | omega | (simp at this; omega)
  have a0_2 : w2.cell? ⟨w1.heap.size, 0, none⟩ = some (.int .i64 0) := carry hb2 (by go_simp)
  have a1_2 : w2.cell? ⟨w1.heap.size, 1, none⟩ = some (.int .i64 0) := carry hb2 (by go_simp)
  have az_2 : w1.heap.size < w2.heap.size := by have := hb2.size; first | omega | (simp at this; omega)
  have HB_2 := Lib.hid ((by repeat (first | exact HB_1.out | refine Below.drew ?_ | refine Below.setCell ?_ (by first | omega | (simp; done) | (simp; omega)) _ | refine Below.alloc ?_ (by first | omega | (simp; done) | (simp; omega)) _) : Below w.heap.size w _).trans (hb2.mono (by first | omega | (simp; done) | (simp; omega))))
  have nz_2 : w.heap.size ≤ w2.heap.size := HB_2.out.size
  clear hb2 x0_1 x1_1 y0_1 y1_1 HB_1
  go_wp2_with fail
  refine (HSq.out _).mono ?_
  rintro e w3 ⟨rfl, hb3⟩
  have x0_3 : w3.cell? ⟨w.heap.size, 0, none⟩ = some (.int .i64 m) := carry hb3 (by go_simp)
  have x1_3 : w3.cell? ⟨w.heap.size, 1, none⟩ = some (.int .i64 e) := carry hb3 (by go_simp)
  have xz_3 : w.heap.size < w3.heap.size := by have := hb3.size; first | omega | (simp at this; omega)
  have y0_3 : w3.cell? ⟨w.heap.size + 1, 0, none⟩ = some (.int .i64 k) := carry hb3 (by go_simp)
  have y1_3 : w3.cell? ⟨w.heap.size + 1, 1, none⟩ = some (.int .i64 f) := carry hb3 (by go_simp)
  have yz_3 : w.heap.size + 1 < w3.heap.size := by have := hb3.size; first | omega | (simp at this; omega)
  have a0_3 : w3.cell? ⟨w1.heap.size, 0, none⟩ = some (.int .i64 0) := carry hb3 (by go_simp)
  have a1_3 : w3.cell? ⟨w1.heap.size, 1, none⟩ = some (.int .i64 0) := carry hb3 (by go_simp)
  have az_3 : w1.heap.size < w3.heap.size := by have := hb3.size; first | omega | (simp at this; omega)
  have b0_3 : w3.cell? ⟨w2.heap.size, 0, none⟩ = some (.int .i64 0) := carry hb3 (by go_simp)
  have b1_3 : w3.cell? ⟨w2.heap.size, 1, none⟩ = some (.int .i64 0) := carry hb3 (by go_simp)
  have bz_3 : w2.heap.size < w3.heap.size := by have := hb3.size; first | omega | (simp at this; omega)
  have HB_3 := Lib.hid ((by repeat (first | exact HB_2.out | refine Below.drew ?_ | refine Below.setCell ?_ (by first | omega | (simp; done) | (simp; omega)) _ | refine Below.alloc ?_ (by first | omega | (simp; done) | (simp; omega)) _) : Below w.heap.size w _).trans (hb3.mono (by first | omega | (simp; done) | (simp; omega))))
  have nz_3 : w.heap.size ≤ w3.heap.size := HB_3.out.size
  clear hb3 x0_2 x1_2 y0_2 y1_2 a0_2 a1_2 HB_2
  go_wp2_with fail
  refine (HVx.out _).mono ?_
  rintro e w4 ⟨rfl, hb4⟩
  have x0_4 : w4.cell? ⟨w.heap.size, 0, none⟩ = some (.int .i64 m) := carry hb4 (by go_simp)
  have x1_4 : w4.cell? ⟨w.heap.size, 1, none⟩ = some (.int .i64 e) := carry hb4 (by go_simp)
  have xz_4 : w.heap.size < w4.heap.size := by have := hb4.size; first | omega | (simp at this; omega)
  have y0_4 : w4.cell? ⟨w.heap.size + 1, 0, none⟩ = some (.int .i64 k) := carry hb4 (by go_simp)
  have y1_4 : w4.cell? ⟨w.heap.size + 1, 1, none⟩ = some (.int .i64 f) := carry hb4 (by go_simp)
  have yz_4 : w.heap.size + 1 < w4.heap.size := by have := hb4.size; first | omega | (simp at this; omega)
  have a0_4 : w4.cell? ⟨w1.heap.size, 0, none⟩ = some (.int .i64 0) := carry hb4 (by go_simp)
  have a1_4 : w4.cell? ⟨w1.heap.size, 1, none⟩ = some (.int .i64 0) := carry hb4 (by go_simp)
  have az_4 : w1.heap.size < w4.heap.size := by have := hb4.size; first | omega | (simp at this; omega)
  have b0_4 : w4.cell? ⟨w2.heap.size, 0, none⟩ = some (.int .i64 0) := carry hb4 (by go_simp)
  have b1_4 : w4.cell? ⟨w2.heap.size, 1, none⟩ = some (.int .i64 0) := carry hb4 (by go_simp)
  have bz_4 : w2.heap.size < w4.heap.size := by have := hb4.size; first | omega | (simp at this; omega)
  have c0_4 : w4.cell? ⟨w3.heap.size, 0, none⟩ = some (.int .i64 0) := carry hb4 (by go_simp)
  have c1_4 : w4.cell? ⟨w3.heap.size, 1, none⟩ = some (.int .i64 0) := carry hb4 (by go_simp)
  have cz_4 : w3.heap.size < w4.heap.size := by have := hb4.size; first | omega | (simp at this; omega)
  have HB_4 := Lib.hid ((by repeat (first | exact HB_3.out | refine Below.drew ?_ | refine Below.setCell ?_ (by first | omega | (simp; done) | (simp; omega)) _ | refine Below.alloc ?_ (by first | omega | (simp; done) | (simp; omega)) _) : Below w.heap.size w _).trans (hb4.mono (by first | omega | (simp; done) | (simp; omega))))
  have nz_4 : w.heap.size ≤ w4.heap.size := HB_4.out.size
  clear hb4 x0_3 x1_3 y0_3 y1_3 a0_3 a1_3 b0_3 b1_3 HB_3
  go_wp2_with fail
  refine (HSan.out _ (by repeat (first | exact HB_4.out | refine Below.drew ?_ | refine Below.setCell ?_ (by first | omega | (simp; done) | (simp; omega)) _ | refine Below.alloc ?_ (by first | omega | (simp; done) | (simp; omega)) _))).mono ?_
  rintro e w5 ⟨rfl, hb5⟩
  have a0_5 : w5.cell? ⟨w1.heap.size, 0, none⟩ = some (.int .i64 0) := carry hb5 (by go_simp)
  have a1_5 : w5.cell? ⟨w1.heap.size, 1, none⟩ = some (.int .i64 0) := carry hb5 (by go_simp)
  have az_5 : w1.heap.size < w5.heap.size := by have := hb5.size; first | omega | (simp at this; omega)
  have b0_5 : w5.cell? ⟨w2.heap.size, 0, none⟩ = some (.int .i64 0) := carry hb5 (by go_simp)
  have b1_5 : w5.cell? ⟨w2.heap.size, 1, none⟩ = some (.int .i64 0) := carry hb5 (by go_simp)
  have bz_5 : w2.heap.size < w5.heap.size := by have := hb5.size; first | omega | (simp at this; omega)
  have c0_5 : w5.cell? ⟨w3.heap.size, 0, none⟩ = some (.int .i64 0) := carry hb5 (by go_simp)
  have c1_5 : w5.cell? ⟨w3.heap.size, 1, none⟩ = some (.int .i64 0) := carry hb5 (by go_simp)
  have cz_5 : w3.heap.size < w5.heap.size := by have := hb5.size; first | omega | (simp at this; omega)
  have HB_5 := Lib.hid ((by repeat (first | exact HB_4.out | refine Below.drew ?_ | refine Below.setCell ?_ (by first | omega | (simp; done) | (simp; omega)) _ | refine Below.alloc ?_ (by first | omega | (simp; done) | (simp; omega)) _) : Below w.heap.size w _).trans (hb5.mono (by first | omega | (simp; done) | (simp; omega))))
  have nz_5 : w.heap.size ≤ w5.heap.size := HB_5.out.size
  clear hb5 x0_4 x1_4 y0_4 y1_4 a0_4 a1_4 b0_4 b1_4 c0_4 c1_4 HB_4
  go_wp2_with fail
  go_ret
  exact ⟨rfl, by repeat (first | exact HB_5.out | refine Below.drew ?_ | refine Below.setCell ?_ (by first | omega | (simp; done) | (simp; omega)) _ | refine Below.alloc ?_ (by first | omega | (simp; done) | (simp; omega)) _)⟩

set_option maxRecDepth 100000 in
set_option maxHeartbeats 8000000 in
theorem n_bad (m e k f am ae ax bm be bx cm ce pm pe qm qe : Int) (po qo : Bool) (w : World) (hm : m < 0) (HMul : Hid (∀ W : World, Calls Tryz.prog 25 #[realV m e, realV k f] W fun r w' => r = .returned (rE 0 0 1) ∧ Below W.heap.size W w')) (HDiv : Hid (∀ W : World, Calls Tryz.prog 26 #[realV m e, realV k f] W fun r w' => r = .returned (rE 0 0 1) ∧ Below W.heap.size W w')) (HSq : Hid (∀ W : World, Calls Tryz.prog 27 #[realV m e] W fun r w' => r = .returned (rE 0 0 5) ∧ Below W.heap.size W w')) (HVx : Hid (∀ W : World, Calls Tryz.prog 13 #[realV m e] W fun r w' => r = .returned (.bool true) ∧ Below W.heap.size W w')) (HVy : Hid (∀ W : World, Calls Tryz.prog 13 #[realV k f] W fun r w' => r = .returned (.bool false) ∧ Below W.heap.size W w')) (HSan : Hid (∀ W, Below w.heap.size w W → Calls Tryz.prog 20 #[] W fun r W' => r = .returned (.bool true) ∧ Below W.heap.size W W'))  :
    Calls Tryz.prog 4 #[realV m e, realV k f] w fun r w' => r = .returned (.bool true) ∧ Below w.heap.size w w' := by
  go_enter Tryz.func4, Tryz.ntmps4
  go_wp2_with fail
  refine (HMul.out _).mono ?_
  rintro e w1 ⟨rfl, hb1⟩
  have x0_1 : w1.cell? ⟨w.heap.size, 0, none⟩ = some (.int .i64 m) := carry hb1 (by go_simp)
  have x1_1 : w1.cell? ⟨w.heap.size, 1, none⟩ = some (.int .i64 e) := carry hb1 (by go_simp)
  have xz_1 : w.heap.size < w1.heap.size := by have := hb1.size; first | omega | (simp at this; omega)
  have y0_1 : w1.cell? ⟨w.heap.size + 1, 0, none⟩ = some (.int .i64 k) := carry hb1 (by go_simp)
  have y1_1 : w1.cell? ⟨w.heap.size + 1, 1, none⟩ = some (.int .i64 f) := carry hb1 (by go_simp)
  have yz_1 : w.heap.size + 1 < w1.heap.size := by have := hb1.size; first | omega | (simp at this; omega)
  have HB_1 := Lib.hid ((by repeat (first | exact Below.refl _ _ | refine Below.drew ?_ | refine Below.setCell ?_ (by first | omega | (simp; done) | (simp; omega)) _ | refine Below.alloc ?_ (by first | omega | (simp; done) | (simp; omega)) _) : Below w.heap.size w _).trans (hb1.mono (by first | omega | (simp; done) | (simp; omega))))
  have nz_1 : w.heap.size ≤ w1.heap.size := HB_1.out.size
  clear hb1
  go_wp2_with fail
  refine (HDiv.out _).mono ?_
  rintro e w2 ⟨rfl, hb2⟩
  have x0_2 : w2.cell? ⟨w.heap.size, 0, none⟩ = some (.int .i64 m) := carry hb2 (by go_simp)
  have x1_2 : w2.cell? ⟨w.heap.size, 1, none⟩ = some (.int .i64 e) := carry hb2 (by go_simp)
  have xz_2 : w.heap.size < w2.heap.size := by have := hb2.size; first | omega | (simp at this; omega)
  have y0_2 : w2.cell? ⟨w.heap.size + 1, 0, none⟩ = some (.int .i64 k) := carry hb2 (by go_simp)
  have y1_2 : w2.cell? ⟨w.heap.size + 1, 1, none⟩ = some (.int .i64 f) := carry hb2 (by go_simp)
  have yz_2 : w.heap.size + 1 < w2.heap.size := by have := hb2.size; first | omega | (simp at this; omega)
  have a0_2 : w2.cell? ⟨w1.heap.size, 0, none⟩ = some (.int .i64 0) := carry hb2 (by go_simp)
  have a1_2 : w2.cell? ⟨w1.heap.size, 1, none⟩ = some (.int .i64 0) := carry hb2 (by go_simp)
  have az_2 : w1.heap.size < w2.heap.size := by have := hb2.size; first | omega | (simp at this; omega)
  have HB_2 := Lib.hid ((by repeat (first | exact HB_1.out | refine Below.drew ?_ | refine Below.setCell ?_ (by first | omega | (simp; done) | (simp; omega)) _ | refine Below.alloc ?_ (by first | omega | (simp; done) | (simp; omega)) _) : Below w.heap.size w _).trans (hb2.mono (by first | omega | (simp; done) | (simp; omega))))
  have nz_2 : w.heap.size ≤ w2.heap.size := HB_2.out.size
  clear hb2 x0_1 x1_1 y0_1 y1_1 HB_1
  go_wp2_with fail
  refine (HSq.out _).mono ?_
  rintro e w3 ⟨rfl, hb3⟩
  have x0_3 : w3.cell? ⟨w.heap.size, 0, none⟩ = some (.int .i64 m) := carry hb3 (by go_simp)
  have x1_3 : w3.cell? ⟨w.heap.size, 1, none⟩ = some (.int .i64 e) := carry hb3 (by go_simp)
  have xz_3 : w.heap.size < w3.heap.size := by have := hb3.size; first | omega | (simp at this; omega)
  have y0_3 : w3.cell? ⟨w.heap.size + 1, 0, none⟩ = some (.int .i64 k) := carry hb3 (by go_simp)
  have y1_3 : w3.cell? ⟨w.heap.size + 1, 1, none⟩ = some (.int .i64 f) := carry hb3 (by go_simp)
  have yz_3 : w.heap.size + 1 < w3.heap.size := by have := hb3.size; first | omega | (simp at this; omega)
  have a0_3 : w3.cell? ⟨w1.heap.size, 0, none⟩ = some (.int .i64 0) := carry hb3 (by go_simp)
  have a1_3 : w3.cell? ⟨w1.heap.size, 1, none⟩ = some (.int .i64 0) := carry hb3 (by go_simp)
  have az_3 : w1.heap.size < w3.heap.size := by have := hb3.size; first | omega | (simp at this; omega)
  have b0_3 : w3.cell? ⟨w2.heap.size, 0, none⟩ = some (.int .i64 0) := carry hb3 (by go_simp)
  have b1_3 : w3.cell? ⟨w2.heap.size, 1, none⟩ = some (.int .i64 0) := carry hb3 (by go_simp)
  have bz_3 : w2.heap.size < w3.heap.size := by have := hb3.size; first | omega | (simp at this; omega)
  have HB_3 := Lib.hid ((by repeat (first | exact HB_2.out | refine Below.drew ?_ | refine Below.setCell ?_ (by first | omega | (simp; done) | (simp; omega)) _ | refine Below.alloc ?_ (by first | omega | (simp; done) | (simp; omega)) _) : Below w.heap.size w _).trans (hb3.mono (by first | omega | (simp; done) | (simp; omega))))
  have nz_3 : w.heap.size ≤ w3.heap.size := HB_3.out.size
  clear hb3 x0_2 x1_2 y0_2 y1_2 a0_2 a1_2 HB_2
  go_wp2_with fail
  refine (HVx.out _).mono ?_
  rintro e w4 ⟨rfl, hb4⟩
  have x0_4 : w4.cell? ⟨w.heap.size, 0, none⟩ = some (.int .i64 m) := carry hb4 (by go_simp)
  have x1_4 : w4.cell? ⟨w.heap.size, 1, none⟩ = some (.int .i64 e) := carry hb4 (by go_simp)
  have xz_4 : w.heap.size < w4.heap.size := by have := hb4.size; first | omega | (simp at this; omega)
  have y0_4 : w4.cell? ⟨w.heap.size + 1, 0, none⟩ = some (.int .i64 k) := carry hb4 (by go_simp)
  have y1_4 : w4.cell? ⟨w.heap.size + 1, 1, none⟩ = some (.int .i64 f) := carry hb4 (by go_simp)
  have yz_4 : w.heap.size + 1 < w4.heap.size := by have := hb4.size; first | omega | (simp at this; omega)
  have a0_4 : w4.cell? ⟨w1.heap.size, 0, none⟩ = some (.int .i64 0) := carry hb4 (by go_simp)
  have a1_4 : w4.cell? ⟨w1.heap.size, 1, none⟩ = some (.int .i64 0) := carry hb4 (by go_simp)
  have az_4 : w1.heap.size < w4.heap.size := by have := hb4.size; first | omega | (simp at this; omega)
  have b0_4 : w4.cell? ⟨w2.heap.size, 0, none⟩ = some (.int .i64 0) := carry hb4 (by go_simp)
  have b1_4 : w4.cell? ⟨w2.heap.size, 1, none⟩ = some (.int .i64 0) := carry hb4 (by go_simp)
  have bz_4 : w2.heap.size < w4.heap.size := by have := hb4.size; first | omega | (simp at this; omega)
  have c0_4 : w4.cell? ⟨w3.heap.size, 0, none⟩ = some (.int .i64 0) := carry hb4 (by go_simp)
  have c1_4 : w4.cell? ⟨w3.heap.size, 1, none⟩ = some (.int .i64 0) := carry hb4 (by go_simp)
  have cz_4 : w3.heap.size < w4.heap.size := by have := hb4.size; first | omega | (simp at this; omega)
  have HB_4 := Lib.hid ((by repeat (first | exact HB_3.out | refine Below.drew ?_ | refine Below.setCell ?_ (by first | omega | (simp; done) | (simp; omega)) _ | refine Below.alloc ?_ (by first | omega | (simp; done) | (simp; omega)) _) : Below w.heap.size w _).trans (hb4.mono (by first | omega | (simp; done) | (simp; omega))))
  have nz_4 : w.heap.size ≤ w4.heap.size := HB_4.out.size
  clear hb4 x0_3 x1_3 y0_3 y1_3 a0_3 a1_3 b0_3 b1_3 HB_3
  go_wp2_with fail
  refine (HVy.out _).mono ?_
  rintro e w5 ⟨rfl, hb5⟩
  have x0_5 : w5.cell? ⟨w.heap.size, 0, none⟩ = some (.int .i64 m) := carry hb5 (by go_simp)
  have x1_5 : w5.cell? ⟨w.heap.size, 1, none⟩ = some (.int .i64 e) := carry hb5 (by go_simp)
  have xz_5 : w.heap.size < w5.heap.size := by have := hb5.size; first | omega | (simp at this; omega)
  have y0_5 : w5.cell? ⟨w.heap.size + 1, 0, none⟩ = some (.int .i64 k) := carry hb5 (by go_simp)
  have y1_5 : w5.cell? ⟨w.heap.size + 1, 1, none⟩ = some (.int .i64 f) := carry hb5 (by go_simp)
  have yz_5 : w.heap.size + 1 < w5.heap.size := by have := hb5.size; first | omega | (simp at this; omega)
  have a0_5 : w5.cell? ⟨w1.heap.size, 0, none⟩ = some (.int .i64 0) := carry hb5 (by go_simp)
  have a1_5 : w5.cell? ⟨w1.heap.size, 1, none⟩ = some (.int .i64 0) := carry hb5 (by go_simp)
  have az_5 : w1.heap.size < w5.heap.size := by have := hb5.size; first | omega | (simp at this; omega)
  have b0_5 : w5.cell? ⟨w2.heap.size, 0, none⟩ = some (.int .i64 0) := carry hb5 (by go_simp)
  have b1_5 : w5.cell? ⟨w2.heap.size, 1, none⟩ = some (.int .i64 0) := carry hb5 (by go_simp)
  have bz_5 : w2.heap.size < w5.heap.size := by have := hb5.size; first | omega | (simp at this; omega)
  have HB_5 := Lib.hid ((by repeat (first | exact HB_4.out | refine Below.drew ?_ | refine Below.setCell ?_ (by first | omega | (simp; done) | (simp; omega)) _ | refine Below.alloc ?_ (by first | omega | (simp; done) | (simp; omega)) _) : Below w.heap.size w _).trans (hb5.mono (by first | omega | (simp; done) | (simp; omega))))
  have nz_5 : w.heap.size ≤ w5.heap.size := HB_5.out.size
  clear hb5 x0_4 x1_4 y0_4 y1_4 a0_4 a1_4 b0_4 b1_4 c0_4 c1_4 HB_4
  go_wp2_with fail
  refine (HSan.out _ (by repeat (first | exact HB_5.out | refine Below.drew ?_ | refine Below.setCell ?_ (by first | omega | (simp; done) | (simp; omega)) _ | refine Below.alloc ?_ (by first | omega | (simp; done) | (simp; omega)) _))).mono ?_
  rintro e w6 ⟨rfl, hb6⟩
  have a0_6 : w6.cell? ⟨w1.heap.size, 0, none⟩ = some (.int .i64 0) := carry hb6 (by go_simp)
  have a1_6 : w6.cell? ⟨w1.heap.size, 1, none⟩ = some (.int .i64 0) := carry hb6 (by go_simp)
  have az_6 : w1.heap.size < w6.heap.size := by have := hb6.size; first | omega | (simp at this; omega)
  have b0_6 : w6.cell? ⟨w2.heap.size, 0, none⟩ = some (.int .i64 0) := carry hb6 (by go_simp)
  have b1_6 : w6.cell? ⟨w2.heap.size, 1, none⟩ = some (.int .i64 0) := carry hb6 (by go_simp)
  have bz_6 : w2.heap.size < w6.heap.size := by have := hb6.size; first | omega | (simp at this; omega)
  have HB_6 := Lib.hid ((by repeat (first | exact HB_5.out | refine Below.drew ?_ | refine Below.setCell ?_ (by first | omega | (simp; done) | (simp; omega)) _ | refine Below.alloc ?_ (by first | omega | (simp; done) | (simp; omega)) _) : Below w.heap.size w _).trans (hb6.mono (by first | omega | (simp; done) | (simp; omega))))
  have nz_6 : w.heap.size ≤ w6.heap.size := HB_6.out.size
  clear hb6 x0_5 x1_5 y0_5 y1_5 a0_5 a1_5 b0_5 b1_5 HB_5
  go_wp2_with fail
  go_ret
  exact ⟨rfl, by repeat (first | exact HB_6.out | refine Below.drew ?_ | refine Below.setCell ?_ (by first | omega | (simp; done) | (simp; omega)) _ | refine Below.alloc ?_ (by first | omega | (simp; done) | (simp; omega)) _)⟩

set_option maxRecDepth 100000 in
set_option maxHeartbeats 8000000 in
theorem n_zero (m e k f am ae ax bm be bx cm ce pm pe qm qe : Int) (po qo : Bool) (w : World) (hm : m < 0) (hk : (k == 0) = true) (HMul : Hid (∀ W : World, Calls Tryz.prog 25 #[realV m e, realV k f] W fun r w' => r = .returned (rE am ae ax) ∧ Below W.heap.size W w')) (HDiv : Hid (∀ W : World, Calls Tryz.prog 26 #[realV m e, realV k f] W fun r w' => r = .returned (rE 0 0 5) ∧ Below W.heap.size W w')) (HSq : Hid (∀ W : World, Calls Tryz.prog 27 #[realV m e] W fun r w' => r = .returned (rE 0 0 5) ∧ Below W.heap.size W w')) (HVx : Hid (∀ W : World, Calls Tryz.prog 13 #[realV m e] W fun r w' => r = .returned (.bool true) ∧ Below W.heap.size W w')) (HVy : Hid (∀ W : World, Calls Tryz.prog 13 #[realV k f] W fun r w' => r = .returned (.bool true) ∧ Below W.heap.size W w')) (HSan : Hid (∀ W, Below w.heap.size w W → Calls Tryz.prog 20 #[] W fun r W' => r = .returned (.bool true) ∧ Below W.heap.size W W')) (HRM : Hid (∀ W : World, Calls Tryz.prog 30 #[realV m e, realV k f] W fun r w' => r = .returned (.agg #[.int .i64 pm, .int .i64 pe, .bool po]) ∧ Below W.heap.size W w')) (HO1 : Hid (∀ W : World, Calls Tryz.prog 29 #[realV am ae, .int .i64 ax, .agg #[.int .i64 pm, .int .i64 pe, .bool po]] W fun r w' => r = .returned (.bool true) ∧ Below W.heap.size W w'))  :
    Calls Tryz.prog 4 #[realV m e, realV k f] w fun r w' => r = .returned (.bool true) ∧ Below w.heap.size w w' := by
  go_enter Tryz.func4, Tryz.ntmps4
  go_wp2_with fail
  refine (HMul.out _).mono ?_
  rintro e w1 ⟨rfl, hb1⟩
  have x0_1 : w1.cell? ⟨w.heap.size, 0, none⟩ = some (.int .i64 m) := carry hb1 (by go_simp)
  have x1_1 : w1.cell? ⟨w.heap.size, 1, none⟩ = some (.int .i64 e) := carry hb1 (by go_simp)
  have xz_1 : w.heap.size < w1.heap.size := by have := hb1.size; first | omega | (simp at this; omega)
  have y0_1 : w1.cell? ⟨w.heap.size + 1, 0, none⟩ = some (.int .i64 k) := carry hb1 (by go_simp)
  have y1_1 : w1.cell? ⟨w.heap.size + 1, 1, none⟩ = some (.int .i64 f) := carry hb1 (by go_simp)
  have yz_1 : w.heap.size + 1 < w1.heap.size := by have := hb1.size; first | omega | (simp at this; omega)
  have HB_1 := Lib.hid ((by repeat (first | exact Below.refl _ _ | refine Below.drew ?_ | refine Below.setCell ?_ (by first | omega | (simp; done) | (simp; omega)) _ | refine Below.alloc ?_ (by first | omega | (simp; done) | (simp; omega)) _) : Below w.heap.size w _).trans (hb1.mono (by first | omega | (simp; done) | (simp; omega))))
  have nz_1 : w.heap.size ≤ w1.heap.size := HB_1.out.size
  clear hb1
  go_wp2_with fail
  refine (HDiv.out _).mono ?_
  rintro e w2 ⟨rfl, hb2⟩
  have x0_2 : w2.cell? ⟨w.heap.size, 0, none⟩ = some (.int .i64 m) := carry hb2 (by go_simp)
  have x1_2 : w2.cell? ⟨w.heap.size, 1, none⟩ = some (.int .i64 e) := carry hb2 (by go_simp)
  have xz_2 : w.heap.size < w2.heap.size := by have := hb2.size; first | omega | (simp at this; omega)
  have y0_2 : w2.cell? ⟨w.heap.size + 1, 0, none⟩ = some (.int .i64 k) := carry hb2 (by go_simp)
  have y1_2 : w2.cell? ⟨w.heap.size + 1, 1, none⟩ = some (.int .i64 f) := carry hb2 (by go_simp)
  have yz_2 : w.heap.size + 1 < w2.heap.size := by have := hb2.size; first | omega | (simp at this; omega)
  have a0_2 : w2.cell? ⟨w1.heap.size, 0, none⟩ = some (.int .i64 am) := carry hb2 (by go_simp)
  have a1_2 : w2.cell? ⟨w1.heap.size, 1, none⟩ = some (.int .i64 ae) := carry hb2 (by go_simp)
  have az_2 : w1.heap.size < w2.heap.size := by have := hb2.size; first | omega | (simp at this; omega)
  have HB_2 := Lib.hid ((by repeat (first | exact HB_1.out | refine Below.drew ?_ | refine Below.setCell ?_ (by first | omega | (simp; done) | (simp; omega)) _ | refine Below.alloc ?_ (by first | omega | (simp; done) | (simp; omega)) _) : Below w.heap.size w _).trans (hb2.mono (by first | omega | (simp; done) | (simp; omega))))
  have nz_2 : w.heap.size ≤ w2.heap.size := HB_2.out.size
  clear hb2 x0_1 x1_1 y0_1 y1_1 HB_1
  go_wp2_with fail
  refine (HSq.out _).mono ?_
  rintro e w3 ⟨rfl, hb3⟩
  have x0_3 : w3.cell? ⟨w.heap.size, 0, none⟩ = some (.int .i64 m) := carry hb3 (by go_simp)
  have x1_3 : w3.cell? ⟨w.heap.size, 1, none⟩ = some (.int .i64 e) := carry hb3 (by go_simp)
  have xz_3 : w.heap.size < w3.heap.size := by have := hb3.size; first | omega | (simp at this; omega)
  have y0_3 : w3.cell? ⟨w.heap.size + 1, 0, none⟩ = some (.int .i64 k) := carry hb3 (by go_simp)
  have y1_3 : w3.cell? ⟨w.heap.size + 1, 1, none⟩ = some (.int .i64 f) := carry hb3 (by go_simp)
  have yz_3 : w.heap.size + 1 < w3.heap.size := by have := hb3.size; first | omega | (simp at this; omega)
  have a0_3 : w3.cell? ⟨w1.heap.size, 0, none⟩ = some (.int .i64 am) := carry hb3 (by go_simp)
  have a1_3 : w3.cell? ⟨w1.heap.size, 1, none⟩ = some (.int .i64 ae) := carry hb3 (by go_simp)
  have az_3 : w1.heap.size < w3.heap.size := by have := hb3.size; first | omega | (simp at this; omega)
  have b0_3 : w3.cell? ⟨w2.heap.size, 0, none⟩ = some (.int .i64 0) := carry hb3 (by go_simp)
  have b1_3 : w3.cell? ⟨w2.heap.size, 1, none⟩ = some (.int .i64 0) := carry hb3 (by go_simp)
  have bz_3 : w2.heap.size < w3.heap.size := by have := hb3.size; first | omega | (simp at this; omega)
  have HB_3 := Lib.hid ((by repeat (first | exact HB_2.out | refine Below.drew ?_ | refine Below.setCell ?_ (by first | omega | (simp; done) | (simp; omega)) _ | refine Below.alloc ?_ (by first | omega | (simp; done) | (simp; omega)) _) : Below w.heap.size w _).trans (hb3.mono (by first | omega | (simp; done) | (simp; omega))))
  have nz_3 : w.heap.size ≤ w3.heap.size := HB_3.out.size
  clear hb3 x0_2 x1_2 y0_2 y1_2 a0_2 a1_2 HB_2
  go_wp2_with fail
  refine (HVx.out _).mono ?_
  rintro e w4 ⟨rfl, hb4⟩
  have x0_4 : w4.cell? ⟨w.heap.size, 0, none⟩ = some (.int .i64 m) := carry hb4 (by go_simp)
  have x1_4 : w4.cell? ⟨w.heap.size, 1, none⟩ = some (.int .i64 e) := carry hb4 (by go_simp)
  have xz_4 : w.heap.size < w4.heap.size := by have := hb4.size; first | omega | (simp at this; omega)
  have y0_4 : w4.cell? ⟨w.heap.size + 1, 0, none⟩ = some (.int .i64 k) := carry hb4 (by go_simp)
  have y1_4 : w4.cell? ⟨w.heap.size + 1, 1, none⟩ = some (.int .i64 f) := carry hb4 (by go_simp)
  have yz_4 : w.heap.size + 1 < w4.heap.size := by have := hb4.size; first | omega | (simp at this; omega)
  have a0_4 : w4.cell? ⟨w1.heap.size, 0, none⟩ = some (.int .i64 am) := carry hb4 (by go_simp)
  have a1_4 : w4.cell? ⟨w1.heap.size, 1, none⟩ = some (.int .i64 ae) := carry hb4 (by go_simp)
  have az_4 : w1.heap.size < w4.heap.size := by have := hb4.size; first | omega | (simp at this; omega)
  have b0_4 : w4.cell? ⟨w2.heap.size, 0, none⟩ = some (.int .i64 0) := carry hb4 (by go_simp)
  have b1_4 : w4.cell? ⟨w2.heap.size, 1, none⟩ = some (.int .i64 0) := carry hb4 (by go_simp)
  have bz_4 : w2.heap.size < w4.heap.size := by have := hb4.size; first | omega | (simp at this; omega)
  have c0_4 : w4.cell? ⟨w3.heap.size, 0, none⟩ = some (.int .i64 0) := carry hb4 (by go_simp)
  have c1_4 : w4.cell? ⟨w3.heap.size, 1, none⟩ = some (.int .i64 0) := carry hb4 (by go_simp)
  have cz_4 : w3.heap.size < w4.heap.size := by have := hb4.size; first | omega | (simp at this; omega)
  have HB_4 := Lib.hid ((by repeat (first | exact HB_3.out | refine Below.drew ?_ | refine Below.setCell ?_ (by first | omega | (simp; done) | (simp; omega)) _ | refine Below.alloc ?_ (by first | omega | (simp; done) | (simp; omega)) _) : Below w.heap.size w _).trans (hb4.mono (by first | omega | (simp; done) | (simp; omega))))
  have nz_4 : w.heap.size ≤ w4.heap.size := HB_4.out.size
  clear hb4 x0_3 x1_3 y0_3 y1_3 a0_3 a1_3 b0_3 b1_3 HB_3
  go_wp2_with fail
  refine (HVy.out _).mono ?_
  rintro e w5 ⟨rfl, hb5⟩
  have x0_5 : w5.cell? ⟨w.heap.size, 0, none⟩ = some (.int .i64 m) := carry hb5 (by go_simp)
  have x1_5 : w5.cell? ⟨w.heap.size, 1, none⟩ = some (.int .i64 e) := carry hb5 (by go_simp)
  have xz_5 : w.heap.size < w5.heap.size := by have := hb5.size; first | omega | (simp at this; omega)
  have y0_5 : w5.cell? ⟨w.heap.size + 1, 0, none⟩ = some (.int .i64 k) := carry hb5 (by go_simp)
  have y1_5 : w5.cell? ⟨w.heap.size + 1, 1, none⟩ = some (.int .i64 f) := carry hb5 (by go_simp)
  have yz_5 : w.heap.size + 1 < w5.heap.size := by have := hb5.size; first | omega | (simp at this; omega)
  have a0_5 : w5.cell? ⟨w1.heap.size, 0, none⟩ = some (.int .i64 am) := carry hb5 (by go_simp)
  have a1_5 : w5.cell? ⟨w1.heap.size, 1, none⟩ = some (.int .i64 ae) := carry hb5 (by go_simp)
  have az_5 : w1.heap.size < w5.heap.size := by have := hb5.size; first | omega | (simp at this; omega)
  have b0_5 : w5.cell? ⟨w2.heap.size, 0, none⟩ = some (.int .i64 0) := carry hb5 (by go_simp)
  have b1_5 : w5.cell? ⟨w2.heap.size, 1, none⟩ = some (.int .i64 0) := carry hb5 (by go_simp)
  have bz_5 : w2.heap.size < w5.heap.size := by have := hb5.size; first | omega | (simp at this; omega)
  have HB_5 := Lib.hid ((by repeat (first | exact HB_4.out | refine Below.drew ?_ | refine Below.setCell ?_ (by first | omega | (simp; done) | (simp; omega)) _ | refine Below.alloc ?_ (by first | omega | (simp; done) | (simp; omega)) _) : Below w.heap.size w _).trans (hb5.mono (by first | omega | (simp; done) | (simp; omega))))
  have nz_5 : w.heap.size ≤ w5.heap.size := HB_5.out.size
  clear hb5 x0_4 x1_4 y0_4 y1_4 a0_4 a1_4 b0_4 b1_4 c0_4 c1_4 HB_4
  have K0 := Lib.hid (Below.refl w5.heap.size w5)
  have SK := Lib.hid (show ∀ wx, Below w5.heap.size w5 wx → wx.cell? ⟨w.heap.size, 0, none⟩ = some (.int .i64 m) ∧ wx.cell? ⟨w.heap.size, 1, none⟩ = some (.int .i64 e) ∧ w.heap.size < wx.heap.size ∧ wx.cell? ⟨w.heap.size + 1, 0, none⟩ = some (.int .i64 k) ∧ wx.cell? ⟨w.heap.size + 1, 1, none⟩ = some (.int .i64 f) ∧ w.heap.size + 1 < wx.heap.size ∧ wx.cell? ⟨w1.heap.size, 0, none⟩ = some (.int .i64 am) ∧ wx.cell? ⟨w1.heap.size, 1, none⟩ = some (.int .i64 ae) ∧ w1.heap.size < wx.heap.size ∧ wx.cell? ⟨w2.heap.size, 0, none⟩ = some (.int .i64 0) ∧ wx.cell? ⟨w2.heap.size, 1, none⟩ = some (.int .i64 0) ∧ w2.heap.size < wx.heap.size ∧ Below w5.heap.size w5 wx from fun wx h => ⟨carry h x0_5, carry h x1_5, Nat.lt_of_lt_of_le xz_5 h.size, carry h y0_5, carry h y1_5, Nat.lt_of_lt_of_le yz_5 h.size, carry h a0_5, carry h a1_5, Nat.lt_of_lt_of_le az_5 h.size, carry h b0_5, carry h b1_5, Nat.lt_of_lt_of_le bz_5 h.size, h⟩)
  go_wp2_with fail
  go_region_held3 (fun wx => wx.cell? ⟨w.heap.size, 0, none⟩ = some (.int .i64 m) ∧ wx.cell? ⟨w.heap.size, 1, none⟩ = some (.int .i64 e) ∧ w.heap.size < wx.heap.size ∧ wx.cell? ⟨w.heap.size + 1, 0, none⟩ = some (.int .i64 k) ∧ wx.cell? ⟨w.heap.size + 1, 1, none⟩ = some (.int .i64 f) ∧ w.heap.size + 1 < wx.heap.size ∧ wx.cell? ⟨w1.heap.size, 0, none⟩ = some (.int .i64 am) ∧ wx.cell? ⟨w1.heap.size, 1, none⟩ = some (.int .i64 ae) ∧ w1.heap.size < wx.heap.size ∧ wx.cell? ⟨w2.heap.size, 0, none⟩ = some (.int .i64 0) ∧ wx.cell? ⟨w2.heap.size, 1, none⟩ = some (.int .i64 0) ∧ w2.heap.size < wx.heap.size ∧ Below w5.heap.size w5 wx) (first | (go_keep; done) | exact SK.out _ (by first | with_reducible assumption | with_reducible exact K0.out | with_reducible exact K0.out.drew | with_reducible exact Below.drew (by with_reducible assumption)))
    (first
      | (go_at_call 30; ((with_reducible refine (HRM.out _).mono ?_); rintro r wq ⟨rfl, hbq⟩; have qb : Below w5.heap.size w5 wq := Below.trans (by first | with_reducible assumption | with_reducible exact K0.out | with_reducible exact K0.out.drew | with_reducible exact Below.drew (by with_reducible assumption)) (hbq.mono (Below.size (by first | with_reducible assumption | with_reducible exact K0.out | with_reducible exact K0.out.drew | with_reducible exact Below.drew (by with_reducible assumption))))))
      | (go_at_call 29; ((with_reducible refine (HO1.out _).mono ?_); rintro r wq ⟨rfl, hbq⟩; have qb : Below w5.heap.size w5 wq := Below.trans (by first | with_reducible assumption | with_reducible exact K0.out | with_reducible exact K0.out.drew | with_reducible exact Below.drew (by with_reducible assumption)) (hbq.mono (Below.size (by first | with_reducible assumption | with_reducible exact K0.out | with_reducible exact K0.out.drew | with_reducible exact Below.drew (by with_reducible assumption)))))))
  rename _ ∧ _ ∧ _ ∧ _ ∧ _ ∧ _ ∧ _ ∧ _ ∧ _ ∧ _ ∧ _ ∧ _ ∧ Below w5.heap.size w5 _ => hS
  obtain ⟨w6, rfl⟩ : ∃ x, x = wq := ⟨_, rfl⟩
  obtain ⟨x0_6, x1_6, xz_6, y0_6, y1_6, yz_6, a0_6, a1_6, az_6, b0_6, b1_6, bz_6, xb⟩ := hS
  have HB_6 := Lib.hid (HB_5.out.trans (xb.mono HB_5.out.size))
  clear xb HB_5 K0 SK x0_5 x1_5 y0_5 y1_5 a0_5 a1_5 b0_5 b1_5
  have nz_6 : w.heap.size ≤ w6.heap.size := HB_6.out.size
  go_wp2_with fail
  refine (HSan.out _ (by repeat (first | exact HB_6.out | refine Below.drew ?_ | refine Below.setCell ?_ (by first | omega | (simp; done) | (simp; omega)) _ | refine Below.alloc ?_ (by first | omega | (simp; done) | (simp; omega)) _))).mono ?_
  rintro e w7 ⟨rfl, hb7⟩
  have y0_7 : w7.cell? ⟨w.heap.size + 1, 0, none⟩ = some (.int .i64 k) := carry hb7 (by go_simp)
  have y1_7 : w7.cell? ⟨w.heap.size + 1, 1, none⟩ = some (.int .i64 f) := carry hb7 (by go_simp)
  have yz_7 : w.heap.size + 1 < w7.heap.size := by have := hb7.size; first | omega | (simp at this; omega)
  have b0_7 : w7.cell? ⟨w2.heap.size, 0, none⟩ = some (.int .i64 0) := carry hb7 (by go_simp)
  have b1_7 : w7.cell? ⟨w2.heap.size, 1, none⟩ = some (.int .i64 0) := carry hb7 (by go_simp)
  have bz_7 : w2.heap.size < w7.heap.size := by have := hb7.size; first | omega | (simp at this; omega)
  have HB_7 := Lib.hid ((by repeat (first | exact HB_6.out | refine Below.drew ?_ | refine Below.setCell ?_ (by first | omega | (simp; done) | (simp; omega)) _ | refine Below.alloc ?_ (by first | omega | (simp; done) | (simp; omega)) _) : Below w.heap.size w _).trans (hb7.mono (by first | omega | (simp; done) | (simp; omega))))
  have nz_7 : w.heap.size ≤ w7.heap.size := HB_7.out.size
  clear hb7 x0_6 x1_6 y0_6 y1_6 a0_6 a1_6 b0_6 b1_6 HB_6
  go_wp2_with fail
  go_ret
  exact ⟨rfl, by repeat (first | exact HB_7.out | refine Below.drew ?_ | refine Below.setCell ?_ (by first | omega | (simp; done) | (simp; omega)) _ | refine Below.alloc ?_ (by first | omega | (simp; done) | (simp; omega)) _)⟩

set_option maxRecDepth 100000 in
set_option maxHeartbeats 8000000 in
theorem n_full (m e k f am ae ax bm be bx cm ce pm pe qm qe : Int) (po qo : Bool) (w : World) (hm : m < 0) (hk : ¬ k = 0) (HMul : Hid (∀ W : World, Calls Tryz.prog 25 #[realV m e, realV k f] W fun r w' => r = .returned (rE am ae ax) ∧ Below W.heap.size W w')) (HDiv : Hid (∀ W : World, Calls Tryz.prog 26 #[realV m e, realV k f] W fun r w' => r = .returned (rE bm be bx) ∧ Below W.heap.size W w')) (HSq : Hid (∀ W : World, Calls Tryz.prog 27 #[realV m e] W fun r w' => r = .returned (rE 0 0 5) ∧ Below W.heap.size W w')) (HVx : Hid (∀ W : World, Calls Tryz.prog 13 #[realV m e] W fun r w' => r = .returned (.bool true) ∧ Below W.heap.size W w')) (HVy : Hid (∀ W : World, Calls Tryz.prog 13 #[realV k f] W fun r w' => r = .returned (.bool true) ∧ Below W.heap.size W w')) (HSan : Hid (∀ W, Below w.heap.size w W → Calls Tryz.prog 20 #[] W fun r W' => r = .returned (.bool true) ∧ Below W.heap.size W W')) (HRM : Hid (∀ W : World, Calls Tryz.prog 30 #[realV m e, realV k f] W fun r w' => r = .returned (.agg #[.int .i64 pm, .int .i64 pe, .bool po]) ∧ Below W.heap.size W w')) (HO1 : Hid (∀ W : World, Calls Tryz.prog 29 #[realV am ae, .int .i64 ax, .agg #[.int .i64 pm, .int .i64 pe, .bool po]] W fun r w' => r = .returned (.bool true) ∧ Below W.heap.size W w')) (HRD : Hid (∀ W : World, Calls Tryz.prog 31 #[realV m e, realV k f] W fun r w' => r = .returned (.agg #[.int .i64 qm, .int .i64 qe, .bool qo]) ∧ Below W.heap.size W w')) (HO2 : Hid (∀ W : World, Calls Tryz.prog 29 #[realV bm be, .int .i64 bx, .agg #[.int .i64 qm, .int .i64 qe, .bool qo]] W fun r w' => r = .returned (.bool true) ∧ Below W.heap.size W w'))  :
    Calls Tryz.prog 4 #[realV m e, realV k f] w fun r w' => r = .returned (.bool true) ∧ Below w.heap.size w w' := by
  go_enter Tryz.func4, Tryz.ntmps4
  go_wp2_with fail
  refine (HMul.out _).mono ?_
  rintro e w1 ⟨rfl, hb1⟩
  have x0_1 : w1.cell? ⟨w.heap.size, 0, none⟩ = some (.int .i64 m) := carry hb1 (by go_simp)
  have x1_1 : w1.cell? ⟨w.heap.size, 1, none⟩ = some (.int .i64 e) := carry hb1 (by go_simp)
  have xz_1 : w.heap.size < w1.heap.size := by have := hb1.size; first | omega | (simp at this; omega)
  have y0_1 : w1.cell? ⟨w.heap.size + 1, 0, none⟩ = some (.int .i64 k) := carry hb1 (by go_simp)
  have y1_1 : w1.cell? ⟨w.heap.size + 1, 1, none⟩ = some (.int .i64 f) := carry hb1 (by go_simp)
  have yz_1 : w.heap.size + 1 < w1.heap.size := by have := hb1.size; first | omega | (simp at this; omega)
  have HB_1 := Lib.hid ((by repeat (first | exact Below.refl _ _ | refine Below.drew ?_ | refine Below.setCell ?_ (by first | omega | (simp; done) | (simp; omega)) _ | refine Below.alloc ?_ (by first | omega | (simp; done) | (simp; omega)) _) : Below w.heap.size w _).trans (hb1.mono (by first | omega | (simp; done) | (simp; omega))))
  have nz_1 : w.heap.size ≤ w1.heap.size := HB_1.out.size
  clear hb1
  go_wp2_with fail
  refine (HDiv.out _).mono ?_
  rintro e w2 ⟨rfl, hb2⟩
  have x0_2 : w2.cell? ⟨w.heap.size, 0, none⟩ = some (.int .i64 m) := carry hb2 (by go_simp)
  have x1_2 : w2.cell? ⟨w.heap.size, 1, none⟩ = some (.int .i64 e) := carry hb2 (by go_simp)
  have xz_2 : w.heap.size < w2.heap.size := by have := hb2.size; first | omega | (simp at this; omega)
  have y0_2 : w2.cell? ⟨w.heap.size + 1, 0, none⟩ = some (.int .i64 k) := carry hb2 (by go_simp)
  have y1_2 : w2.cell? ⟨w.heap.size + 1, 1, none⟩ = some (.int .i64 f) := carry hb2 (by go_simp)
  have yz_2 : w.heap.size + 1 < w2.heap.size := by have := hb2.size; first | omega | (simp at this; omega)
  have a0_2 : w2.cell? ⟨w1.heap.size, 0, none⟩ = some (.int .i64 am) := carry hb2 (by go_simp)
  have a1_2 : w2.cell? ⟨w1.heap.size, 1, none⟩ = some (.int .i64 ae) := carry hb2 (by go_simp)
  have az_2 : w1.heap.size < w2.heap.size := by have := hb2.size; first | omega | (simp at this; omega)
  have HB_2 := Lib.hid ((by repeat (first | exact HB_1.out | refine Below.drew ?_ | refine Below.setCell ?_ (by first | omega | (simp; done) | (simp; omega)) _ | refine Below.alloc ?_ (by first | omega | (simp; done) | (simp; omega)) _) : Below w.heap.size w _).trans (hb2.mono (by first | omega | (simp; done) | (simp; omega))))
  have nz_2 : w.heap.size ≤ w2.heap.size := HB_2.out.size
  clear hb2 x0_1 x1_1 y0_1 y1_1 HB_1
  go_wp2_with fail
  refine (HSq.out _).mono ?_
  rintro e w3 ⟨rfl, hb3⟩
  have x0_3 : w3.cell? ⟨w.heap.size, 0, none⟩ = some (.int .i64 m) := carry hb3 (by go_simp)
  have x1_3 : w3.cell? ⟨w.heap.size, 1, none⟩ = some (.int .i64 e) := carry hb3 (by go_simp)
  have xz_3 : w.heap.size < w3.heap.size := by have := hb3.size; first | omega | (simp at this; omega)
  have y0_3 : w3.cell? ⟨w.heap.size + 1, 0, none⟩ = some (.int .i64 k) := carry hb3 (by go_simp)
  have y1_3 : w3.cell? ⟨w.heap.size + 1, 1, none⟩ = some (.int .i64 f) := carry hb3 (by go_simp)
  have yz_3 : w.heap.size + 1 < w3.heap.size := by have := hb3.size; first | omega | (simp at this; omega)
  have a0_3 : w3.cell? ⟨w1.heap.size, 0, none⟩ = some (.int .i64 am) := carry hb3 (by go_simp)
  have a1_3 : w3.cell? ⟨w1.heap.size, 1, none⟩ = some (.int .i64 ae) := carry hb3 (by go_simp)
  have az_3 : w1.heap.size < w3.heap.size := by have := hb3.size; first | omega | (simp at this; omega)
  have b0_3 : w3.cell? ⟨w2.heap.size, 0, none⟩ = some (.int .i64 bm) := carry hb3 (by go_simp)
  have b1_3 : w3.cell? ⟨w2.heap.size, 1, none⟩ = some (.int .i64 be) := carry hb3 (by go_simp)
  have bz_3 : w2.heap.size < w3.heap.size := by have := hb3.size; first | omega | (simp at this; omega)
  have HB_3 := Lib.hid ((by repeat (first | exact HB_2.out | refine Below.drew ?_ | refine Below.setCell ?_ (by first | omega | (simp; done) | (simp; omega)) _ | refine Below.alloc ?_ (by first | omega | (simp; done) | (simp; omega)) _) : Below w.heap.size w _).trans (hb3.mono (by first | omega | (simp; done) | (simp; omega))))
  have nz_3 : w.heap.size ≤ w3.heap.size := HB_3.out.size
  clear hb3 x0_2 x1_2 y0_2 y1_2 a0_2 a1_2 HB_2
  go_wp2_with fail
  refine (HVx.out _).mono ?_
  rintro e w4 ⟨rfl, hb4⟩
  have x0_4 : w4.cell? ⟨w.heap.size, 0, none⟩ = some (.int .i64 m) := carry hb4 (by go_simp)
  have x1_4 : w4.cell? ⟨w.heap.size, 1, none⟩ = some (.int .i64 e) := carry hb4 (by go_simp)
  have xz_4 : w.heap.size < w4.heap.size := by have := hb4.size; first | omega | (simp at this; omega)
  have y0_4 : w4.cell? ⟨w.heap.size + 1, 0, none⟩ = some (.int .i64 k) := carry hb4 (by go_simp)
  have y1_4 : w4.cell? ⟨w.heap.size + 1, 1, none⟩ = some (.int .i64 f) := carry hb4 (by go_simp)
  have yz_4 : w.heap.size + 1 < w4.heap.size := by have := hb4.size; first | omega | (simp at this; omega)
  have a0_4 : w4.cell? ⟨w1.heap.size, 0, none⟩ = some (.int .i64 am) := carry hb4 (by go_simp)
  have a1_4 : w4.cell? ⟨w1.heap.size, 1, none⟩ = some (.int .i64 ae) := carry hb4 (by go_simp)
  have az_4 : w1.heap.size < w4.heap.size := by have := hb4.size; first | omega | (simp at this; omega)
  have b0_4 : w4.cell? ⟨w2.heap.size, 0, none⟩ = some (.int .i64 bm) := carry hb4 (by go_simp)
  have b1_4 : w4.cell? ⟨w2.heap.size, 1, none⟩ = some (.int .i64 be) := carry hb4 (by go_simp)
  have bz_4 : w2.heap.size < w4.heap.size := by have := hb4.size; first | omega | (simp at this; omega)
  have c0_4 : w4.cell? ⟨w3.heap.size, 0, none⟩ = some (.int .i64 0) := carry hb4 (by go_simp)
  have c1_4 : w4.cell? ⟨w3.heap.size, 1, none⟩ = some (.int .i64 0) := carry hb4 (by go_simp)
  have cz_4 : w3.heap.size < w4.heap.size := by have := hb4.size; first | omega | (simp at this; omega)
  have HB_4 := Lib.hid ((by repeat (first | exact HB_3.out | refine Below.drew ?_ | refine Below.setCell ?_ (by first | omega | (simp; done) | (simp; omega)) _ | refine Below.alloc ?_ (by first | omega | (simp; done) | (simp; omega)) _) : Below w.heap.size w _).trans (hb4.mono (by first | omega | (simp; done) | (simp; omega))))
  have nz_4 : w.heap.size ≤ w4.heap.size := HB_4.out.size
  clear hb4 x0_3 x1_3 y0_3 y1_3 a0_3 a1_3 b0_3 b1_3 HB_3
  go_wp2_with fail
  refine (HVy.out _).mono ?_
  rintro e w5 ⟨rfl, hb5⟩
  have x0_5 : w5.cell? ⟨w.heap.size, 0, none⟩ = some (.int .i64 m) := carry hb5 (by go_simp)
  have x1_5 : w5.cell? ⟨w.heap.size, 1, none⟩ = some (.int .i64 e) := carry hb5 (by go_simp)
  have xz_5 : w.heap.size < w5.heap.size := by have := hb5.size; first | omega | (simp at this; omega)
  have y0_5 : w5.cell? ⟨w.heap.size + 1, 0, none⟩ = some (.int .i64 k) := carry hb5 (by go_simp)
  have y1_5 : w5.cell? ⟨w.heap.size + 1, 1, none⟩ = some (.int .i64 f) := carry hb5 (by go_simp)
  have yz_5 : w.heap.size + 1 < w5.heap.size := by have := hb5.size; first | omega | (simp at this; omega)
  have a0_5 : w5.cell? ⟨w1.heap.size, 0, none⟩ = some (.int .i64 am) := carry hb5 (by go_simp)
  have a1_5 : w5.cell? ⟨w1.heap.size, 1, none⟩ = some (.int .i64 ae) := carry hb5 (by go_simp)
  have az_5 : w1.heap.size < w5.heap.size := by have := hb5.size; first | omega | (simp at this; omega)
  have b0_5 : w5.cell? ⟨w2.heap.size, 0, none⟩ = some (.int .i64 bm) := carry hb5 (by go_simp)
  have b1_5 : w5.cell? ⟨w2.heap.size, 1, none⟩ = some (.int .i64 be) := carry hb5 (by go_simp)
  have bz_5 : w2.heap.size < w5.heap.size := by have := hb5.size; first | omega | (simp at this; omega)
  have HB_5 := Lib.hid ((by repeat (first | exact HB_4.out | refine Below.drew ?_ | refine Below.setCell ?_ (by first | omega | (simp; done) | (simp; omega)) _ | refine Below.alloc ?_ (by first | omega | (simp; done) | (simp; omega)) _) : Below w.heap.size w _).trans (hb5.mono (by first | omega | (simp; done) | (simp; omega))))
  have nz_5 : w.heap.size ≤ w5.heap.size := HB_5.out.size
  clear hb5 x0_4 x1_4 y0_4 y1_4 a0_4 a1_4 b0_4 b1_4 c0_4 c1_4 HB_4
  have K0 := Lib.hid (Below.refl w5.heap.size w5)
  have SK := Lib.hid (show ∀ wx, Below w5.heap.size w5 wx → wx.cell? ⟨w.heap.size, 0, none⟩ = some (.int .i64 m) ∧ wx.cell? ⟨w.heap.size, 1, none⟩ = some (.int .i64 e) ∧ w.heap.size < wx.heap.size ∧ wx.cell? ⟨w.heap.size + 1, 0, none⟩ = some (.int .i64 k) ∧ wx.cell? ⟨w.heap.size + 1, 1, none⟩ = some (.int .i64 f) ∧ w.heap.size + 1 < wx.heap.size ∧ wx.cell? ⟨w1.heap.size, 0, none⟩ = some (.int .i64 am) ∧ wx.cell? ⟨w1.heap.size, 1, none⟩ = some (.int .i64 ae) ∧ w1.heap.size < wx.heap.size ∧ wx.cell? ⟨w2.heap.size, 0, none⟩ = some (.int .i64 bm) ∧ wx.cell? ⟨w2.heap.size, 1, none⟩ = some (.int .i64 be) ∧ w2.heap.size < wx.heap.size ∧ Below w5.heap.size w5 wx from fun wx h => ⟨carry h x0_5, carry h x1_5, Nat.lt_of_lt_of_le xz_5 h.size, carry h y0_5, carry h y1_5, Nat.lt_of_lt_of_le yz_5 h.size, carry h a0_5, carry h a1_5, Nat.lt_of_lt_of_le az_5 h.size, carry h b0_5, carry h b1_5, Nat.lt_of_lt_of_le bz_5 h.size, h⟩)
  go_wp2_with fail
  go_region_held3 (fun wx => wx.cell? ⟨w.heap.size, 0, none⟩ = some (.int .i64 m) ∧ wx.cell? ⟨w.heap.size, 1, none⟩ = some (.int .i64 e) ∧ w.heap.size < wx.heap.size ∧ wx.cell? ⟨w.heap.size + 1, 0, none⟩ = some (.int .i64 k) ∧ wx.cell? ⟨w.heap.size + 1, 1, none⟩ = some (.int .i64 f) ∧ w.heap.size + 1 < wx.heap.size ∧ wx.cell? ⟨w1.heap.size, 0, none⟩ = some (.int .i64 am) ∧ wx.cell? ⟨w1.heap.size, 1, none⟩ = some (.int .i64 ae) ∧ w1.heap.size < wx.heap.size ∧ wx.cell? ⟨w2.heap.size, 0, none⟩ = some (.int .i64 bm) ∧ wx.cell? ⟨w2.heap.size, 1, none⟩ = some (.int .i64 be) ∧ w2.heap.size < wx.heap.size ∧ Below w5.heap.size w5 wx) (first | (go_keep; done) | exact SK.out _ (by first | with_reducible assumption | with_reducible exact K0.out | with_reducible exact K0.out.drew | with_reducible exact Below.drew (by with_reducible assumption)))
    (first
      | (go_at_call 30; ((with_reducible refine (HRM.out _).mono ?_); rintro r wq ⟨rfl, hbq⟩; have qb : Below w5.heap.size w5 wq := Below.trans (by first | with_reducible assumption | with_reducible exact K0.out | with_reducible exact K0.out.drew | with_reducible exact Below.drew (by with_reducible assumption)) (hbq.mono (Below.size (by first | with_reducible assumption | with_reducible exact K0.out | with_reducible exact K0.out.drew | with_reducible exact Below.drew (by with_reducible assumption))))))
      | (go_at_call 29; ((with_reducible refine (HO1.out _).mono ?_); rintro r wq ⟨rfl, hbq⟩; have qb : Below w5.heap.size w5 wq := Below.trans (by first | with_reducible assumption | with_reducible exact K0.out | with_reducible exact K0.out.drew | with_reducible exact Below.drew (by with_reducible assumption)) (hbq.mono (Below.size (by first | with_reducible assumption | with_reducible exact K0.out | with_reducible exact K0.out.drew | with_reducible exact Below.drew (by with_reducible assumption)))))))
  rename _ ∧ _ ∧ _ ∧ _ ∧ _ ∧ _ ∧ _ ∧ _ ∧ _ ∧ _ ∧ _ ∧ _ ∧ Below w5.heap.size w5 _ => hS
  obtain ⟨w6, rfl⟩ : ∃ x, x = wq := ⟨_, rfl⟩
  obtain ⟨x0_6, x1_6, xz_6, y0_6, y1_6, yz_6, a0_6, a1_6, az_6, b0_6, b1_6, bz_6, xb⟩ := hS
  have HB_6 := Lib.hid (HB_5.out.trans (xb.mono HB_5.out.size))
  clear xb HB_5 K0 SK x0_5 x1_5 y0_5 y1_5 a0_5 a1_5 b0_5 b1_5
  have nz_6 : w.heap.size ≤ w6.heap.size := HB_6.out.size
  have K0 := Lib.hid (Below.refl w6.heap.size w6)
  have SK := Lib.hid (show ∀ wx, Below w6.heap.size w6 wx → wx.cell? ⟨w.heap.size, 0, none⟩ = some (.int .i64 m) ∧ wx.cell? ⟨w.heap.size, 1, none⟩ = some (.int .i64 e) ∧ w.heap.size < wx.heap.size ∧ wx.cell? ⟨w.heap.size + 1, 0, none⟩ = some (.int .i64 k) ∧ wx.cell? ⟨w.heap.size + 1, 1, none⟩ = some (.int .i64 f) ∧ w.heap.size + 1 < wx.heap.size ∧ wx.cell? ⟨w2.heap.size, 0, none⟩ = some (.int .i64 bm) ∧ wx.cell? ⟨w2.heap.size, 1, none⟩ = some (.int .i64 be) ∧ w2.heap.size < wx.heap.size from fun wx h => ⟨carry h x0_6, carry h x1_6, Nat.lt_of_lt_of_le xz_6 h.size, carry h y0_6, carry h y1_6, Nat.lt_of_lt_of_le yz_6 h.size, carry h b0_6, carry h b1_6, Nat.lt_of_lt_of_le bz_6 h.size⟩)
  go_wp2_with fail
  go_region_held3 (fun wx => wx.cell? ⟨w.heap.size, 0, none⟩ = some (.int .i64 m) ∧ wx.cell? ⟨w.heap.size, 1, none⟩ = some (.int .i64 e) ∧ w.heap.size < wx.heap.size ∧ wx.cell? ⟨w.heap.size + 1, 0, none⟩ = some (.int .i64 k) ∧ wx.cell? ⟨w.heap.size + 1, 1, none⟩ = some (.int .i64 f) ∧ w.heap.size + 1 < wx.heap.size ∧ wx.cell? ⟨w2.heap.size, 0, none⟩ = some (.int .i64 bm) ∧ wx.cell? ⟨w2.heap.size, 1, none⟩ = some (.int .i64 be) ∧ w2.heap.size < wx.heap.size) (first | (go_keep; done) | exact SK.out _ (by first | with_reducible assumption | with_reducible exact K0.out | with_reducible exact K0.out.drew | with_reducible exact Below.drew (by with_reducible assumption)))
    (first
      | (go_at_call 20; ((with_reducible refine (HSan.out _ (HB_6.out.trans (Below.mono (by first | with_reducible assumption | with_reducible exact K0.out | with_reducible exact K0.out.drew | with_reducible exact Below.drew (by with_reducible assumption)) nz_6))).mono ?_); rintro r wq ⟨rfl, hbq⟩; have qb : Below w6.heap.size w6 wq := Below.trans (by first | with_reducible assumption | with_reducible exact K0.out | with_reducible exact K0.out.drew | with_reducible exact Below.drew (by with_reducible assumption)) (hbq.mono (Below.size (by first | with_reducible assumption | with_reducible exact K0.out | with_reducible exact K0.out.drew | with_reducible exact Below.drew (by with_reducible assumption))))))
      | (go_at_call 31; ((with_reducible refine (HRD.out _).mono ?_); rintro r wq ⟨rfl, hbq⟩; have qb : Below w6.heap.size w6 wq := Below.trans (by first | with_reducible assumption | with_reducible exact K0.out | with_reducible exact K0.out.drew | with_reducible exact Below.drew (by with_reducible assumption)) (hbq.mono (Below.size (by first | with_reducible assumption | with_reducible exact K0.out | with_reducible exact K0.out.drew | with_reducible exact Below.drew (by with_reducible assumption))))))
      | (go_at_call 29; ((with_reducible refine (HO2.out _).mono ?_); rintro r wq ⟨rfl, hbq⟩; have qb : Below w6.heap.size w6 wq := Below.trans (by first | with_reducible assumption | with_reducible exact K0.out | with_reducible exact K0.out.drew | with_reducible exact Below.drew (by with_reducible assumption)) (hbq.mono (Below.size (by first | with_reducible assumption | with_reducible exact K0.out | with_reducible exact K0.out.drew | with_reducible exact Below.drew (by with_reducible assumption)))))))
  go_wp2_with fail
  go_ret
  exact ⟨rfl, HB_6.out.trans (qb.mono nz_6)⟩

set_option maxRecDepth 100000 in
set_option maxHeartbeats 8000000 in
theorem p_bad (m e k f am ae ax bm be bx cm ce pm pe qm qe : Int) (po qo : Bool) (w : World) (hm : ¬ m < 0) (HMul : Hid (∀ W : World, Calls Tryz.prog 25 #[realV m e, realV k f] W fun r w' => r = .returned (rE 0 0 1) ∧ Below W.heap.size W w')) (HDiv : Hid (∀ W : World, Calls Tryz.prog 26 #[realV m e, realV k f] W fun r w' => r = .returned (rE 0 0 1) ∧ Below W.heap.size W w')) (HSq : Hid (∀ W : World, Calls Tryz.prog 27 #[realV m e] W fun r w' => r = .returned (rE cm ce 0) ∧ Below W.heap.size W w')) (HVx : Hid (∀ W : World, Calls Tryz.prog 13 #[realV m e] W fun r w' => r = .returned (.bool true) ∧ Below W.heap.size W w')) (HVy : Hid (∀ W : World, Calls Tryz.prog 13 #[realV k f] W fun r w' => r = .returned (.bool false) ∧ Below W.heap.size W w')) (HSan : Hid (∀ W, Below w.heap.size w W → Calls Tryz.prog 20 #[] W fun r W' => r = .returned (.bool true) ∧ Below W.heap.size W W')) (HRq : Hid (∀ W : World, Calls Tryz.prog 28 #[realV m e] W fun r w' => r = .returned (realV cm ce) ∧ Below W.heap.size W w')) (HIs : Hid (∀ W : World, Calls Tryz.prog 8 #[realV cm ce, .int .i64 0, realV cm ce] W fun r w' => r = .returned (.bool true) ∧ Below W.heap.size W w'))  :
    Calls Tryz.prog 4 #[realV m e, realV k f] w fun r w' => r = .returned (.bool true) ∧ Below w.heap.size w w' := by
  go_enter Tryz.func4, Tryz.ntmps4
  go_wp2_with fail
  refine (HMul.out _).mono ?_
  rintro e w1 ⟨rfl, hb1⟩
  have x0_1 : w1.cell? ⟨w.heap.size, 0, none⟩ = some (.int .i64 m) := carry hb1 (by go_simp)
  have x1_1 : w1.cell? ⟨w.heap.size, 1, none⟩ = some (.int .i64 e) := carry hb1 (by go_simp)
  have xz_1 : w.heap.size < w1.heap.size := by have := hb1.size; first | omega | (simp at this; omega)
  have y0_1 : w1.cell? ⟨w.heap.size + 1, 0, none⟩ = some (.int .i64 k) := carry hb1 (by go_simp)
  have y1_1 : w1.cell? ⟨w.heap.size + 1, 1, none⟩ = some (.int .i64 f) := carry hb1 (by go_simp)
  have yz_1 : w.heap.size + 1 < w1.heap.size := by have := hb1.size; first | omega | (simp at this; omega)
  have HB_1 := Lib.hid ((by repeat (first | exact Below.refl _ _ | refine Below.drew ?_ | refine Below.setCell ?_ (by first | omega | (simp; done) | (simp; omega)) _ | refine Below.alloc ?_ (by first | omega | (simp; done) | (simp; omega)) _) : Below w.heap.size w _).trans (hb1.mono (by first | omega | (simp; done) | (simp; omega))))
  have nz_1 : w.heap.size ≤ w1.heap.size := HB_1.out.size
  clear hb1
  go_wp2_with fail
  refine (HDiv.out _).mono ?_
  rintro e w2 ⟨rfl, hb2⟩
  have x0_2 : w2.cell? ⟨w.heap.size, 0, none⟩ = some (.int .i64 m) := carry hb2 (by go_simp)
  have x1_2 : w2.cell? ⟨w.heap.size, 1, none⟩ = some (.int .i64 e) := carry hb2 (by go_simp)
  have xz_2 : w.heap.size < w2.heap.size := by have := hb2.size; first | omega | (simp at this; omega)
  have y0_2 : w2.cell? ⟨w.heap.size + 1, 0, none⟩ = some (.int .i64 k) := carry hb2 (by go_simp)
  have y1_2 : w2.cell? ⟨w.heap.size + 1, 1, none⟩ = some (.int .i64 f) := carry hb2 (by go_simp)
  have yz_2 : w.heap.size + 1 < w2.heap.size := by have := hb2.size; first | omega | (simp at this; omega)
  have a0_2 : w2.cell? ⟨w1.heap.size, 0, none⟩ = some (.int .i64 0) := carry hb2 (by go_simp)
  have a1_2 : w2.cell? ⟨w1.heap.size, 1, none⟩ = some (.int .i64 0) := carry hb2 (by go_simp)
  have az_2 : w1.heap.size < w2.heap.size := by have := hb2.size; first | omega | (simp at this; omega)
  have HB_2 := Lib.hid ((by repeat (first | exact HB_1.out | refine Below.drew ?_ | refine Below.setCell ?_ (by first | omega | (simp; done) | (simp; omega)) _ | refine Below.alloc ?_ (by first | omega | (simp; done) | (simp; omega)) _) : Below w.heap.size w _).trans (hb2.mono (by first | omega | (simp; done) | (simp; omega))))
  have nz_2 : w.heap.size ≤ w2.heap.size := HB_2.out.size
  clear hb2 x0_1 x1_1 y0_1 y1_1 HB_1
  go_wp2_with fail
  refine (HSq.out _).mono ?_
  rintro e w3 ⟨rfl, hb3⟩
  have x0_3 : w3.cell? ⟨w.heap.size, 0, none⟩ = some (.int .i64 m) := carry hb3 (by go_simp)
  have x1_3 : w3.cell? ⟨w.heap.size, 1, none⟩ = some (.int .i64 e) := carry hb3 (by go_simp)
  have xz_3 : w.heap.size < w3.heap.size := by have := hb3.size; first | omega | (simp at this; omega)
  have y0_3 : w3.cell? ⟨w.heap.size + 1, 0, none⟩ = some (.int .i64 k) := carry hb3 (by go_simp)
  have y1_3 : w3.cell? ⟨w.heap.size + 1, 1, none⟩ = some (.int .i64 f) := carry hb3 (by go_simp)
  have yz_3 : w.heap.size + 1 < w3.heap.size := by have := hb3.size; first | omega | (simp at this; omega)
  have a0_3 : w3.cell? ⟨w1.heap.size, 0, none⟩ = some (.int .i64 0) := carry hb3 (by go_simp)
  have a1_3 : w3.cell? ⟨w1.heap.size, 1, none⟩ = some (.int .i64 0) := carry hb3 (by go_simp)
  have az_3 : w1.heap.size < w3.heap.size := by have := hb3.size; first | omega | (simp at this; omega)
  have b0_3 : w3.cell? ⟨w2.heap.size, 0, none⟩ = some (.int .i64 0) := carry hb3 (by go_simp)
  have b1_3 : w3.cell? ⟨w2.heap.size, 1, none⟩ = some (.int .i64 0) := carry hb3 (by go_simp)
  have bz_3 : w2.heap.size < w3.heap.size := by have := hb3.size; first | omega | (simp at this; omega)
  have HB_3 := Lib.hid ((by repeat (first | exact HB_2.out | refine Below.drew ?_ | refine Below.setCell ?_ (by first | omega | (simp; done) | (simp; omega)) _ | refine Below.alloc ?_ (by first | omega | (simp; done) | (simp; omega)) _) : Below w.heap.size w _).trans (hb3.mono (by first | omega | (simp; done) | (simp; omega))))
  have nz_3 : w.heap.size ≤ w3.heap.size := HB_3.out.size
  clear hb3 x0_2 x1_2 y0_2 y1_2 a0_2 a1_2 HB_2
  go_wp2_with fail
  refine (HVx.out _).mono ?_
  rintro e w4 ⟨rfl, hb4⟩
  have x0_4 : w4.cell? ⟨w.heap.size, 0, none⟩ = some (.int .i64 m) := carry hb4 (by go_simp)
  have x1_4 : w4.cell? ⟨w.heap.size, 1, none⟩ = some (.int .i64 e) := carry hb4 (by go_simp)
  have xz_4 : w.heap.size < w4.heap.size := by have := hb4.size; first | omega | (simp at this; omega)
  have y0_4 : w4.cell? ⟨w.heap.size + 1, 0, none⟩ = some (.int .i64 k) := carry hb4 (by go_simp)
  have y1_4 : w4.cell? ⟨w.heap.size + 1, 1, none⟩ = some (.int .i64 f) := carry hb4 (by go_simp)
  have yz_4 : w.heap.size + 1 < w4.heap.size := by have := hb4.size; first | omega | (simp at this; omega)
  have a0_4 : w4.cell? ⟨w1.heap.size, 0, none⟩ = some (.int .i64 0) := carry hb4 (by go_simp)
  have a1_4 : w4.cell? ⟨w1.heap.size, 1, none⟩ = some (.int .i64 0) := carry hb4 (by go_simp)
  have az_4 : w1.heap.size < w4.heap.size := by have := hb4.size; first | omega | (simp at this; omega)
  have b0_4 : w4.cell? ⟨w2.heap.size, 0, none⟩ = some (.int .i64 0) := carry hb4 (by go_simp)
  have b1_4 : w4.cell? ⟨w2.heap.size, 1, none⟩ = some (.int .i64 0) := carry hb4 (by go_simp)
  have bz_4 : w2.heap.size < w4.heap.size := by have := hb4.size; first | omega | (simp at this; omega)
  have c0_4 : w4.cell? ⟨w3.heap.size, 0, none⟩ = some (.int .i64 cm) := carry hb4 (by go_simp)
  have c1_4 : w4.cell? ⟨w3.heap.size, 1, none⟩ = some (.int .i64 ce) := carry hb4 (by go_simp)
  have cz_4 : w3.heap.size < w4.heap.size := by have := hb4.size; first | omega | (simp at this; omega)
  have HB_4 := Lib.hid ((by repeat (first | exact HB_3.out | refine Below.drew ?_ | refine Below.setCell ?_ (by first | omega | (simp; done) | (simp; omega)) _ | refine Below.alloc ?_ (by first | omega | (simp; done) | (simp; omega)) _) : Below w.heap.size w _).trans (hb4.mono (by first | omega | (simp; done) | (simp; omega))))
  have nz_4 : w.heap.size ≤ w4.heap.size := HB_4.out.size
  clear hb4 x0_3 x1_3 y0_3 y1_3 a0_3 a1_3 b0_3 b1_3 HB_3
  have K0 := Lib.hid (Below.refl w4.heap.size w4)
  have SK := Lib.hid (show ∀ wx, Below w4.heap.size w4 wx → wx.cell? ⟨w.heap.size, 0, none⟩ = some (.int .i64 m) ∧ wx.cell? ⟨w.heap.size, 1, none⟩ = some (.int .i64 e) ∧ w.heap.size < wx.heap.size ∧ wx.cell? ⟨w.heap.size + 1, 0, none⟩ = some (.int .i64 k) ∧ wx.cell? ⟨w.heap.size + 1, 1, none⟩ = some (.int .i64 f) ∧ w.heap.size + 1 < wx.heap.size ∧ wx.cell? ⟨w1.heap.size, 0, none⟩ = some (.int .i64 0) ∧ wx.cell? ⟨w1.heap.size, 1, none⟩ = some (.int .i64 0) ∧ w1.heap.size < wx.heap.size ∧ wx.cell? ⟨w2.heap.size, 0, none⟩ = some (.int .i64 0) ∧ wx.cell? ⟨w2.heap.size, 1, none⟩ = some (.int .i64 0) ∧ w2.heap.size < wx.heap.size ∧ wx.cell? ⟨w3.heap.size, 0, none⟩ = some (.int .i64 cm) ∧ wx.cell? ⟨w3.heap.size, 1, none⟩ = some (.int .i64 ce) ∧ w3.heap.size < wx.heap.size ∧ Below w4.heap.size w4 wx from fun wx h => ⟨carry h x0_4, carry h x1_4, Nat.lt_of_lt_of_le xz_4 h.size, carry h y0_4, carry h y1_4, Nat.lt_of_lt_of_le yz_4 h.size, carry h a0_4, carry h a1_4, Nat.lt_of_lt_of_le az_4 h.size, carry h b0_4, carry h b1_4, Nat.lt_of_lt_of_le bz_4 h.size, carry h c0_4, carry h c1_4, Nat.lt_of_lt_of_le cz_4 h.size, h⟩)
  go_wp2_with fail
  go_region_held3 (fun wx => wx.cell? ⟨w.heap.size, 0, none⟩ = some (.int .i64 m) ∧ wx.cell? ⟨w.heap.size, 1, none⟩ = some (.int .i64 e) ∧ w.heap.size < wx.heap.size ∧ wx.cell? ⟨w.heap.size + 1, 0, none⟩ = some (.int .i64 k) ∧ wx.cell? ⟨w.heap.size + 1, 1, none⟩ = some (.int .i64 f) ∧ w.heap.size + 1 < wx.heap.size ∧ wx.cell? ⟨w1.heap.size, 0, none⟩ = some (.int .i64 0) ∧ wx.cell? ⟨w1.heap.size, 1, none⟩ = some (.int .i64 0) ∧ w1.heap.size < wx.heap.size ∧ wx.cell? ⟨w2.heap.size, 0, none⟩ = some (.int .i64 0) ∧ wx.cell? ⟨w2.heap.size, 1, none⟩ = some (.int .i64 0) ∧ w2.heap.size < wx.heap.size ∧ wx.cell? ⟨w3.heap.size, 0, none⟩ = some (.int .i64 cm) ∧ wx.cell? ⟨w3.heap.size, 1, none⟩ = some (.int .i64 ce) ∧ w3.heap.size < wx.heap.size ∧ Below w4.heap.size w4 wx) (first | (go_keep; done) | exact SK.out _ (by first | with_reducible assumption | with_reducible exact K0.out | with_reducible exact K0.out.drew | with_reducible exact Below.drew (by with_reducible assumption)))
    (first
      | (go_at_call 28; ((with_reducible refine (HRq.out _).mono ?_); rintro r wq ⟨rfl, hbq⟩; have qb : Below w4.heap.size w4 wq := Below.trans (by first | with_reducible assumption | with_reducible exact K0.out | with_reducible exact K0.out.drew | with_reducible exact Below.drew (by with_reducible assumption)) (hbq.mono (Below.size (by first | with_reducible assumption | with_reducible exact K0.out | with_reducible exact K0.out.drew | with_reducible exact Below.drew (by with_reducible assumption))))))
      | (go_at_call 8; ((with_reducible refine (HIs.out _).mono ?_); rintro r wq ⟨rfl, hbq⟩; have qb : Below w4.heap.size w4 wq := Below.trans (by first | with_reducible assumption | with_reducible exact K0.out | with_reducible exact K0.out.drew | with_reducible exact Below.drew (by with_reducible assumption)) (hbq.mono (Below.size (by first | with_reducible assumption | with_reducible exact K0.out | with_reducible exact K0.out.drew | with_reducible exact Below.drew (by with_reducible assumption)))))))
  rename _ ∧ _ ∧ _ ∧ _ ∧ _ ∧ _ ∧ _ ∧ _ ∧ _ ∧ _ ∧ _ ∧ _ ∧ _ ∧ _ ∧ _ ∧ Below w4.heap.size w4 _ => hS
  obtain ⟨w5, rfl⟩ : ∃ x, x = wq := ⟨_, rfl⟩
  obtain ⟨x0_5, x1_5, xz_5, y0_5, y1_5, yz_5, a0_5, a1_5, az_5, b0_5, b1_5, bz_5, c0_5, c1_5, cz_5, xb⟩ := hS
  have HB_5 := Lib.hid (HB_4.out.trans (xb.mono HB_4.out.size))
  clear xb HB_4 K0 SK x0_4 x1_4 y0_4 y1_4 a0_4 a1_4 b0_4 b1_4 c0_4 c1_4
  have nz_5 : w.heap.size ≤ w5.heap.size := HB_5.out.size
  go_wp2_with fail
  refine (HVy.out _).mono ?_
  rintro e w6 ⟨rfl, hb6⟩
  have x0_6 : w6.cell? ⟨w.heap.size, 0, none⟩ = some (.int .i64 m) := carry hb6 (by go_simp)
  have x1_6 : w6.cell? ⟨w.heap.size, 1, none⟩ = some (.int .i64 e) := carry hb6 (by go_simp)
  have xz_6 : w.heap.size < w6.heap.size := by have := hb6.size; first | omega | (simp at this; omega)
  have y0_6 : w6.cell? ⟨w.heap.size + 1, 0, none⟩ = some (.int .i64 k) := carry hb6 (by go_simp)
  have y1_6 : w6.cell? ⟨w.heap.size + 1, 1, none⟩ = some (.int .i64 f) := carry hb6 (by go_simp)
  have yz_6 : w.heap.size + 1 < w6.heap.size := by have := hb6.size; first | omega | (simp at this; omega)
  have a0_6 : w6.cell? ⟨w1.heap.size, 0, none⟩ = some (.int .i64 0) := carry hb6 (by go_simp)
  have a1_6 : w6.cell? ⟨w1.heap.size, 1, none⟩ = some (.int .i64 0) := carry hb6 (by go_simp)
  have az_6 : w1.heap.size < w6.heap.size := by have := hb6.size; first | omega | (simp at this; omega)
  have b0_6 : w6.cell? ⟨w2.heap.size, 0, none⟩ = some (.int .i64 0) := carry hb6 (by go_simp)
  have b1_6 : w6.cell? ⟨w2.heap.size, 1, none⟩ = some (.int .i64 0) := carry hb6 (by go_simp)
  have bz_6 : w2.heap.size < w6.heap.size := by have := hb6.size; first | omega | (simp at this; omega)
  have HB_6 := Lib.hid ((by repeat (first | exact HB_5.out | refine Below.drew ?_ | refine Below.setCell ?_ (by first | omega | (simp; done) | (simp; omega)) _ | refine Below.alloc ?_ (by first | omega | (simp; done) | (simp; omega)) _) : Below w.heap.size w _).trans (hb6.mono (by first | omega | (simp; done) | (simp; omega))))
  have nz_6 : w.heap.size ≤ w6.heap.size := HB_6.out.size
  clear hb6 x0_5 x1_5 y0_5 y1_5 a0_5 a1_5 b0_5 b1_5 c0_5 c1_5 HB_5
  go_wp2_with fail
  refine (HSan.out _ (by repeat (first | exact HB_6.out | refine Below.drew ?_ | refine Below.setCell ?_ (by first | omega | (simp; done) | (simp; omega)) _ | refine Below.alloc ?_ (by first | omega | (simp; done) | (simp; omega)) _))).mono ?_
  rintro e w7 ⟨rfl, hb7⟩
  have a0_7 : w7.cell? ⟨w1.heap.size, 0, none⟩ = some (.int .i64 0) := carry hb7 (by go_simp)
  have a1_7 : w7.cell? ⟨w1.heap.size, 1, none⟩ = some (.int .i64 0) := carry hb7 (by go_simp)
  have az_7 : w1.heap.size < w7.heap.size := by have := hb7.size; first | omega | (simp at this; omega)
  have b0_7 : w7.cell? ⟨w2.heap.size, 0, none⟩ = some (.int .i64 0) := carry hb7 (by go_simp)
  have b1_7 : w7.cell? ⟨w2.heap.size, 1, none⟩ = some (.int .i64 0) := carry hb7 (by go_simp)
  have bz_7 : w2.heap.size < w7.heap.size := by have := hb7.size; first | omega | (simp at this; omega)
  have HB_7 := Lib.hid ((by repeat (first | exact HB_6.out | refine Below.drew ?_ | refine Below.setCell ?_ (by first | omega | (simp; done) | (simp; omega)) _ | refine Below.alloc ?_ (by first | omega | (simp; done) | (simp; omega)) _) : Below w.heap.size w _).trans (hb7.mono (by first | omega | (simp; done) | (simp; omega))))
  have nz_7 : w.heap.size ≤ w7.heap.size := HB_7.out.size
  clear hb7 x0_6 x1_6 y0_6 y1_6 a0_6 a1_6 b0_6 b1_6 HB_6
  go_wp2_with fail
  go_ret
  exact ⟨rfl, by repeat (first | exact HB_7.out | refine Below.drew ?_ | refine Below.setCell ?_ (by first | omega | (simp; done) | (simp; omega)) _ | refine Below.alloc ?_ (by first | omega | (simp; done) | (simp; omega)) _)⟩

set_option maxRecDepth 100000 in
set_option maxHeartbeats 8000000 in
theorem p_zero (m e k f am ae ax bm be bx cm ce pm pe qm qe : Int) (po qo : Bool) (w : World) (hm : ¬ m < 0) (hk : (k == 0) = true) (HMul : Hid (∀ W : World, Calls Tryz.prog 25 #[realV m e, realV k f] W fun r w' => r = .returned (rE am ae ax) ∧ Below W.heap.size W w')) (HDiv : Hid (∀ W : World, Calls Tryz.prog 26 #[realV m e, realV k f] W fun r w' => r = .returned (rE 0 0 5) ∧ Below W.heap.size W w')) (HSq : Hid (∀ W : World, Calls Tryz.prog 27 #[realV m e] W fun r w' => r = .returned (rE cm ce 0) ∧ Below W.heap.size W w')) (HVx : Hid (∀ W : World, Calls Tryz.prog 13 #[realV m e] W fun r w' => r = .returned (.bool true) ∧ Below W.heap.size W w')) (HVy : Hid (∀ W : World, Calls Tryz.prog 13 #[realV k f] W fun r w' => r = .returned (.bool true) ∧ Below W.heap.size W w')) (HSan : Hid (∀ W, Below w.heap.size w W → Calls Tryz.prog 20 #[] W fun r W' => r = .returned (.bool true) ∧ Below W.heap.size W W')) (HRq : Hid (∀ W : World, Calls Tryz.prog 28 #[realV m e] W fun r w' => r = .returned (realV cm ce) ∧ Below W.heap.size W w')) (HIs : Hid (∀ W : World, Calls Tryz.prog 8 #[realV cm ce, .int .i64 0, realV cm ce] W fun r w' => r = .returned (.bool true) ∧ Below W.heap.size W w')) (HRM : Hid (∀ W : World, Calls Tryz.prog 30 #[realV m e, realV k f] W fun r w' => r = .returned (.agg #[.int .i64 pm, .int .i64 pe, .bool po]) ∧ Below W.heap.size W w')) (HO1 : Hid (∀ W : World, Calls Tryz.prog 29 #[realV am ae, .int .i64 ax, .agg #[.int .i64 pm, .int .i64 pe, .bool po]] W fun r w' => r = .returned (.bool true) ∧ Below W.heap.size W w'))  :
    Calls Tryz.prog 4 #[realV m e, realV k f] w fun r w' => r = .returned (.bool true) ∧ Below w.heap.size w w' := by
  go_enter Tryz.func4, Tryz.ntmps4
  go_wp2_with fail
  refine (HMul.out _).mono ?_
  rintro e w1 ⟨rfl, hb1⟩
  have x0_1 : w1.cell? ⟨w.heap.size, 0, none⟩ = some (.int .i64 m) := carry hb1 (by go_simp)
  have x1_1 : w1.cell? ⟨w.heap.size, 1, none⟩ = some (.int .i64 e) := carry hb1 (by go_simp)
  have xz_1 : w.heap.size < w1.heap.size := by have := hb1.size; first | omega | (simp at this; omega)
  have y0_1 : w1.cell? ⟨w.heap.size + 1, 0, none⟩ = some (.int .i64 k) := carry hb1 (by go_simp)
  have y1_1 : w1.cell? ⟨w.heap.size + 1, 1, none⟩ = some (.int .i64 f) := carry hb1 (by go_simp)
  have yz_1 : w.heap.size + 1 < w1.heap.size := by have := hb1.size; first | omega | (simp at this; omega)
  have HB_1 := Lib.hid ((by repeat (first | exact Below.refl _ _ | refine Below.drew ?_ | refine Below.setCell ?_ (by first | omega | (simp; done) | (simp; omega)) _ | refine Below.alloc ?_ (by first | omega | (simp; done) | (simp; omega)) _) : Below w.heap.size w _).trans (hb1.mono (by first | omega | (simp; done) | (simp; omega))))
  have nz_1 : w.heap.size ≤ w1.heap.size := HB_1.out.size
  clear hb1
  go_wp2_with fail
  refine (HDiv.out _).mono ?_
  rintro e w2 ⟨rfl, hb2⟩
  have x0_2 : w2.cell? ⟨w.heap.size, 0, none⟩ = some (.int .i64 m) := carry hb2 (by go_simp)
  have x1_2 : w2.cell? ⟨w.heap.size, 1, none⟩ = some (.int .i64 e) := carry hb2 (by go_simp)
  have xz_2 : w.heap.size < w2.heap.size := by have := hb2.size; first | omega | (simp at this; omega)
  have y0_2 : w2.cell? ⟨w.heap.size + 1, 0, none⟩ = some (.int .i64 k) := carry hb2 (by go_simp)
  have y1_2 : w2.cell? ⟨w.heap.size + 1, 1, none⟩ = some (.int .i64 f) := carry hb2 (by go_simp)
  have yz_2 : w.heap.size + 1 < w2.heap.size := by have := hb2.size; first | omega | (simp at this; omega)
  have a0_2 : w2.cell? ⟨w1.heap.size, 0, none⟩ = some (.int .i64 am) := carry hb2 (by go_simp)
  have a1_2 : w2.cell? ⟨w1.heap.size, 1, none⟩ = some (.int .i64 ae) := carry hb2 (by go_simp)
  have az_2 : w1.heap.size < w2.heap.size := by have := hb2.size; first | omega | (simp at this; omega)
  have HB_2 := Lib.hid ((by repeat (first | exact HB_1.out | refine Below.drew ?_ | refine Below.setCell ?_ (by first | omega | (simp; done) | (simp; omega)) _ | refine Below.alloc ?_ (by first | omega | (simp; done) | (simp; omega)) _) : Below w.heap.size w _).trans (hb2.mono (by first | omega | (simp; done) | (simp; omega))))
  have nz_2 : w.heap.size ≤ w2.heap.size := HB_2.out.size
  clear hb2 x0_1 x1_1 y0_1 y1_1 HB_1
  go_wp2_with fail
  refine (HSq.out _).mono ?_
  rintro e w3 ⟨rfl, hb3⟩
  have x0_3 : w3.cell? ⟨w.heap.size, 0, none⟩ = some (.int .i64 m) := carry hb3 (by go_simp)
  have x1_3 : w3.cell? ⟨w.heap.size, 1, none⟩ = some (.int .i64 e) := carry hb3 (by go_simp)
  have xz_3 : w.heap.size < w3.heap.size := by have := hb3.size; first | omega | (simp at this; omega)
  have y0_3 : w3.cell? ⟨w.heap.size + 1, 0, none⟩ = some (.int .i64 k) := carry hb3 (by go_simp)
  have y1_3 : w3.cell? ⟨w.heap.size + 1, 1, none⟩ = some (.int .i64 f) := carry hb3 (by go_simp)
  have yz_3 : w.heap.size + 1 < w3.heap.size := by have := hb3.size; first | omega | (simp at this; omega)
  have a0_3 : w3.cell? ⟨w1.heap.size, 0, none⟩ = some (.int .i64 am) := carry hb3 (by go_simp)
  have a1_3 : w3.cell? ⟨w1.heap.size, 1, none⟩ = some (.int .i64 ae) := carry hb3 (by go_simp)
  have az_3 : w1.heap.size < w3.heap.size := by have := hb3.size; first | omega | (simp at this; omega)
  have b0_3 : w3.cell? ⟨w2.heap.size, 0, none⟩ = some (.int .i64 0) := carry hb3 (by go_simp)
  have b1_3 : w3.cell? ⟨w2.heap.size, 1, none⟩ = some (.int .i64 0) := carry hb3 (by go_simp)
  have bz_3 : w2.heap.size < w3.heap.size := by have := hb3.size; first | omega | (simp at this; omega)
  have HB_3 := Lib.hid ((by repeat (first | exact HB_2.out | refine Below.drew ?_ | refine Below.setCell ?_ (by first | omega | (simp; done) | (simp; omega)) _ | refine Below.alloc ?_ (by first | omega | (simp; done) | (simp; omega)) _) : Below w.heap.size w _).trans (hb3.mono (by first | omega | (simp; done) | (simp; omega))))
  have nz_3 : w.heap.size ≤ w3.heap.size := HB_3.out.size
  clear hb3 x0_2 x1_2 y0_2 y1_2 a0_2 a1_2 HB_2
  go_wp2_with fail
  refine (HVx.out _).mono ?_
  rintro e w4 ⟨rfl, hb4⟩
  have x0_4 : w4.cell? ⟨w.heap.size, 0, none⟩ = some (.int .i64 m) := carry hb4 (by go_simp)
  have x1_4 : w4.cell? ⟨w.heap.size, 1, none⟩ = some (.int .i64 e) := carry hb4 (by go_simp)
  have xz_4 : w.heap.size < w4.heap.size := by have := hb4.size; first | omega | (simp at this; omega)
  have y0_4 : w4.cell? ⟨w.heap.size + 1, 0, none⟩ = some (.int .i64 k) := carry hb4 (by go_simp)
  have y1_4 : w4.cell? ⟨w.heap.size + 1, 1, none⟩ = some (.int .i64 f) := carry hb4 (by go_simp)
  have yz_4 : w.heap.size + 1 < w4.heap.size := by have := hb4.size; first | omega | (simp at this; omega)
  have a0_4 : w4.cell? ⟨w1.heap.size, 0, none⟩ = some (.int .i64 am) := carry hb4 (by go_simp)
  have a1_4 : w4.cell? ⟨w1.heap.size, 1, none⟩ = some (.int .i64 ae) := carry hb4 (by go_simp)
  have az_4 : w1.heap.size < w4.heap.size := by have := hb4.size; first | omega | (simp at this; omega)
  have b0_4 : w4.cell? ⟨w2.heap.size, 0, none⟩ = some (.int .i64 0) := carry hb4 (by go_simp)
  have b1_4 : w4.cell? ⟨w2.heap.size, 1, none⟩ = some (.int .i64 0) := carry hb4 (by go_simp)
  have bz_4 : w2.heap.size < w4.heap.size := by have := hb4.size; first | omega | (simp at this; omega)
  have c0_4 : w4.cell? ⟨w3.heap.size, 0, none⟩ = some (.int .i64 cm) := carry hb4 (by go_simp)
  have c1_4 : w4.cell? ⟨w3.heap.size, 1, none⟩ = some (.int .i64 ce) := carry hb4 (by go_simp)
  have cz_4 : w3.heap.size < w4.heap.size := by have := hb4.size; first | omega | (simp at this; omega)
  have HB_4 := Lib.hid ((by repeat (first | exact HB_3.out | refine Below.drew ?_ | refine Below.setCell ?_ (by first | omega | (simp; done) | (simp; omega)) _ | refine Below.alloc ?_ (by first | omega | (simp; done) | (simp; omega)) _) : Below w.heap.size w _).trans (hb4.mono (by first | omega | (simp; done) | (simp; omega))))
  have nz_4 : w.heap.size ≤ w4.heap.size := HB_4.out.size
  clear hb4 x0_3 x1_3 y0_3 y1_3 a0_3 a1_3 b0_3 b1_3 HB_3
  have K0 := Lib.hid (Below.refl w4.heap.size w4)
  have SK := Lib.hid (show ∀ wx, Below w4.heap.size w4 wx → wx.cell? ⟨w.heap.size, 0, none⟩ = some (.int .i64 m) ∧ wx.cell? ⟨w.heap.size, 1, none⟩ = some (.int .i64 e) ∧ w.heap.size < wx.heap.size ∧ wx.cell? ⟨w.heap.size + 1, 0, none⟩ = some (.int .i64 k) ∧ wx.cell? ⟨w.heap.size + 1, 1, none⟩ = some (.int .i64 f) ∧ w.heap.size + 1 < wx.heap.size ∧ wx.cell? ⟨w1.heap.size, 0, none⟩ = some (.int .i64 am) ∧ wx.cell? ⟨w1.heap.size, 1, none⟩ = some (.int .i64 ae) ∧ w1.heap.size < wx.heap.size ∧ wx.cell? ⟨w2.heap.size, 0, none⟩ = some (.int .i64 0) ∧ wx.cell? ⟨w2.heap.size, 1, none⟩ = some (.int .i64 0) ∧ w2.heap.size < wx.heap.size ∧ wx.cell? ⟨w3.heap.size, 0, none⟩ = some (.int .i64 cm) ∧ wx.cell? ⟨w3.heap.size, 1, none⟩ = some (.int .i64 ce) ∧ w3.heap.size < wx.heap.size ∧ Below w4.heap.size w4 wx from fun wx h => ⟨carry h x0_4, carry h x1_4, Nat.lt_of_lt_of_le xz_4 h.size, carry h y0_4, carry h y1_4, Nat.lt_of_lt_of_le yz_4 h.size, carry h a0_4, carry h a1_4, Nat.lt_of_lt_of_le az_4 h.size, carry h b0_4, carry h b1_4, Nat.lt_of_lt_of_le bz_4 h.size, carry h c0_4, carry h c1_4, Nat.lt_of_lt_of_le cz_4 h.size, h⟩)
  go_wp2_with fail
  go_region_held3 (fun wx => wx.cell? ⟨w.heap.size, 0, none⟩ = some (.int .i64 m) ∧ wx.cell? ⟨w.heap.size, 1, none⟩ = some (.int .i64 e) ∧ w.heap.size < wx.heap.size ∧ wx.cell? ⟨w.heap.size + 1, 0, none⟩ = some (.int .i64 k) ∧ wx.cell? ⟨w.heap.size + 1, 1, none⟩ = some (.int .i64 f) ∧ w.heap.size + 1 < wx.heap.size ∧ wx.cell? ⟨w1.heap.size, 0, none⟩ = some (.int .i64 am) ∧ wx.cell? ⟨w1.heap.size, 1, none⟩ = some (.int .i64 ae) ∧ w1.heap.size < wx.heap.size ∧ wx.cell? ⟨w2.heap.size, 0, none⟩ = some (.int .i64 0) ∧ wx.cell? ⟨w2.heap.size, 1, none⟩ = some (.int .i64 0) ∧ w2.heap.size < wx.heap.size ∧ wx.cell? ⟨w3.heap.size, 0, none⟩ = some (.int .i64 cm) ∧ wx.cell? ⟨w3.heap.size, 1, none⟩ = some (.int .i64 ce) ∧ w3.heap.size < wx.heap.size ∧ Below w4.heap.size w4 wx) (first | (go_keep; done) | exact SK.out _ (by first | with_reducible assumption | with_reducible exact K0.out | with_reducible exact K0.out.drew | with_reducible exact Below.drew (by with_reducible assumption)))
    (first
      | (go_at_call 28; ((with_reducible refine (HRq.out _).mono ?_); rintro r wq ⟨rfl, hbq⟩; have qb : Below w4.heap.size w4 wq := Below.trans (by first | with_reducible assumption | with_reducible exact K0.out | with_reducible exact K0.out.drew | with_reducible exact Below.drew (by with_reducible assumption)) (hbq.mono (Below.size (by first | with_reducible assumption | with_reducible exact K0.out | with_reducible exact K0.out.drew | with_reducible exact Below.drew (by with_reducible assumption))))))
      | (go_at_call 8; ((with_reducible refine (HIs.out _).mono ?_); rintro r wq ⟨rfl, hbq⟩; have qb : Below w4.heap.size w4 wq := Below.trans (by first | with_reducible assumption | with_reducible exact K0.out | with_reducible exact K0.out.drew | with_reducible exact Below.drew (by with_reducible assumption)) (hbq.mono (Below.size (by first | with_reducible assumption | with_reducible exact K0.out | with_reducible exact K0.out.drew | with_reducible exact Below.drew (by with_reducible assumption)))))))
  rename _ ∧ _ ∧ _ ∧ _ ∧ _ ∧ _ ∧ _ ∧ _ ∧ _ ∧ _ ∧ _ ∧ _ ∧ _ ∧ _ ∧ _ ∧ Below w4.heap.size w4 _ => hS
  obtain ⟨w5, rfl⟩ : ∃ x, x = wq := ⟨_, rfl⟩
  obtain ⟨x0_5, x1_5, xz_5, y0_5, y1_5, yz_5, a0_5, a1_5, az_5, b0_5, b1_5, bz_5, c0_5, c1_5, cz_5, xb⟩ := hS
  have HB_5 := Lib.hid (HB_4.out.trans (xb.mono HB_4.out.size))
  clear xb HB_4 K0 SK x0_4 x1_4 y0_4 y1_4 a0_4 a1_4 b0_4 b1_4 c0_4 c1_4
  have nz_5 : w.heap.size ≤ w5.heap.size := HB_5.out.size
  go_wp2_with fail
  refine (HVy.out _).mono ?_
  rintro e w6 ⟨rfl, hb6⟩
  have x0_6 : w6.cell? ⟨w.heap.size, 0, none⟩ = some (.int .i64 m) := carry hb6 (by go_simp)
  have x1_6 : w6.cell? ⟨w.heap.size, 1, none⟩ = some (.int .i64 e) := carry hb6 (by go_simp)
  have xz_6 : w.heap.size < w6.heap.size := by have := hb6.size; first | omega | (simp at this; omega)
  have y0_6 : w6.cell? ⟨w.heap.size + 1, 0, none⟩ = some (.int .i64 k) := carry hb6 (by go_simp)
  have y1_6 : w6.cell? ⟨w.heap.size + 1, 1, none⟩ = some (.int .i64 f) := carry hb6 (by go_simp)
  have yz_6 : w.heap.size + 1 < w6.heap.size := by have := hb6.size; first | omega | (simp at this; omega)
  have a0_6 : w6.cell? ⟨w1.heap.size, 0, none⟩ = some (.int .i64 am) := carry hb6 (by go_simp)
  have a1_6 : w6.cell? ⟨w1.heap.size, 1, none⟩ = some (.int .i64 ae) := carry hb6 (by go_simp)
  have az_6 : w1.heap.size < w6.heap.size := by have := hb6.size; first | omega | (simp at this; omega)
  have b0_6 : w6.cell? ⟨w2.heap.size, 0, none⟩ = some (.int .i64 0) := carry hb6 (by go_simp)
  have b1_6 : w6.cell? ⟨w2.heap.size, 1, none⟩ = some (.int .i64 0) := carry hb6 (by go_simp)
  have bz_6 : w2.heap.size < w6.heap.size := by have := hb6.size; first | omega | (simp at this; omega)
  have HB_6 := Lib.hid ((by repeat (first | exact HB_5.out | refine Below.drew ?_ | refine Below.setCell ?_ (by first | omega | (simp; done) | (simp; omega)) _ | refine Below.alloc ?_ (by first | omega | (simp; done) | (simp; omega)) _) : Below w.heap.size w _).trans (hb6.mono (by first | omega | (simp; done) | (simp; omega))))
  have nz_6 : w.heap.size ≤ w6.heap.size := HB_6.out.size
  clear hb6 x0_5 x1_5 y0_5 y1_5 a0_5 a1_5 b0_5 b1_5 c0_5 c1_5 HB_5
  have K0 := Lib.hid (Below.refl w6.heap.size w6)
  have SK := Lib.hid (show ∀ wx, Below w6.heap.size w6 wx → wx.cell? ⟨w.heap.size, 0, none⟩ = some (.int .i64 m) ∧ wx.cell? ⟨w.heap.size, 1, none⟩ = some (.int .i64 e) ∧ w.heap.size < wx.heap.size ∧ wx.cell? ⟨w.heap.size + 1, 0, none⟩ = some (.int .i64 k) ∧ wx.cell? ⟨w.heap.size + 1, 1, none⟩ = some (.int .i64 f) ∧ w.heap.size + 1 < wx.heap.size ∧ wx.cell? ⟨w1.heap.size, 0, none⟩ = some (.int .i64 am) ∧ wx.cell? ⟨w1.heap.size, 1, none⟩ = some (.int .i64 ae) ∧ w1.heap.size < wx.heap.size ∧ wx.cell? ⟨w2.heap.size, 0, none⟩ = some (.int .i64 0) ∧ wx.cell? ⟨w2.heap.size, 1, none⟩ = some (.int .i64 0) ∧ w2.heap.size < wx.heap.size ∧ Below w6.heap.size w6 wx from fun wx h => ⟨carry h x0_6, carry h x1_6, Nat.lt_of_lt_of_le xz_6 h.size, carry h y0_6, carry h y1_6, Nat.lt_of_lt_of_le yz_6 h.size, carry h a0_6, carry h a1_6, Nat.lt_of_lt_of_le az_6 h.size, carry h b0_6, carry h b1_6, Nat.lt_of_lt_of_le bz_6 h.size, h⟩)
  go_wp2_with fail
  go_region_held3 (fun wx => wx.cell? ⟨w.heap.size, 0, none⟩ = some (.int .i64 m) ∧ wx.cell? ⟨w.heap.size, 1, none⟩ = some (.int .i64 e) ∧ w.heap.size < wx.heap.size ∧ wx.cell? ⟨w.heap.size + 1, 0, none⟩ = some (.int .i64 k) ∧ wx.cell? ⟨w.heap.size + 1, 1, none⟩ = some (.int .i64 f) ∧ w.heap.size + 1 < wx.heap.size ∧ wx.cell? ⟨w1.heap.size, 0, none⟩ = some (.int .i64 am) ∧ wx.cell? ⟨w1.heap.size, 1, none⟩ = some (.int .i64 ae) ∧ w1.heap.size < wx.heap.size ∧ wx.cell? ⟨w2.heap.size, 0, none⟩ = some (.int .i64 0) ∧ wx.cell? ⟨w2.heap.size, 1, none⟩ = some (.int .i64 0) ∧ w2.heap.size < wx.heap.size ∧ Below w6.heap.size w6 wx) (first | (go_keep; done) | exact SK.out _ (by first | with_reducible assumption | with_reducible exact K0.out | with_reducible exact K0.out.drew | with_reducible exact Below.drew (by with_reducible assumption)))
    (first
      | (go_at_call 30; ((with_reducible refine (HRM.out _).mono ?_); rintro r wq ⟨rfl, hbq⟩; have qb : Below w6.heap.size w6 wq := Below.trans (by first | with_reducible assumption | with_reducible exact K0.out | with_reducible exact K0.out.drew | with_reducible exact Below.drew (by with_reducible assumption)) (hbq.mono (Below.size (by first | with_reducible assumption | with_reducible exact K0.out | with_reducible exact K0.out.drew | with_reducible exact Below.drew (by with_reducible assumption))))))
      | (go_at_call 29; ((with_reducible refine (HO1.out _).mono ?_); rintro r wq ⟨rfl, hbq⟩; have qb : Below w6.heap.size w6 wq := Below.trans (by first | with_reducible assumption | with_reducible exact K0.out | with_reducible exact K0.out.drew | with_reducible exact Below.drew (by with_reducible assumption)) (hbq.mono (Below.size (by first | with_reducible assumption | with_reducible exact K0.out | with_reducible exact K0.out.drew | with_reducible exact Below.drew (by with_reducible assumption)))))))
  rename _ ∧ _ ∧ _ ∧ _ ∧ _ ∧ _ ∧ _ ∧ _ ∧ _ ∧ _ ∧ _ ∧ _ ∧ Below w6.heap.size w6 _ => hS
  obtain ⟨w7, rfl⟩ : ∃ x, x = wq := ⟨_, rfl⟩
  obtain ⟨x0_7, x1_7, xz_7, y0_7, y1_7, yz_7, a0_7, a1_7, az_7, b0_7, b1_7, bz_7, xb⟩ := hS
  have HB_7 := Lib.hid (HB_6.out.trans (xb.mono HB_6.out.size))
  clear xb HB_6 K0 SK x0_6 x1_6 y0_6 y1_6 a0_6 a1_6 b0_6 b1_6
  have nz_7 : w.heap.size ≤ w7.heap.size := HB_7.out.size
  go_wp2_with fail
  refine (HSan.out _ (by repeat (first | exact HB_7.out | refine Below.drew ?_ | refine Below.setCell ?_ (by first | omega | (simp; done) | (simp; omega)) _ | refine Below.alloc ?_ (by first | omega | (simp; done) | (simp; omega)) _))).mono ?_
  rintro e w8 ⟨rfl, hb8⟩
  have y0_8 : w8.cell? ⟨w.heap.size + 1, 0, none⟩ = some (.int .i64 k) := carry hb8 (by go_simp)
  have y1_8 : w8.cell? ⟨w.heap.size + 1, 1, none⟩ = some (.int .i64 f) := carry hb8 (by go_simp)
  have yz_8 : w.heap.size + 1 < w8.heap.size := by have := hb8.size; first | omega | (simp at this; omega)
  have b0_8 : w8.cell? ⟨w2.heap.size, 0, none⟩ = some (.int .i64 0) := carry hb8 (by go_simp)
  have b1_8 : w8.cell? ⟨w2.heap.size, 1, none⟩ = some (.int .i64 0) := carry hb8 (by go_simp)
  have bz_8 : w2.heap.size < w8.heap.size := by have := hb8.size; first | omega | (simp at this; omega)
  have HB_8 := Lib.hid ((by repeat (first | exact HB_7.out | refine Below.drew ?_ | refine Below.setCell ?_ (by first | omega | (simp; done) | (simp; omega)) _ | refine Below.alloc ?_ (by first | omega | (simp; done) | (simp; omega)) _) : Below w.heap.size w _).trans (hb8.mono (by first | omega | (simp; done) | (simp; omega))))
  have nz_8 : w.heap.size ≤ w8.heap.size := HB_8.out.size
  clear hb8 x0_7 x1_7 y0_7 y1_7 a0_7 a1_7 b0_7 b1_7 HB_7
  go_wp2_with fail
  go_ret
  exact ⟨rfl, by repeat (first | exact HB_8.out | refine Below.drew ?_ | refine Below.setCell ?_ (by first | omega | (simp; done) | (simp; omega)) _ | refine Below.alloc ?_ (by first | omega | (simp; done) | (simp; omega)) _)⟩

set_option maxRecDepth 100000 in
set_option maxHeartbeats 8000000 in
theorem p_full (m e k f am ae ax bm be bx cm ce pm pe qm qe : Int) (po qo : Bool) (w : World) (hm : ¬ m < 0) (hk : ¬ k = 0) (HMul : Hid (∀ W : World, Calls Tryz.prog 25 #[realV m e, realV k f] W fun r w' => r = .returned (rE am ae ax) ∧ Below W.heap.size W w')) (HDiv : Hid (∀ W : World, Calls Tryz.prog 26 #[realV m e, realV k f] W fun r w' => r = .returned (rE bm be bx) ∧ Below W.heap.size W w')) (HSq : Hid (∀ W : World, Calls Tryz.prog 27 #[realV m e] W fun r w' => r = .returned (rE cm ce 0) ∧ Below W.heap.size W w')) (HVx : Hid (∀ W : World, Calls Tryz.prog 13 #[realV m e] W fun r w' => r = .returned (.bool true) ∧ Below W.heap.size W w')) (HVy : Hid (∀ W : World, Calls Tryz.prog 13 #[realV k f] W fun r w' => r = .returned (.bool true) ∧ Below W.heap.size W w')) (HSan : Hid (∀ W, Below w.heap.size w W → Calls Tryz.prog 20 #[] W fun r W' => r = .returned (.bool true) ∧ Below W.heap.size W W')) (HRq : Hid (∀ W : World, Calls Tryz.prog 28 #[realV m e] W fun r w' => r = .returned (realV cm ce) ∧ Below W.heap.size W w')) (HIs : Hid (∀ W : World, Calls Tryz.prog 8 #[realV cm ce, .int .i64 0, realV cm ce] W fun r w' => r = .returned (.bool true) ∧ Below W.heap.size W w')) (HRM : Hid (∀ W : World, Calls Tryz.prog 30 #[realV m e, realV k f] W fun r w' => r = .returned (.agg #[.int .i64 pm, .int .i64 pe, .bool po]) ∧ Below W.heap.size W w')) (HO1 : Hid (∀ W : World, Calls Tryz.prog 29 #[realV am ae, .int .i64 ax, .agg #[.int .i64 pm, .int .i64 pe, .bool po]] W fun r w' => r = .returned (.bool true) ∧ Below W.heap.size W w')) (HRD : Hid (∀ W : World, Calls Tryz.prog 31 #[realV m e, realV k f] W fun r w' => r = .returned (.agg #[.int .i64 qm, .int .i64 qe, .bool qo]) ∧ Below W.heap.size W w')) (HO2 : Hid (∀ W : World, Calls Tryz.prog 29 #[realV bm be, .int .i64 bx, .agg #[.int .i64 qm, .int .i64 qe, .bool qo]] W fun r w' => r = .returned (.bool true) ∧ Below W.heap.size W w'))  :
    Calls Tryz.prog 4 #[realV m e, realV k f] w fun r w' => r = .returned (.bool true) ∧ Below w.heap.size w w' := by
  go_enter Tryz.func4, Tryz.ntmps4
  go_wp2_with fail
  refine (HMul.out _).mono ?_
  rintro e w1 ⟨rfl, hb1⟩
  have x0_1 : w1.cell? ⟨w.heap.size, 0, none⟩ = some (.int .i64 m) := carry hb1 (by go_simp)
  have x1_1 : w1.cell? ⟨w.heap.size, 1, none⟩ = some (.int .i64 e) := carry hb1 (by go_simp)
  have xz_1 : w.heap.size < w1.heap.size := by have := hb1.size; first | omega | (simp at this; omega)
  have y0_1 : w1.cell? ⟨w.heap.size + 1, 0, none⟩ = some (.int .i64 k) := carry hb1 (by go_simp)
  have y1_1 : w1.cell? ⟨w.heap.size + 1, 1, none⟩ = some (.int .i64 f) := carry hb1 (by go_simp)
  have yz_1 : w.heap.size + 1 < w1.heap.size := by have := hb1.size; first | omega | (simp at this; omega)
  have HB_1 := Lib.hid ((by repeat (first | exact Below.refl _ _ | refine Below.drew ?_ | refine Below.setCell ?_ (by first | omega | (simp; done) | (simp; omega)) _ | refine Below.alloc ?_ (by first | omega | (simp; done) | (simp; omega)) _) : Below w.heap.size w _).trans (hb1.mono (by first | omega | (simp; done) | (simp; omega))))
  have nz_1 : w.heap.size ≤ w1.heap.size := HB_1.out.size
  clear hb1
  go_wp2_with fail
  refine (HDiv.out _).mono ?_
  rintro e w2 ⟨rfl, hb2⟩
  have x0_2 : w2.cell? ⟨w.heap.size, 0, none⟩ = some (.int .i64 m) := carry hb2 (by go_simp)
  have x1_2 : w2.cell? ⟨w.heap.size, 1, none⟩ = some (.int .i64 e) := carry hb2 (by go_simp)
  have xz_2 : w.heap.size < w2.heap.size := by have := hb2.size; first | omega | (simp at this; omega)
  have y0_2 : w2.cell? ⟨w.heap.size + 1, 0, none⟩ = some (.int .i64 k) := carry hb2 (by go_simp)
  have y1_2 : w2.cell? ⟨w.heap.size + 1, 1, none⟩ = some (.int .i64 f) := carry hb2 (by go_simp)
  have yz_2 : w.heap.size + 1 < w2.heap.size := by have := hb2.size; first | omega | (simp at this; omega)
  have a0_2 : w2.cell? ⟨w1.heap.size, 0, none⟩ = some (.int .i64 am) := carry hb2 (by go_simp)
  have a1_2 : w2.cell? ⟨w1.heap.size, 1, none⟩ = some (.int .i64 ae) := carry hb2 (by go_simp)
  have az_2 : w1.heap.size < w2.heap.size := by have := hb2.size; first | omega | (simp at this; omega)
  have HB_2 := Lib.hid ((by repeat (first | exact HB_1.out | refine Below.drew ?_ | refine Below.setCell ?_ (by first | omega | (simp; done) | (simp; omega)) _ | refine Below.alloc ?_ (by first | omega | (simp; done) | (simp; omega)) _) : Below w.heap.size w _).trans (hb2.mono (by first | omega | (simp; done) | (simp; omega))))
  have nz_2 : w.heap.size ≤ w2.heap.size := HB_2.out.size
  clear hb2 x0_1 x1_1 y0_1 y1_1 HB_1
  go_wp2_with fail
  refine (HSq.out _).mono ?_
  rintro e w3 ⟨rfl, hb3⟩
  have x0_3 : w3.cell? ⟨w.heap.size, 0, none⟩ = some (.int .i64 m) := carry hb3 (by go_simp)
  have x1_3 : w3.cell? ⟨w.heap.size, 1, none⟩ = some (.int .i64 e) := carry hb3 (by go_simp)
  have xz_3 : w.heap.size < w3.heap.size := by have := hb3.size; first | omega | (simp at this; omega)
  have y0_3 : w3.cell? ⟨w.heap.size + 1, 0, none⟩ = some (.int .i64 k) := carry hb3 (by go_simp)
  have y1_3 : w3.cell? ⟨w.heap.size + 1, 1, none⟩ = some (.int .i64 f) := carry hb3 (by go_simp)
  have yz_3 : w.heap.size + 1 < w3.heap.size := by have := hb3.size; first | omega | (simp at this; omega)
  have a0_3 : w3.cell? ⟨w1.heap.size, 0, none⟩ = some (.int .i64 am) := carry hb3 (by go_simp)
  have a1_3 : w3.cell? ⟨w1.heap.size, 1, none⟩ = some (.int .i64 ae) := carry hb3 (by go_simp)
  have az_3 : w1.heap.size < w3.heap.size := by have := hb3.size; first | omega | (simp at this; omega)
  have b0_3 : w3.cell? ⟨w2.heap.size, 0, none⟩ = some (.int .i64 bm) := carry hb3 (by go_simp)
  have b1_3 : w3.cell? ⟨w2.heap.size, 1, none⟩ = some (.int .i64 be) := carry hb3 (by go_simp)
  have bz_3 : w2.heap.size < w3.heap.size := by have := hb3.size; first | omega | (simp at this; omega)
  have HB_3 := Lib.hid ((by repeat (first | exact HB_2.out | refine Below.drew ?_ | refine Below.setCell ?_ (by first | omega | (simp; done) | (simp; omega)) _ | refine Below.alloc ?_ (by first | omega | (simp; done) | (simp; omega)) _) : Below w.heap.size w _).trans (hb3.mono (by first | omega | (simp; done) | (simp; omega))))
  have nz_3 : w.heap.size ≤ w3.heap.size := HB_3.out.size
  clear hb3 x0_2 x1_2 y0_2 y1_2 a0_2 a1_2 HB_2
  go_wp2_with fail
  refine (HVx.out _).mono ?_
  rintro e w4 ⟨rfl, hb4⟩
  have x0_4 : w4.cell? ⟨w.heap.size, 0, none⟩ = some (.int .i64 m) := carry hb4 (by go_simp)
  have x1_4 : w4.cell? ⟨w.heap.size, 1, none⟩ = some (.int .i64 e) := carry hb4 (by go_simp)
  have xz_4 : w.heap.size < w4.heap.size := by have := hb4.size; first | omega | (simp at this; omega)
  have y0_4 : w4.cell? ⟨w.heap.size + 1, 0, none⟩ = some (.int .i64 k) := carry hb4 (by go_simp)
  have y1_4 : w4.cell? ⟨w.heap.size + 1, 1, none⟩ = some (.int .i64 f) := carry hb4 (by go_simp)
  have yz_4 : w.heap.size + 1 < w4.heap.size := by have := hb4.size; first | omega | (simp at this; omega)
  have a0_4 : w4.cell? ⟨w1.heap.size, 0, none⟩ = some (.int .i64 am) := carry hb4 (by go_simp)
  have a1_4 : w4.cell? ⟨w1.heap.size, 1, none⟩ = some (.int .i64 ae) := carry hb4 (by go_simp)
  have az_4 : w1.heap.size < w4.heap.size := by have := hb4.size; first | omega | (simp at this; omega)
  have b0_4 : w4.cell? ⟨w2.heap.size, 0, none⟩ = some (.int .i64 bm) := carry hb4 (by go_simp)
  have b1_4 : w4.cell? ⟨w2.heap.size, 1, none⟩ = some (.int .i64 be) := carry hb4 (by go_simp)
  have bz_4 : w2.heap.size < w4.heap.size := by have := hb4.size; first | omega | (simp at this; omega)
  have c0_4 : w4.cell? ⟨w3.heap.size, 0, none⟩ = some (.int .i64 cm) := carry hb4 (by go_simp)
  have c1_4 : w4.cell? ⟨w3.heap.size, 1, none⟩ = some (.int .i64 ce) := carry hb4 (by go_simp)
  have cz_4 : w3.heap.size < w4.heap.size := by have := hb4.size; first | omega | (simp at this; omega)
  have HB_4 := Lib.hid ((by repeat (first | exact HB_3.out | refine Below.drew ?_ | refine Below.setCell ?_ (by first | omega | (simp; done) | (simp; omega)) _ | refine Below.alloc ?_ (by first | omega | (simp; done) | (simp; omega)) _) : Below w.heap.size w _).trans (hb4.mono (by first | omega | (simp; done) | (simp; omega))))
  have nz_4 : w.heap.size ≤ w4.heap.size := HB_4.out.size
  clear hb4 x0_3 x1_3 y0_3 y1_3 a0_3 a1_3 b0_3 b1_3 HB_3
  have K0 := Lib.hid (Below.refl w4.heap.size w4)
  have SK := Lib.hid (show ∀ wx, Below w4.heap.size w4 wx → wx.cell? ⟨w.heap.size, 0, none⟩ = some (.int .i64 m) ∧ wx.cell? ⟨w.heap.size, 1, none⟩ = some (.int .i64 e) ∧ w.heap.size < wx.heap.size ∧ wx.cell? ⟨w.heap.size + 1, 0, none⟩ = some (.int .i64 k) ∧ wx.cell? ⟨w.heap.size + 1, 1, none⟩ = some (.int .i64 f) ∧ w.heap.size + 1 < wx.heap.size ∧ wx.cell? ⟨w1.heap.size, 0, none⟩ = some (.int .i64 am) ∧ wx.cell? ⟨w1.heap.size, 1, none⟩ = some (.int .i64 ae) ∧ w1.heap.size < wx.heap.size ∧ wx.cell? ⟨w2.heap.size, 0, none⟩ = some (.int .i64 bm) ∧ wx.cell? ⟨w2.heap.size, 1, none⟩ = some (.int .i64 be) ∧ w2.heap.size < wx.heap.size ∧ wx.cell? ⟨w3.heap.size, 0, none⟩ = some (.int .i64 cm) ∧ wx.cell? ⟨w3.heap.size, 1, none⟩ = some (.int .i64 ce) ∧ w3.heap.size < wx.heap.size ∧ Below w4.heap.size w4 wx from fun wx h => ⟨carry h x0_4, carry h x1_4, Nat.lt_of_lt_of_le xz_4 h.size, carry h y0_4, carry h y1_4, Nat.lt_of_lt_of_le yz_4 h.size, carry h a0_4, carry h a1_4, Nat.lt_of_lt_of_le az_4 h.size, carry h b0_4, carry h b1_4, Nat.lt_of_lt_of_le bz_4 h.size, carry h c0_4, carry h c1_4, Nat.lt_of_lt_of_le cz_4 h.size, h⟩)
  go_wp2_with fail
  go_region_held3 (fun wx => wx.cell? ⟨w.heap.size, 0, none⟩ = some (.int .i64 m) ∧ wx.cell? ⟨w.heap.size, 1, none⟩ = some (.int .i64 e) ∧ w.heap.size < wx.heap.size ∧ wx.cell? ⟨w.heap.size + 1, 0, none⟩ = some (.int .i64 k) ∧ wx.cell? ⟨w.heap.size + 1, 1, none⟩ = some (.int .i64 f) ∧ w.heap.size + 1 < wx.heap.size ∧ wx.cell? ⟨w1.heap.size, 0, none⟩ = some (.int .i64 am) ∧ wx.cell? ⟨w1.heap.size, 1, none⟩ = some (.int .i64 ae) ∧ w1.heap.size < wx.heap.size ∧ wx.cell? ⟨w2.heap.size, 0, none⟩ = some (.int .i64 bm) ∧ wx.cell? ⟨w2.heap.size, 1, none⟩ = some (.int .i64 be) ∧ w2.heap.size < wx.heap.size ∧ wx.cell? ⟨w3.heap.size, 0, none⟩ = some (.int .i64 cm) ∧ wx.cell? ⟨w3.heap.size, 1, none⟩ = some (.int .i64 ce) ∧ w3.heap.size < wx.heap.size ∧ Below w4.heap.size w4 wx) (first | (go_keep; done) | exact SK.out _ (by first | with_reducible assumption | with_reducible exact K0.out | with_reducible exact K0.out.drew | with_reducible exact Below.drew (by with_reducible assumption)))
    (first
      | (go_at_call 28; ((with_reducible refine (HRq.out _).mono ?_); rintro r wq ⟨rfl, hbq⟩; have qb : Below w4.heap.size w4 wq := Below.trans (by first | with_reducible assumption | with_reducible exact K0.out | with_reducible exact K0.out.drew | with_reducible exact Below.drew (by with_reducible assumption)) (hbq.mono (Below.size (by first | with_reducible assumption | with_reducible exact K0.out | with_reducible exact K0.out.drew | with_reducible exact Below.drew (by with_reducible assumption))))))
      | (go_at_call 8; ((with_reducible refine (HIs.out _).mono ?_); rintro r wq ⟨rfl, hbq⟩; have qb : Below w4.heap.size w4 wq := Below.trans (by first | with_reducible assumption | with_reducible exact K0.out | with_reducible exact K0.out.drew | with_reducible exact Below.drew (by with_reducible assumption)) (hbq.mono (Below.size (by first | with_reducible assumption | with_reducible exact K0.out | with_reducible exact K0.out.drew | with_reducible exact Below.drew (by with_reducible assumption)))))))
  rename _ ∧ _ ∧ _ ∧ _ ∧ _ ∧ _ ∧ _ ∧ _ ∧ _ ∧ _ ∧ _ ∧ _ ∧ _ ∧ _ ∧ _ ∧ Below w4.heap.size w4 _ => hS
  obtain ⟨w5, rfl⟩ : ∃ x, x = wq := ⟨_, rfl⟩
  obtain ⟨x0_5, x1_5, xz_5, y0_5, y1_5, yz_5, a0_5, a1_5, az_5, b0_5, b1_5, bz_5, c0_5, c1_5, cz_5, xb⟩ := hS
  have HB_5 := Lib.hid (HB_4.out.trans (xb.mono HB_4.out.size))
  clear xb HB_4 K0 SK x0_4 x1_4 y0_4 y1_4 a0_4 a1_4 b0_4 b1_4 c0_4 c1_4
  have nz_5 : w.heap.size ≤ w5.heap.size := HB_5.out.size
  go_wp2_with fail
  refine (HVy.out _).mono ?_
  rintro e w6 ⟨rfl, hb6⟩
  have x0_6 : w6.cell? ⟨w.heap.size, 0, none⟩ = some (.int .i64 m) := carry hb6 (by go_simp)
  have x1_6 : w6.cell? ⟨w.heap.size, 1, none⟩ = some (.int .i64 e) := carry hb6 (by go_simp)
  have xz_6 : w.heap.size < w6.heap.size := by have := hb6.size; first | omega | (simp at this; omega)
  have y0_6 : w6.cell? ⟨w.heap.size + 1, 0, none⟩ = some (.int .i64 k) := carry hb6 (by go_simp)
  have y1_6 : w6.cell? ⟨w.heap.size + 1, 1, none⟩ = some (.int .i64 f) := carry hb6 (by go_simp)
  have yz_6 : w.heap.size + 1 < w6.heap.size := by have := hb6.size; first | omega | (simp at this; omega)
  have a0_6 : w6.cell? ⟨w1.heap.size, 0, none⟩ = some (.int .i64 am) := carry hb6 (by go_simp)
  have a1_6 : w6.cell? ⟨w1.heap.size, 1, none⟩ = some (.int .i64 ae) := carry hb6 (by go_simp)
  have az_6 : w1.heap.size < w6.heap.size := by have := hb6.size; first | omega | (simp at this; omega)
  have b0_6 : w6.cell? ⟨w2.heap.size, 0, none⟩ = some (.int .i64 bm) := carry hb6 (by go_simp)
  have b1_6 : w6.cell? ⟨w2.heap.size, 1, none⟩ = some (.int .i64 be) := carry hb6 (by go_simp)
  have bz_6 : w2.heap.size < w6.heap.size := by have := hb6.size; first | omega | (simp at this; omega)
  have HB_6 := Lib.hid ((by repeat (first | exact HB_5.out | refine Below.drew ?_ | refine Below.setCell ?_ (by first | omega | (simp; done) | (simp; omega)) _ | refine Below.alloc ?_ (by first | omega | (simp; done) | (simp; omega)) _) : Below w.heap.size w _).trans (hb6.mono (by first | omega | (simp; done) | (simp; omega))))
  have nz_6 : w.heap.size ≤ w6.heap.size := HB_6.out.size
  clear hb6 x0_5 x1_5 y0_5 y1_5 a0_5 a1_5 b0_5 b1_5 c0_5 c1_5 HB_5
  have K0 := Lib.hid (Below.refl w6.heap.size w6)
  have SK := Lib.hid (show ∀ wx, Below w6.heap.size w6 wx → wx.cell? ⟨w.heap.size, 0, none⟩ = some (.int .i64 m) ∧ wx.cell? ⟨w.heap.size, 1, none⟩ = some (.int .i64 e) ∧ w.heap.size < wx.heap.size ∧ wx.cell? ⟨w.heap.size + 1, 0, none⟩ = some (.int .i64 k) ∧ wx.cell? ⟨w.heap.size + 1, 1, none⟩ = some (.int .i64 f) ∧ w.heap.size + 1 < wx.heap.size ∧ wx.cell? ⟨w1.heap.size, 0, none⟩ = some (.int .i64 am) ∧ wx.cell? ⟨w1.heap.size, 1, none⟩ = some (.int .i64 ae) ∧ w1.heap.size < wx.heap.size ∧ wx.cell? ⟨w2.heap.size, 0, none⟩ = some (.int .i64 bm) ∧ wx.cell? ⟨w2.heap.size, 1, none⟩ = some (.int .i64 be) ∧ w2.heap.size < wx.heap.size ∧ Below w6.heap.size w6 wx from fun wx h => ⟨carry h x0_6, carry h x1_6, Nat.lt_of_lt_of_le xz_6 h.size, carry h y0_6, carry h y1_6, Nat.lt_of_lt_of_le yz_6 h.size, carry h a0_6, carry h a1_6, Nat.lt_of_lt_of_le az_6 h.size, carry h b0_6, carry h b1_6, Nat.lt_of_lt_of_le bz_6 h.size, h⟩)
  go_wp2_with fail
  go_region_held3 (fun wx => wx.cell? ⟨w.heap.size, 0, none⟩ = some (.int .i64 m) ∧ wx.cell? ⟨w.heap.size, 1, none⟩ = some (.int .i64 e) ∧ w.heap.size < wx.heap.size ∧ wx.cell? ⟨w.heap.size + 1, 0, none⟩ = some (.int .i64 k) ∧ wx.cell? ⟨w.heap.size + 1, 1, none⟩ = some (.int .i64 f) ∧ w.heap.size + 1 < wx.heap.size ∧ wx.cell? ⟨w1.heap.size, 0, none⟩ = some (.int .i64 am) ∧ wx.cell? ⟨w1.heap.size, 1, none⟩ = some (.int .i64 ae) ∧ w1.heap.size < wx.heap.size ∧ wx.cell? ⟨w2.heap.size, 0, none⟩ = some (.int .i64 bm) ∧ wx.cell? ⟨w2.heap.size, 1, none⟩ = some (.int .i64 be) ∧ w2.heap.size < wx.heap.size ∧ Below w6.heap.size w6 wx) (first | (go_keep; done) | exact SK.out _ (by first | with_reducible assumption | with_reducible exact K0.out | with_reducible exact K0.out.drew | with_reducible exact Below.drew (by with_reducible assumption)))
    (first
      | (go_at_call 30; ((with_reducible refine (HRM.out _).mono ?_); rintro r wq ⟨rfl, hbq⟩; have qb : Below w6.heap.size w6 wq := Below.trans (by first | with_reducible assumption | with_reducible exact K0.out | with_reducible exact K0.out.drew | with_reducible exact Below.drew (by with_reducible assumption)) (hbq.mono (Below.size (by first | with_reducible assumption | with_reducible exact K0.out | with_reducible exact K0.out.drew | with_reducible exact Below.drew (by with_reducible assumption))))))
      | (go_at_call 29; ((with_reducible refine (HO1.out _).mono ?_); rintro r wq ⟨rfl, hbq⟩; have qb : Below w6.heap.size w6 wq := Below.trans (by first | with_reducible assumption | with_reducible exact K0.out | with_reducible exact K0.out.drew | with_reducible exact Below.drew (by with_reducible assumption)) (hbq.mono (Below.size (by first | with_reducible assumption | with_reducible exact K0.out | with_reducible exact K0.out.drew | with_reducible exact Below.drew (by with_reducible assumption)))))))
  rename _ ∧ _ ∧ _ ∧ _ ∧ _ ∧ _ ∧ _ ∧ _ ∧ _ ∧ _ ∧ _ ∧ _ ∧ Below w6.heap.size w6 _ => hS
  obtain ⟨w7, rfl⟩ : ∃ x, x = wq := ⟨_, rfl⟩
  obtain ⟨x0_7, x1_7, xz_7, y0_7, y1_7, yz_7, a0_7, a1_7, az_7, b0_7, b1_7, bz_7, xb⟩ := hS
  have HB_7 := Lib.hid (HB_6.out.trans (xb.mono HB_6.out.size))
  clear xb HB_6 K0 SK x0_6 x1_6 y0_6 y1_6 a0_6 a1_6 b0_6 b1_6
  have nz_7 : w.heap.size ≤ w7.heap.size := HB_7.out.size
  have K0 := Lib.hid (Below.refl w7.heap.size w7)
  have SK := Lib.hid (show ∀ wx, Below w7.heap.size w7 wx → wx.cell? ⟨w.heap.size, 0, none⟩ = some (.int .i64 m) ∧ wx.cell? ⟨w.heap.size, 1, none⟩ = some (.int .i64 e) ∧ w.heap.size < wx.heap.size ∧ wx.cell? ⟨w.heap.size + 1, 0, none⟩ = some (.int .i64 k) ∧ wx.cell? ⟨w.heap.size + 1, 1, none⟩ = some (.int .i64 f) ∧ w.heap.size + 1 < wx.heap.size ∧ wx.cell? ⟨w2.heap.size, 0, none⟩ = some (.int .i64 bm) ∧ wx.cell? ⟨w2.heap.size, 1, none⟩ = some (.int .i64 be) ∧ w2.heap.size < wx.heap.size from fun wx h => ⟨carry h x0_7, carry h x1_7, Nat.lt_of_lt_of_le xz_7 h.size, carry h y0_7, carry h y1_7, Nat.lt_of_lt_of_le yz_7 h.size, carry h b0_7, carry h b1_7, Nat.lt_of_lt_of_le bz_7 h.size⟩)
  go_wp2_with fail
  go_region_held3 (fun wx => wx.cell? ⟨w.heap.size, 0, none⟩ = some (.int .i64 m) ∧ wx.cell? ⟨w.heap.size, 1, none⟩ = some (.int .i64 e) ∧ w.heap.size < wx.heap.size ∧ wx.cell? ⟨w.heap.size + 1, 0, none⟩ = some (.int .i64 k) ∧ wx.cell? ⟨w.heap.size + 1, 1, none⟩ = some (.int .i64 f) ∧ w.heap.size + 1 < wx.heap.size ∧ wx.cell? ⟨w2.heap.size, 0, none⟩ = some (.int .i64 bm) ∧ wx.cell? ⟨w2.heap.size, 1, none⟩ = some (.int .i64 be) ∧ w2.heap.size < wx.heap.size) (first | (go_keep; done) | exact SK.out _ (by first | with_reducible assumption | with_reducible exact K0.out | with_reducible exact K0.out.drew | with_reducible exact Below.drew (by with_reducible assumption)))
    (first
      | (go_at_call 20; ((with_reducible refine (HSan.out _ (HB_7.out.trans (Below.mono (by first | with_reducible assumption | with_reducible exact K0.out | with_reducible exact K0.out.drew | with_reducible exact Below.drew (by with_reducible assumption)) nz_7))).mono ?_); rintro r wq ⟨rfl, hbq⟩; have qb : Below w7.heap.size w7 wq := Below.trans (by first | with_reducible assumption | with_reducible exact K0.out | with_reducible exact K0.out.drew | with_reducible exact Below.drew (by with_reducible assumption)) (hbq.mono (Below.size (by first | with_reducible assumption | with_reducible exact K0.out | with_reducible exact K0.out.drew | with_reducible exact Below.drew (by with_reducible assumption))))))
      | (go_at_call 31; ((with_reducible refine (HRD.out _).mono ?_); rintro r wq ⟨rfl, hbq⟩; have qb : Below w7.heap.size w7 wq := Below.trans (by first | with_reducible assumption | with_reducible exact K0.out | with_reducible exact K0.out.drew | with_reducible exact Below.drew (by with_reducible assumption)) (hbq.mono (Below.size (by first | with_reducible assumption | with_reducible exact K0.out | with_reducible exact K0.out.drew | with_reducible exact Below.drew (by with_reducible assumption))))))
      | (go_at_call 29; ((with_reducible refine (HO2.out _).mono ?_); rintro r wq ⟨rfl, hbq⟩; have qb : Below w7.heap.size w7 wq := Below.trans (by first | with_reducible assumption | with_reducible exact K0.out | with_reducible exact K0.out.drew | with_reducible exact Below.drew (by with_reducible assumption)) (hbq.mono (Below.size (by first | with_reducible assumption | with_reducible exact K0.out | with_reducible exact K0.out.drew | with_reducible exact Below.drew (by with_reducible assumption)))))))
  go_wp2_with fail
  go_ret
  exact ⟨rfl, HB_7.out.trans (qb.mono nz_7)⟩

theorem rnd_oR (I : Int) (w : World) :
    Calls Tryz.prog 29 #[realV (oM I) (oE I), .int .i64 (oX I), rrV I] w fun r w' => r = .returned (.bool true) ∧ Below w.heap.size w w' := by
  unfold oM oE oX rrV
  by_cases h : -2533359615 ≤ I ∧ I ≤ 2533359615
  · rw [if_pos h, if_pos h, if_pos h, decide_eq_true h]
    have := rnd_yes (aM I) (aE I) w
    simpa only [oM, oE, if_pos h] using this
  · rw [if_neg h, if_neg h, if_neg h, decide_eq_false h]
    have := rnd_no w
    simpa only [oM, oE, if_neg h] using this

theorem run (m e k f : Int) (w : World) (w0 : (Lit.int .i64 m).wf = true) (w1 : (Lit.int .i64 e).wf = true) (w2 : (Lit.int .i64 k).wf = true) (w3 : (Lit.int .i64 f).wf = true) (hP : P10 w) (hQ : TabQ w) :
    Calls Tryz.prog 4 #[realV m e, realV k f] w fun r w' => r = .returned (.bool true) ∧ Below w.heap.size w w' := by
  have HS := hsan w hP hQ
  have hb : -9223372036854775808 ≤ m ∧ m ≤ 9223372036854775807 := by simpa [Lit.wf, IntKind.min, IntKind.max, IntKind.signed, IntKind.bits] using w0
  have hk0 : -9223372036854775808 ≤ k ∧ k ≤ 9223372036854775807 := by simpa [Lit.wf, IntKind.min, IntKind.max, IntKind.signed, IntKind.bits] using w2
  have HVx : Hid (∀ W : World, Calls Tryz.prog 13 #[realV m e] W fun r w' => r = .returned (.bool (vr m e)) ∧ Below W.heap.size W w') := Lib.hid (fun W => rvalid_any m e W hb.1 hb.2)
  have HVy : Hid (∀ W : World, Calls Tryz.prog 13 #[realV k f] W fun r w' => r = .returned (.bool (vr k f)) ∧ Below W.heap.size W w') := Lib.hid (fun W => rvalid_any k f W hk0.1 hk0.2)
  cases hv : vr m e
  · rw [hv] at HVx
    have hx : (vr m e && vr k f) = false := by rw [hv]; rfl
    exact bad_x m e k f w (Lib.hid (fun W => mul_bad m e k f W (Lib.hid hx) hb hk0)) (Lib.hid (fun W => div_bad m e k f W (Lib.hid hx) hb hk0)) (Lib.hid (fun W => sqrt_bad m e W (Lib.hid hv) hb.1 hb.2)) HVx HS
  · rw [hv] at HVx
    by_cases hm : m < 0
    · skip
      cases hu : vr k f
      · rw [hu] at HVy
        have hx : (vr m e && vr k f) = false := by rw [hv, hu]; rfl
        exact n_bad m e k f 0 0 0 0 0 0 0 0 0 0 0 0 false false w hm (Lib.hid (fun W => mul_bad m e k f W (Lib.hid hx) hb hk0)) (Lib.hid (fun W => div_bad m e k f W (Lib.hid hx) hb hk0)) (Lib.hid (fun W => sqrt_neg m e W (Lib.hid hv) hm)) HVx HVy HS 
      · rw [hu] at HVy
        have hx : (vr m e && vr k f) = true := by rw [hv, hu]; rfl
        have HM : Hid (∀ W : World, Calls Tryz.prog 25 #[realV m e, realV k f] W fun r w' => r = .returned (oR (RI (UU m e * UU k f) 150)) ∧ Below W.heap.size W w') := Lib.hid (fun W => by
          have h := mul_ok m e k f W (Lib.hid hx)
          rwa [mul_i hv hu] at h)
        by_cases hk : k = 0
        · have hf : f = 0 := by
            have h9 := vr_iff.1 hu
            rw [hk] at h9
            simp only [ab] at h9
            omega
          have hz : decide (k = 0 ∧ f = 0) = true := by rw [hk, hf]; rfl
          exact n_zero m e k f _ _ _ 0 0 0 0 0 _ _ 0 0 _ false w hm (by rw [hk]; rfl) HM (Lib.hid (fun W => div_none m e k f W (Lib.hid hx) (Lib.hid hz))) (Lib.hid (fun W => sqrt_neg m e W (Lib.hid hv) hm)) HVx HVy HS (Lib.hid (fun W => rmul_any m e k f W hv hu)) (Lib.hid (fun W => rnd_oR _ W)) 
        · have HD : Hid (∀ W : World, Calls Tryz.prog 26 #[realV m e, realV k f] W fun r w' => r = .returned (oR (rI (quM m k) (quE m e f))) ∧ Below W.heap.size W w') := Lib.hid (fun W => by
            have h := div_ok m e k f W (Lib.hid hx) (Lib.hid (by simp [hk])) hk
            rwa [oV_oR] at h)
          exact n_full m e k f _ _ _ _ _ _ 0 0 _ _ _ _ _ _ w hm hk HM HD (Lib.hid (fun W => sqrt_neg m e W (Lib.hid hv) hm)) HVx HVy HS (Lib.hid (fun W => rmul_any m e k f W hv hu)) (Lib.hid (fun W => rnd_oR _ W)) (Lib.hid (fun W => rdiv_any m e k f W hv hu hk)) (Lib.hid (fun W => rnd_oR _ W)) 
    · have hU := si_le hv
      have h0 : 0 ≤ SI (UU m e) := by unfold SI; exact Int.natCast_nonneg _
      have HSq : Hid (∀ W : World, Calls Tryz.prog 27 #[realV m e] W fun r w' => r = .returned (rE (oM (SI (UU m e))) (oE (SI (UU m e))) 0) ∧ Below W.heap.size W w') := Lib.hid (fun W => by
        have h := sqrt_ok m e W (Lib.hid hv) hm
        rw [oV_oR, sq_val hv (by omega)] at h
        have hx9 : oX (SI (UU m e)) = 0 := by unfold oX; rw [if_pos ⟨by omega, hU⟩]
        rwa [show oR (SI (UU m e)) = rE (oM (SI (UU m e))) (oE (SI (UU m e))) (oX (SI (UU m e))) from rfl, hx9] at h)
      have HRq : Hid (∀ W : World, Calls Tryz.prog 28 #[realV m e] W fun r w' => r = .returned (realV (oM (SI (UU m e))) (oE (SI (UU m e)))) ∧ Below W.heap.size W w') := Lib.hid (fun W => rsqrt_any m e W hv (by omega))
      cases hu : vr k f
      · rw [hu] at HVy
        have hx : (vr m e && vr k f) = false := by rw [hv, hu]; rfl
        exact p_bad m e k f 0 0 0 0 0 0 _ _ 0 0 0 0 false false w hm (Lib.hid (fun W => mul_bad m e k f W (Lib.hid hx) hb hk0)) (Lib.hid (fun W => div_bad m e k f W (Lib.hid hx) hb hk0)) HSq HVx HVy HS HRq (Lib.hid (fun W => is_yes _ _ W)) 
      · rw [hu] at HVy
        have hx : (vr m e && vr k f) = true := by rw [hv, hu]; rfl
        have HM : Hid (∀ W : World, Calls Tryz.prog 25 #[realV m e, realV k f] W fun r w' => r = .returned (oR (RI (UU m e * UU k f) 150)) ∧ Below W.heap.size W w') := Lib.hid (fun W => by
          have h := mul_ok m e k f W (Lib.hid hx)
          rwa [mul_i hv hu] at h)
        by_cases hk : k = 0
        · have hf : f = 0 := by
            have h9 := vr_iff.1 hu
            rw [hk] at h9
            simp only [ab] at h9
            omega
          have hz : decide (k = 0 ∧ f = 0) = true := by rw [hk, hf]; rfl
          exact p_zero m e k f _ _ _ 0 0 0 _ _ _ _ 0 0 _ false w hm (by rw [hk]; rfl) HM (Lib.hid (fun W => div_none m e k f W (Lib.hid hx) (Lib.hid hz))) HSq HVx HVy HS HRq (Lib.hid (fun W => is_yes _ _ W)) (Lib.hid (fun W => rmul_any m e k f W hv hu)) (Lib.hid (fun W => rnd_oR _ W)) 
        · have HD : Hid (∀ W : World, Calls Tryz.prog 26 #[realV m e, realV k f] W fun r w' => r = .returned (oR (rI (quM m k) (quE m e f))) ∧ Below W.heap.size W w') := Lib.hid (fun W => by
            have h := div_ok m e k f W (Lib.hid hx) (Lib.hid (by simp [hk])) hk
            rwa [oV_oR] at h)
          exact p_full m e k f _ _ _ _ _ _ _ _ _ _ _ _ _ _ w hm hk HM HD HSq HVx HVy HS HRq (Lib.hid (fun W => is_yes _ _ W)) (Lib.hid (fun W => rmul_any m e k f W hv hu)) (Lib.hid (fun W => rnd_oR _ W)) (Lib.hid (fun W => rdiv_any m e k f W hv hu hk)) (Lib.hid (fun W => rnd_oR _ W)) 

end Go.Proofs.YtbfknapmhkpgcaaGreatDoor.realProducts
