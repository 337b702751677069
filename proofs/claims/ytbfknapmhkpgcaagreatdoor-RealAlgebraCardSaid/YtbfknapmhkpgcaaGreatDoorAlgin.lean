/-
  RealAlgebra: the ways.
-/
import Derived.Test.YtbfknapmhkpgcaaGreatDoorAlgC
import Derived.Deep.RegionHeld3
import Derived.Deep.CutRange

namespace Go.Proofs.YtbfknapmhkpgcaaGreatDoor.realAlgebra
open Go.RowKit
set_option linter.unusedVariables false

set_option maxRecDepth 100000 in
set_option maxHeartbeats 9000000 in
theorem w_in (i0 j0 m e k f mm kk am ae ax bm pm pe px qm dm de dx hm he tm te lo hi : Int) (w : World) (HA : Hid (∀ W : World, Calls Tryz.prog 32 #[.int .i64 i0] W fun r w' => r = .returned (realV m e) ∧ Below W.heap.size W w')) (HB : Hid (∀ W : World, Calls Tryz.prog 32 #[.int .i64 j0] W fun r w' => r = .returned (realV k f) ∧ Below W.heap.size W w')) (H1 : Hid (∀ W : World, Calls Tryz.prog 10 #[.int .i64 1] W fun r w' => r = .returned (realV 8388608 (-23)) ∧ Below W.heap.size W w')) (HNx : Hid (∀ W : World, Calls Tryz.prog 16 #[realV m e] W fun r w' => r = .returned (rE mm e 0) ∧ Below W.heap.size W w')) (HNy : Hid (∀ W : World, Calls Tryz.prog 16 #[realV k f] W fun r w' => r = .returned (rE kk f 0) ∧ Below W.heap.size W w')) (Hxy : Hid (∀ W : World, Calls Tryz.prog 33 #[realV m e, realV k f] W fun r w' => r = .returned (rE am ae ax) ∧ Below W.heap.size W w')) (Hyx : Hid (∀ W : World, Calls Tryz.prog 33 #[realV k f, realV m e] W fun r w' => r = .returned (rE am ae ax) ∧ Below W.heap.size W w')) (Hnn : Hid (∀ W : World, Calls Tryz.prog 33 #[realV mm e, realV kk f] W fun r w' => r = .returned (rE bm ae ax) ∧ Below W.heap.size W w')) (HNa : Hid (∀ W : World, Calls Tryz.prog 16 #[realV bm ae] W fun r w' => r = .returned (rE am ae 0) ∧ Below W.heap.size W w')) (HEa : Hid (∀ W : World, Calls Tryz.prog 34 #[realV am ae, .int .i64 ax, realV am ae, .int .i64 ax] W fun r w' => r = .returned (.bool true) ∧ Below W.heap.size W w')) (Mxy : Hid (∀ W : World, Calls Tryz.prog 25 #[realV m e, realV k f] W fun r w' => r = .returned (rE pm pe px) ∧ Below W.heap.size W w')) (Myx : Hid (∀ W : World, Calls Tryz.prog 25 #[realV k f, realV m e] W fun r w' => r = .returned (rE pm pe px) ∧ Below W.heap.size W w')) (Mnn : Hid (∀ W : World, Calls Tryz.prog 25 #[realV mm e, realV k f] W fun r w' => r = .returned (rE qm pe px) ∧ Below W.heap.size W w')) (HNp : Hid (∀ W : World, Calls Tryz.prog 16 #[realV qm pe] W fun r w' => r = .returned (rE pm pe 0) ∧ Below W.heap.size W w')) (HEp : Hid (∀ W : World, Calls Tryz.prog 34 #[realV pm pe, .int .i64 px, realV pm pe, .int .i64 px] W fun r w' => r = .returned (.bool true) ∧ Below W.heap.size W w')) (HZ : Hid (∀ W : World, Calls Tryz.prog 33 #[realV m e, realV 0 0] W fun r w' => r = .returned (rE m e 0) ∧ Below W.heap.size W w')) (HO : Hid (∀ W : World, Calls Tryz.prog 25 #[realV m e, realV 8388608 (-23)] W fun r w' => r = .returned (rE m e 0) ∧ Below W.heap.size W w')) (HD : Hid (∀ W : World, Calls Tryz.prog 26 #[realV m e, realV 8388608 (-23)] W fun r w' => r = .returned (rE m e 0) ∧ Below W.heap.size W w')) (HS : Hid (∀ W : World, Calls Tryz.prog 35 #[realV m e, realV k f] W fun r w' => r = .returned (rE dm de dx) ∧ Below W.heap.size W w')) (HI : Hid (∀ W : World, Calls Tryz.prog 8 #[realV m e, .int .i64 0, realV m e] W fun r w' => r = .returned (.bool true) ∧ Below W.heap.size W w')) (HD3 : (dx = 3) ∨ (dx = 0 ∧ m = k ∧ e = f ∧ dm = 0 ∧ de = 0) ∨ (dx = 0 ∧ (¬ m = k) ∧ (¬ dm = 0)) ∨ (dx = 0 ∧ m = k ∧ (¬ e = f) ∧ (¬ dm = 0))) (H2 : Hid (∀ W : World, Calls Tryz.prog 36 #[.int .i64 (-1)] W fun r w' => r = .returned (realV 8388608 (-24)) ∧ Below W.heap.size W w')) (HM : Hid (∀ W : World, Calls Tryz.prog 25 #[realV k f, realV 8388608 (-24)] W fun r w' => r = .returned (rE hm he 0) ∧ Below W.heap.size W w')) (HT : Hid (∀ W : World, Calls Tryz.prog 33 #[realV k f, realV k f] W fun r w' => r = .returned (rE tm te 0) ∧ Below W.heap.size W w')) (HL : Hid (∀ W : World, Calls Tryz.prog 19 #[realV hm he, realV m e] W fun r w' => r = .returned (.tuple #[.int .i64 lo, .int .i64 0]) ∧ Below W.heap.size W w')) (HH : Hid (∀ W : World, Calls Tryz.prog 19 #[realV m e, realV tm te] W fun r w' => r = .returned (.tuple #[.int .i64 hi, .int .i64 0]) ∧ Below W.heap.size W w')) (g1 : ¬ 0 < lo) (g2 : ¬ 0 < hi) (g3 : dx = 0) (HK : Hid (∀ W : World, Calls Tryz.prog 33 #[realV dm de, realV k f] W fun r w' => r = .returned (rE m e 0) ∧ Below W.heap.size W w')) (HSan : Hid (∀ W, Below w.heap.size w W → Calls Tryz.prog 20 #[] W fun r W' => r = .returned (.bool true) ∧ Below W.heap.size W W'))  :
    Calls Tryz.prog 5 #[.int .i64 i0, .int .i64 j0] w fun r w' => r = .returned (.bool true) ∧ Below w.heap.size w w' := by
  subst g3
  go_enter Tryz.func5, Tryz.ntmps5
  go_wp2_with fail
  refine (HA.out _).mono ?_
  rintro e w1 ⟨rfl, hb1⟩
  have HB_1 := Lib.hid ((by repeat (first | exact Below.refl _ _ | refine Below.drew ?_ | refine Below.setCell ?_ (by first | omega | (simp; done) | (simp; omega)) _ | refine Below.alloc ?_ (by first | omega | (simp; done) | (simp; omega)) _) : Below w.heap.size w _).trans (hb1.mono (by first | omega | (simp; done) | (simp; omega))))
  have nz_1 : w.heap.size ≤ w1.heap.size := HB_1.out.size
  clear hb1
  go_wp2_with fail
  refine (HB.out _).mono ?_
  rintro e w2 ⟨rfl, hb2⟩
  have x0_2 : w2.cell? ⟨w1.heap.size, 0, none⟩ = some (.int .i64 m) := carry hb2 (by go_simp)
  have x1_2 : w2.cell? ⟨w1.heap.size, 1, none⟩ = some (.int .i64 e) := carry hb2 (by go_simp)
  have xz_2 : w1.heap.size < w2.heap.size := by have := hb2.size; first | omega | (simp at this; omega)
  have HB_2 := Lib.hid ((by repeat (first | exact HB_1.out | refine Below.drew ?_ | refine Below.setCell ?_ (by first | omega | (simp; done) | (simp; omega)) _ | refine Below.alloc ?_ (by first | omega | (simp; done) | (simp; omega)) _) : Below w.heap.size w _).trans (hb2.mono (by first | omega | (simp; done) | (simp; omega))))
  have nz_2 : w.heap.size ≤ w2.heap.size := HB_2.out.size
  clear hb2 HB_1
  go_wp2_with fail
  refine (H1.out _).mono ?_
  rintro e w3 ⟨rfl, hb3⟩
  have x0_3 : w3.cell? ⟨w1.heap.size, 0, none⟩ = some (.int .i64 m) := carry hb3 (by go_simp)
  have x1_3 : w3.cell? ⟨w1.heap.size, 1, none⟩ = some (.int .i64 e) := carry hb3 (by go_simp)
  have xz_3 : w1.heap.size < w3.heap.size := by have := hb3.size; first | omega | (simp at this; omega)
  have y0_3 : w3.cell? ⟨w2.heap.size, 0, none⟩ = some (.int .i64 k) := carry hb3 (by go_simp)
  have y1_3 : w3.cell? ⟨w2.heap.size, 1, none⟩ = some (.int .i64 f) := carry hb3 (by go_simp)
  have yz_3 : w2.heap.size < w3.heap.size := by have := hb3.size; first | omega | (simp at this; omega)
  have o0_3 : w3.cell? ⟨w2.heap.size + 1, 0, none⟩ = some (.int .i64 0) := carry hb3 (by go_simp)
  have o1_3 : w3.cell? ⟨w2.heap.size + 1, 1, none⟩ = some (.int .i64 0) := carry hb3 (by go_simp)
  have oz_3 : w2.heap.size + 1 < w3.heap.size := by have := hb3.size; first | omega | (simp at this; omega)
  have HB_3 := Lib.hid ((by repeat (first | exact HB_2.out | refine Below.drew ?_ | refine Below.setCell ?_ (by first | omega | (simp; done) | (simp; omega)) _ | refine Below.alloc ?_ (by first | omega | (simp; done) | (simp; omega)) _) : Below w.heap.size w _).trans (hb3.mono (by first | omega | (simp; done) | (simp; omega))))
  have nz_3 : w.heap.size ≤ w3.heap.size := HB_3.out.size
  clear hb3 x0_2 x1_2 HB_2
  go_wp2_with fail
  refine (HNx.out _).mono ?_
  rintro e w4 ⟨rfl, hb4⟩
  have x0_4 : w4.cell? ⟨w1.heap.size, 0, none⟩ = some (.int .i64 m) := carry hb4 (by go_simp)
  have x1_4 : w4.cell? ⟨w1.heap.size, 1, none⟩ = some (.int .i64 e) := carry hb4 (by go_simp)
  have xz_4 : w1.heap.size < w4.heap.size := by have := hb4.size; first | omega | (simp at this; omega)
  have y0_4 : w4.cell? ⟨w2.heap.size, 0, none⟩ = some (.int .i64 k) := carry hb4 (by go_simp)
  have y1_4 : w4.cell? ⟨w2.heap.size, 1, none⟩ = some (.int .i64 f) := carry hb4 (by go_simp)
  have yz_4 : w2.heap.size < w4.heap.size := by have := hb4.size; first | omega | (simp at this; omega)
  have o0_4 : w4.cell? ⟨w2.heap.size + 1, 0, none⟩ = some (.int .i64 0) := carry hb4 (by go_simp)
  have o1_4 : w4.cell? ⟨w2.heap.size + 1, 1, none⟩ = some (.int .i64 0) := carry hb4 (by go_simp)
  have oz_4 : w2.heap.size + 1 < w4.heap.size := by have := hb4.size; first | omega | (simp at this; omega)
  have q0_4 : w4.cell? ⟨w3.heap.size, 0, none⟩ = some (.int .i64 8388608) := carry hb4 (by go_simp)
  have q1_4 : w4.cell? ⟨w3.heap.size, 1, none⟩ = some (.int .i64 (-23)) := carry hb4 (by go_simp)
  have qz_4 : w3.heap.size < w4.heap.size := by have := hb4.size; first | omega | (simp at this; omega)
  have HB_4 := Lib.hid ((by repeat (first | exact HB_3.out | refine Below.drew ?_ | refine Below.setCell ?_ (by first | omega | (simp; done) | (simp; omega)) _ | refine Below.alloc ?_ (by first | omega | (simp; done) | (simp; omega)) _) : Below w.heap.size w _).trans (hb4.mono (by first | omega | (simp; done) | (simp; omega))))
  have nz_4 : w.heap.size ≤ w4.heap.size := HB_4.out.size
  clear hb4 x0_3 x1_3 y0_3 y1_3 o0_3 o1_3 HB_3
  go_wp2_with fail
  refine (HNy.out _).mono ?_
  rintro e w5 ⟨rfl, hb5⟩
  have x0_5 : w5.cell? ⟨w1.heap.size, 0, none⟩ = some (.int .i64 m) := carry hb5 (by go_simp)
  have x1_5 : w5.cell? ⟨w1.heap.size, 1, none⟩ = some (.int .i64 e) := carry hb5 (by go_simp)
  have xz_5 : w1.heap.size < w5.heap.size := by have := hb5.size; first | omega | (simp at this; omega)
  have y0_5 : w5.cell? ⟨w2.heap.size, 0, none⟩ = some (.int .i64 k) := carry hb5 (by go_simp)
  have y1_5 : w5.cell? ⟨w2.heap.size, 1, none⟩ = some (.int .i64 f) := carry hb5 (by go_simp)
  have yz_5 : w2.heap.size < w5.heap.size := by have := hb5.size; first | omega | (simp at this; omega)
  have o0_5 : w5.cell? ⟨w2.heap.size + 1, 0, none⟩ = some (.int .i64 0) := carry hb5 (by go_simp)
  have o1_5 : w5.cell? ⟨w2.heap.size + 1, 1, none⟩ = some (.int .i64 0) := carry hb5 (by go_simp)
  have oz_5 : w2.heap.size + 1 < w5.heap.size := by have := hb5.size; first | omega | (simp at this; omega)
  have q0_5 : w5.cell? ⟨w3.heap.size, 0, none⟩ = some (.int .i64 8388608) := carry hb5 (by go_simp)
  have q1_5 : w5.cell? ⟨w3.heap.size, 1, none⟩ = some (.int .i64 (-23)) := carry hb5 (by go_simp)
  have qz_5 : w3.heap.size < w5.heap.size := by have := hb5.size; first | omega | (simp at this; omega)
  have u0_5 : w5.cell? ⟨w4.heap.size, 0, none⟩ = some (.int .i64 mm) := carry hb5 (by go_simp)
  have u1_5 : w5.cell? ⟨w4.heap.size, 1, none⟩ = some (.int .i64 e) := carry hb5 (by go_simp)
  have uz_5 : w4.heap.size < w5.heap.size := by have := hb5.size; first | omega | (simp at this; omega)
  have HB_5 := Lib.hid ((by repeat (first | exact HB_4.out | refine Below.drew ?_ | refine Below.setCell ?_ (by first | omega | (simp; done) | (simp; omega)) _ | refine Below.alloc ?_ (by first | omega | (simp; done) | (simp; omega)) _) : Below w.heap.size w _).trans (hb5.mono (by first | omega | (simp; done) | (simp; omega))))
  have nz_5 : w.heap.size ≤ w5.heap.size := HB_5.out.size
  clear hb5 x0_4 x1_4 y0_4 y1_4 o0_4 o1_4 q0_4 q1_4 HB_4
  go_wp2_with fail
  refine (Hxy.out _).mono ?_
  rintro e w6 ⟨rfl, hb6⟩
  have x0_6 : w6.cell? ⟨w1.heap.size, 0, none⟩ = some (.int .i64 m) := carry hb6 (by go_simp)
  have x1_6 : w6.cell? ⟨w1.heap.size, 1, none⟩ = some (.int .i64 e) := carry hb6 (by go_simp)
  have xz_6 : w1.heap.size < w6.heap.size := by have := hb6.size; first | omega | (simp at this; omega)
  have y0_6 : w6.cell? ⟨w2.heap.size, 0, none⟩ = some (.int .i64 k) := carry hb6 (by go_simp)
  have y1_6 : w6.cell? ⟨w2.heap.size, 1, none⟩ = some (.int .i64 f) := carry hb6 (by go_simp)
  have yz_6 : w2.heap.size < w6.heap.size := by have := hb6.size; first | omega | (simp at this; omega)
  have o0_6 : w6.cell? ⟨w2.heap.size + 1, 0, none⟩ = some (.int .i64 0) := carry hb6 (by go_simp)
  have o1_6 : w6.cell? ⟨w2.heap.size + 1, 1, none⟩ = some (.int .i64 0) := carry hb6 (by go_simp)
  have oz_6 : w2.heap.size + 1 < w6.heap.size := by have := hb6.size; first | omega | (simp at this; omega)
  have q0_6 : w6.cell? ⟨w3.heap.size, 0, none⟩ = some (.int .i64 8388608) := carry hb6 (by go_simp)
  have q1_6 : w6.cell? ⟨w3.heap.size, 1, none⟩ = some (.int .i64 (-23)) := carry hb6 (by go_simp)
  have qz_6 : w3.heap.size < w6.heap.size := by have := hb6.size; first | omega | (simp at this; omega)
  have u0_6 : w6.cell? ⟨w4.heap.size, 0, none⟩ = some (.int .i64 mm) := carry hb6 (by go_simp)
  have u1_6 : w6.cell? ⟨w4.heap.size, 1, none⟩ = some (.int .i64 e) := carry hb6 (by go_simp)
  have uz_6 : w4.heap.size < w6.heap.size := by have := hb6.size; first | omega | (simp at this; omega)
  have v0_6 : w6.cell? ⟨w5.heap.size, 0, none⟩ = some (.int .i64 kk) := carry hb6 (by go_simp)
  have v1_6 : w6.cell? ⟨w5.heap.size, 1, none⟩ = some (.int .i64 f) := carry hb6 (by go_simp)
  have vz_6 : w5.heap.size < w6.heap.size := by have := hb6.size; first | omega | (simp at this; omega)
  have HB_6 := Lib.hid ((by repeat (first | exact HB_5.out | refine Below.drew ?_ | refine Below.setCell ?_ (by first | omega | (simp; done) | (simp; omega)) _ | refine Below.alloc ?_ (by first | omega | (simp; done) | (simp; omega)) _) : Below w.heap.size w _).trans (hb6.mono (by first | omega | (simp; done) | (simp; omega))))
  have nz_6 : w.heap.size ≤ w6.heap.size := HB_6.out.size
  clear hb6 x0_5 x1_5 y0_5 y1_5 o0_5 o1_5 q0_5 q1_5 u0_5 u1_5 HB_5
  go_wp2_with fail
  refine (Hyx.out _).mono ?_
  rintro e w7 ⟨rfl, hb7⟩
  have x0_7 : w7.cell? ⟨w1.heap.size, 0, none⟩ = some (.int .i64 m) := carry hb7 (by go_simp)
  have x1_7 : w7.cell? ⟨w1.heap.size, 1, none⟩ = some (.int .i64 e) := carry hb7 (by go_simp)
  have xz_7 : w1.heap.size < w7.heap.size := by have := hb7.size; first | omega | (simp at this; omega)
  have y0_7 : w7.cell? ⟨w2.heap.size, 0, none⟩ = some (.int .i64 k) := carry hb7 (by go_simp)
  have y1_7 : w7.cell? ⟨w2.heap.size, 1, none⟩ = some (.int .i64 f) := carry hb7 (by go_simp)
  have yz_7 : w2.heap.size < w7.heap.size := by have := hb7.size; first | omega | (simp at this; omega)
  have o0_7 : w7.cell? ⟨w2.heap.size + 1, 0, none⟩ = some (.int .i64 0) := carry hb7 (by go_simp)
  have o1_7 : w7.cell? ⟨w2.heap.size + 1, 1, none⟩ = some (.int .i64 0) := carry hb7 (by go_simp)
  have oz_7 : w2.heap.size + 1 < w7.heap.size := by have := hb7.size; first | omega | (simp at this; omega)
  have q0_7 : w7.cell? ⟨w3.heap.size, 0, none⟩ = some (.int .i64 8388608) := carry hb7 (by go_simp)
  have q1_7 : w7.cell? ⟨w3.heap.size, 1, none⟩ = some (.int .i64 (-23)) := carry hb7 (by go_simp)
  have qz_7 : w3.heap.size < w7.heap.size := by have := hb7.size; first | omega | (simp at this; omega)
  have u0_7 : w7.cell? ⟨w4.heap.size, 0, none⟩ = some (.int .i64 mm) := carry hb7 (by go_simp)
  have u1_7 : w7.cell? ⟨w4.heap.size, 1, none⟩ = some (.int .i64 e) := carry hb7 (by go_simp)
  have uz_7 : w4.heap.size < w7.heap.size := by have := hb7.size; first | omega | (simp at this; omega)
  have v0_7 : w7.cell? ⟨w5.heap.size, 0, none⟩ = some (.int .i64 kk) := carry hb7 (by go_simp)
  have v1_7 : w7.cell? ⟨w5.heap.size, 1, none⟩ = some (.int .i64 f) := carry hb7 (by go_simp)
  have vz_7 : w5.heap.size < w7.heap.size := by have := hb7.size; first | omega | (simp at this; omega)
  have a0_7 : w7.cell? ⟨w6.heap.size, 0, none⟩ = some (.int .i64 am) := carry hb7 (by go_simp)
  have af0_7 : w7.frozen? ⟨w6.heap.size, 0, none⟩ = false := carryF hb7 (v := .int .i64 am) (by go_simp) (by go_simp)
  have a1_7 : w7.cell? ⟨w6.heap.size, 1, none⟩ = some (.int .i64 ae) := carry hb7 (by go_simp)
  have af1_7 : w7.frozen? ⟨w6.heap.size, 1, none⟩ = false := carryF hb7 (v := .int .i64 ae) (by go_simp) (by go_simp)
  have az_7 : w6.heap.size < w7.heap.size := by have := hb7.size; first | omega | (simp at this; omega)
  have HB_7 := Lib.hid ((by repeat (first | exact HB_6.out | refine Below.drew ?_ | refine Below.setCell ?_ (by first | omega | (simp; done) | (simp; omega)) _ | refine Below.alloc ?_ (by first | omega | (simp; done) | (simp; omega)) _) : Below w.heap.size w _).trans (hb7.mono (by first | omega | (simp; done) | (simp; omega))))
  have nz_7 : w.heap.size ≤ w7.heap.size := HB_7.out.size
  clear hb7 x0_6 x1_6 y0_6 y1_6 o0_6 o1_6 q0_6 q1_6 u0_6 u1_6 v0_6 v1_6 HB_6
  go_wp2_with fail
  refine (Hnn.out _).mono ?_
  rintro e w8 ⟨rfl, hb8⟩
  have x0_8 : w8.cell? ⟨w1.heap.size, 0, none⟩ = some (.int .i64 m) := carry hb8 (by go_simp)
  have x1_8 : w8.cell? ⟨w1.heap.size, 1, none⟩ = some (.int .i64 e) := carry hb8 (by go_simp)
  have xz_8 : w1.heap.size < w8.heap.size := by have := hb8.size; first | omega | (simp at this; omega)
  have y0_8 : w8.cell? ⟨w2.heap.size, 0, none⟩ = some (.int .i64 k) := carry hb8 (by go_simp)
  have y1_8 : w8.cell? ⟨w2.heap.size, 1, none⟩ = some (.int .i64 f) := carry hb8 (by go_simp)
  have yz_8 : w2.heap.size < w8.heap.size := by have := hb8.size; first | omega | (simp at this; omega)
  have o0_8 : w8.cell? ⟨w2.heap.size + 1, 0, none⟩ = some (.int .i64 0) := carry hb8 (by go_simp)
  have o1_8 : w8.cell? ⟨w2.heap.size + 1, 1, none⟩ = some (.int .i64 0) := carry hb8 (by go_simp)
  have oz_8 : w2.heap.size + 1 < w8.heap.size := by have := hb8.size; first | omega | (simp at this; omega)
  have q0_8 : w8.cell? ⟨w3.heap.size, 0, none⟩ = some (.int .i64 8388608) := carry hb8 (by go_simp)
  have q1_8 : w8.cell? ⟨w3.heap.size, 1, none⟩ = some (.int .i64 (-23)) := carry hb8 (by go_simp)
  have qz_8 : w3.heap.size < w8.heap.size := by have := hb8.size; first | omega | (simp at this; omega)
  have u0_8 : w8.cell? ⟨w4.heap.size, 0, none⟩ = some (.int .i64 mm) := carry hb8 (by go_simp)
  have u1_8 : w8.cell? ⟨w4.heap.size, 1, none⟩ = some (.int .i64 e) := carry hb8 (by go_simp)
  have uz_8 : w4.heap.size < w8.heap.size := by have := hb8.size; first | omega | (simp at this; omega)
  have v0_8 : w8.cell? ⟨w5.heap.size, 0, none⟩ = some (.int .i64 kk) := carry hb8 (by go_simp)
  have v1_8 : w8.cell? ⟨w5.heap.size, 1, none⟩ = some (.int .i64 f) := carry hb8 (by go_simp)
  have vz_8 : w5.heap.size < w8.heap.size := by have := hb8.size; first | omega | (simp at this; omega)
  have a0_8 : w8.cell? ⟨w6.heap.size, 0, none⟩ = some (.int .i64 am) := carry hb8 (by go_simp)
  have af0_8 : w8.frozen? ⟨w6.heap.size, 0, none⟩ = false := carryF hb8 (v := .int .i64 am) (by go_simp) (by go_simp)
  have a1_8 : w8.cell? ⟨w6.heap.size, 1, none⟩ = some (.int .i64 ae) := carry hb8 (by go_simp)
  have af1_8 : w8.frozen? ⟨w6.heap.size, 1, none⟩ = false := carryF hb8 (v := .int .i64 ae) (by go_simp) (by go_simp)
  have az_8 : w6.heap.size < w8.heap.size := by have := hb8.size; first | omega | (simp at this; omega)
  have b0_8 : w8.cell? ⟨w7.heap.size, 0, none⟩ = some (.int .i64 am) := carry hb8 (by go_simp)
  have bf0_8 : w8.frozen? ⟨w7.heap.size, 0, none⟩ = false := carryF hb8 (v := .int .i64 am) (by go_simp) (by go_simp)
  have b1_8 : w8.cell? ⟨w7.heap.size, 1, none⟩ = some (.int .i64 ae) := carry hb8 (by go_simp)
  have bf1_8 : w8.frozen? ⟨w7.heap.size, 1, none⟩ = false := carryF hb8 (v := .int .i64 ae) (by go_simp) (by go_simp)
  have bz_8 : w7.heap.size < w8.heap.size := by have := hb8.size; first | omega | (simp at this; omega)
  have HB_8 := Lib.hid ((by repeat (first | exact HB_7.out | refine Below.drew ?_ | refine Below.setCell ?_ (by first | omega | (simp; done) | (simp; omega)) _ | refine Below.alloc ?_ (by first | omega | (simp; done) | (simp; omega)) _) : Below w.heap.size w _).trans (hb8.mono (by first | omega | (simp; done) | (simp; omega))))
  have nz_8 : w.heap.size ≤ w8.heap.size := HB_8.out.size
  clear hb8 x0_7 x1_7 y0_7 y1_7 o0_7 o1_7 q0_7 q1_7 u0_7 u1_7 v0_7 v1_7 a0_7 af0_7 a1_7 af1_7 HB_7
  go_wp2_with fail
  refine (HNa.out _).mono ?_
  rintro e w9 ⟨rfl, hb9⟩
  have x0_9 : w9.cell? ⟨w1.heap.size, 0, none⟩ = some (.int .i64 m) := carry hb9 (by go_simp)
  have x1_9 : w9.cell? ⟨w1.heap.size, 1, none⟩ = some (.int .i64 e) := carry hb9 (by go_simp)
  have xz_9 : w1.heap.size < w9.heap.size := by have := hb9.size; first | omega | (simp at this; omega)
  have y0_9 : w9.cell? ⟨w2.heap.size, 0, none⟩ = some (.int .i64 k) := carry hb9 (by go_simp)
  have y1_9 : w9.cell? ⟨w2.heap.size, 1, none⟩ = some (.int .i64 f) := carry hb9 (by go_simp)
  have yz_9 : w2.heap.size < w9.heap.size := by have := hb9.size; first | omega | (simp at this; omega)
  have o0_9 : w9.cell? ⟨w2.heap.size + 1, 0, none⟩ = some (.int .i64 0) := carry hb9 (by go_simp)
  have o1_9 : w9.cell? ⟨w2.heap.size + 1, 1, none⟩ = some (.int .i64 0) := carry hb9 (by go_simp)
  have oz_9 : w2.heap.size + 1 < w9.heap.size := by have := hb9.size; first | omega | (simp at this; omega)
  have q0_9 : w9.cell? ⟨w3.heap.size, 0, none⟩ = some (.int .i64 8388608) := carry hb9 (by go_simp)
  have q1_9 : w9.cell? ⟨w3.heap.size, 1, none⟩ = some (.int .i64 (-23)) := carry hb9 (by go_simp)
  have qz_9 : w3.heap.size < w9.heap.size := by have := hb9.size; first | omega | (simp at this; omega)
  have u0_9 : w9.cell? ⟨w4.heap.size, 0, none⟩ = some (.int .i64 mm) := carry hb9 (by go_simp)
  have u1_9 : w9.cell? ⟨w4.heap.size, 1, none⟩ = some (.int .i64 e) := carry hb9 (by go_simp)
  have uz_9 : w4.heap.size < w9.heap.size := by have := hb9.size; first | omega | (simp at this; omega)
  have v0_9 : w9.cell? ⟨w5.heap.size, 0, none⟩ = some (.int .i64 kk) := carry hb9 (by go_simp)
  have v1_9 : w9.cell? ⟨w5.heap.size, 1, none⟩ = some (.int .i64 f) := carry hb9 (by go_simp)
  have vz_9 : w5.heap.size < w9.heap.size := by have := hb9.size; first | omega | (simp at this; omega)
  have a0_9 : w9.cell? ⟨w6.heap.size, 0, none⟩ = some (.int .i64 am) := carry hb9 (by go_simp)
  have af0_9 : w9.frozen? ⟨w6.heap.size, 0, none⟩ = false := carryF hb9 (v := .int .i64 am) (by go_simp) (by go_simp)
  have a1_9 : w9.cell? ⟨w6.heap.size, 1, none⟩ = some (.int .i64 ae) := carry hb9 (by go_simp)
  have af1_9 : w9.frozen? ⟨w6.heap.size, 1, none⟩ = false := carryF hb9 (v := .int .i64 ae) (by go_simp) (by go_simp)
  have az_9 : w6.heap.size < w9.heap.size := by have := hb9.size; first | omega | (simp at this; omega)
  have b0_9 : w9.cell? ⟨w7.heap.size, 0, none⟩ = some (.int .i64 am) := carry hb9 (by go_simp)
  have bf0_9 : w9.frozen? ⟨w7.heap.size, 0, none⟩ = false := carryF hb9 (v := .int .i64 am) (by go_simp) (by go_simp)
  have b1_9 : w9.cell? ⟨w7.heap.size, 1, none⟩ = some (.int .i64 ae) := carry hb9 (by go_simp)
  have bf1_9 : w9.frozen? ⟨w7.heap.size, 1, none⟩ = false := carryF hb9 (v := .int .i64 ae) (by go_simp) (by go_simp)
  have bz_9 : w7.heap.size < w9.heap.size := by have := hb9.size; first | omega | (simp at this; omega)
  have c0_9 : w9.cell? ⟨w8.heap.size, 0, none⟩ = some (.int .i64 bm) := carry hb9 (by go_simp)
  have cf0_9 : w9.frozen? ⟨w8.heap.size, 0, none⟩ = false := carryF hb9 (v := .int .i64 bm) (by go_simp) (by go_simp)
  have c1_9 : w9.cell? ⟨w8.heap.size, 1, none⟩ = some (.int .i64 ae) := carry hb9 (by go_simp)
  have cf1_9 : w9.frozen? ⟨w8.heap.size, 1, none⟩ = false := carryF hb9 (v := .int .i64 ae) (by go_simp) (by go_simp)
  have cz_9 : w8.heap.size < w9.heap.size := by have := hb9.size; first | omega | (simp at this; omega)
  have HB_9 := Lib.hid ((by repeat (first | exact HB_8.out | refine Below.drew ?_ | refine Below.setCell ?_ (by first | omega | (simp; done) | (simp; omega)) _ | refine Below.alloc ?_ (by first | omega | (simp; done) | (simp; omega)) _) : Below w.heap.size w _).trans (hb9.mono (by first | omega | (simp; done) | (simp; omega))))
  have nz_9 : w.heap.size ≤ w9.heap.size := HB_9.out.size
  clear hb9 x0_8 x1_8 y0_8 y1_8 o0_8 o1_8 q0_8 q1_8 u0_8 u1_8 v0_8 v1_8 a0_8 af0_8 a1_8 af1_8 b0_8 bf0_8 b1_8 bf1_8 HB_8
  go_wp2_with fail
  refine (HEa.out _).mono ?_
  rintro e w10 ⟨rfl, hb10⟩
  have x0_10 : w10.cell? ⟨w1.heap.size, 0, none⟩ = some (.int .i64 m) := carry hb10 (by go_simp)
  have x1_10 : w10.cell? ⟨w1.heap.size, 1, none⟩ = some (.int .i64 e) := carry hb10 (by go_simp)
  have xz_10 : w1.heap.size < w10.heap.size := by have := hb10.size; first | omega | (simp at this; omega)
  have y0_10 : w10.cell? ⟨w2.heap.size, 0, none⟩ = some (.int .i64 k) := carry hb10 (by go_simp)
  have y1_10 : w10.cell? ⟨w2.heap.size, 1, none⟩ = some (.int .i64 f) := carry hb10 (by go_simp)
  have yz_10 : w2.heap.size < w10.heap.size := by have := hb10.size; first | omega | (simp at this; omega)
  have o0_10 : w10.cell? ⟨w2.heap.size + 1, 0, none⟩ = some (.int .i64 0) := carry hb10 (by go_simp)
  have o1_10 : w10.cell? ⟨w2.heap.size + 1, 1, none⟩ = some (.int .i64 0) := carry hb10 (by go_simp)
  have oz_10 : w2.heap.size + 1 < w10.heap.size := by have := hb10.size; first | omega | (simp at this; omega)
  have q0_10 : w10.cell? ⟨w3.heap.size, 0, none⟩ = some (.int .i64 8388608) := carry hb10 (by go_simp)
  have q1_10 : w10.cell? ⟨w3.heap.size, 1, none⟩ = some (.int .i64 (-23)) := carry hb10 (by go_simp)
  have qz_10 : w3.heap.size < w10.heap.size := by have := hb10.size; first | omega | (simp at this; omega)
  have u0_10 : w10.cell? ⟨w4.heap.size, 0, none⟩ = some (.int .i64 mm) := carry hb10 (by go_simp)
  have u1_10 : w10.cell? ⟨w4.heap.size, 1, none⟩ = some (.int .i64 e) := carry hb10 (by go_simp)
  have uz_10 : w4.heap.size < w10.heap.size := by have := hb10.size; first | omega | (simp at this; omega)
  have v0_10 : w10.cell? ⟨w5.heap.size, 0, none⟩ = some (.int .i64 kk) := carry hb10 (by go_simp)
  have v1_10 : w10.cell? ⟨w5.heap.size, 1, none⟩ = some (.int .i64 f) := carry hb10 (by go_simp)
  have vz_10 : w5.heap.size < w10.heap.size := by have := hb10.size; first | omega | (simp at this; omega)
  have a0_10 : w10.cell? ⟨w6.heap.size, 0, none⟩ = some (.int .i64 am) := carry hb10 (by go_simp)
  have af0_10 : w10.frozen? ⟨w6.heap.size, 0, none⟩ = false := carryF hb10 (v := .int .i64 am) (by go_simp) (by go_simp)
  have a1_10 : w10.cell? ⟨w6.heap.size, 1, none⟩ = some (.int .i64 ae) := carry hb10 (by go_simp)
  have af1_10 : w10.frozen? ⟨w6.heap.size, 1, none⟩ = false := carryF hb10 (v := .int .i64 ae) (by go_simp) (by go_simp)
  have az_10 : w6.heap.size < w10.heap.size := by have := hb10.size; first | omega | (simp at this; omega)
  have b0_10 : w10.cell? ⟨w7.heap.size, 0, none⟩ = some (.int .i64 am) := carry hb10 (by go_simp)
  have bf0_10 : w10.frozen? ⟨w7.heap.size, 0, none⟩ = false := carryF hb10 (v := .int .i64 am) (by go_simp) (by go_simp)
  have b1_10 : w10.cell? ⟨w7.heap.size, 1, none⟩ = some (.int .i64 ae) := carry hb10 (by go_simp)
  have bf1_10 : w10.frozen? ⟨w7.heap.size, 1, none⟩ = false := carryF hb10 (v := .int .i64 ae) (by go_simp) (by go_simp)
  have bz_10 : w7.heap.size < w10.heap.size := by have := hb10.size; first | omega | (simp at this; omega)
  have c0_10 : w10.cell? ⟨w8.heap.size, 0, none⟩ = some (.int .i64 bm) := carry hb10 (by go_simp)
  have cf0_10 : w10.frozen? ⟨w8.heap.size, 0, none⟩ = false := carryF hb10 (v := .int .i64 bm) (by go_simp) (by go_simp)
  have c1_10 : w10.cell? ⟨w8.heap.size, 1, none⟩ = some (.int .i64 ae) := carry hb10 (by go_simp)
  have cf1_10 : w10.frozen? ⟨w8.heap.size, 1, none⟩ = false := carryF hb10 (v := .int .i64 ae) (by go_simp) (by go_simp)
  have cz_10 : w8.heap.size < w10.heap.size := by have := hb10.size; first | omega | (simp at this; omega)
  have d0_10 : w10.cell? ⟨w9.heap.size, 0, none⟩ = some (.int .i64 am) := carry hb10 (by go_simp)
  have df0_10 : w10.frozen? ⟨w9.heap.size, 0, none⟩ = false := carryF hb10 (v := .int .i64 am) (by go_simp) (by go_simp)
  have d1_10 : w10.cell? ⟨w9.heap.size, 1, none⟩ = some (.int .i64 ae) := carry hb10 (by go_simp)
  have df1_10 : w10.frozen? ⟨w9.heap.size, 1, none⟩ = false := carryF hb10 (v := .int .i64 ae) (by go_simp) (by go_simp)
  have dz_10 : w9.heap.size < w10.heap.size := by have := hb10.size; first | omega | (simp at this; omega)
  have HB_10 := Lib.hid ((by repeat (first | exact HB_9.out | refine Below.drew ?_ | refine Below.setCell ?_ (by first | omega | (simp; done) | (simp; omega)) _ | refine Below.alloc ?_ (by first | omega | (simp; done) | (simp; omega)) _) : Below w.heap.size w _).trans (hb10.mono (by first | omega | (simp; done) | (simp; omega))))
  have nz_10 : w.heap.size ≤ w10.heap.size := HB_10.out.size
  clear hb10 x0_9 x1_9 y0_9 y1_9 o0_9 o1_9 q0_9 q1_9 u0_9 u1_9 v0_9 v1_9 a0_9 af0_9 a1_9 af1_9 b0_9 bf0_9 b1_9 bf1_9 c0_9 cf0_9 c1_9 cf1_9 HB_9
  go_wp2_with fail
  refine (Mxy.out _).mono ?_
  rintro e w11 ⟨rfl, hb11⟩
  have x0_11 : w11.cell? ⟨w1.heap.size, 0, none⟩ = some (.int .i64 m) := carry hb11 (by go_simp)
  have x1_11 : w11.cell? ⟨w1.heap.size, 1, none⟩ = some (.int .i64 e) := carry hb11 (by go_simp)
  have xz_11 : w1.heap.size < w11.heap.size := by have := hb11.size; first | omega | (simp at this; omega)
  have y0_11 : w11.cell? ⟨w2.heap.size, 0, none⟩ = some (.int .i64 k) := carry hb11 (by go_simp)
  have y1_11 : w11.cell? ⟨w2.heap.size, 1, none⟩ = some (.int .i64 f) := carry hb11 (by go_simp)
  have yz_11 : w2.heap.size < w11.heap.size := by have := hb11.size; first | omega | (simp at this; omega)
  have o0_11 : w11.cell? ⟨w2.heap.size + 1, 0, none⟩ = some (.int .i64 0) := carry hb11 (by go_simp)
  have o1_11 : w11.cell? ⟨w2.heap.size + 1, 1, none⟩ = some (.int .i64 0) := carry hb11 (by go_simp)
  have oz_11 : w2.heap.size + 1 < w11.heap.size := by have := hb11.size; first | omega | (simp at this; omega)
  have q0_11 : w11.cell? ⟨w3.heap.size, 0, none⟩ = some (.int .i64 8388608) := carry hb11 (by go_simp)
  have q1_11 : w11.cell? ⟨w3.heap.size, 1, none⟩ = some (.int .i64 (-23)) := carry hb11 (by go_simp)
  have qz_11 : w3.heap.size < w11.heap.size := by have := hb11.size; first | omega | (simp at this; omega)
  have u0_11 : w11.cell? ⟨w4.heap.size, 0, none⟩ = some (.int .i64 mm) := carry hb11 (by go_simp)
  have u1_11 : w11.cell? ⟨w4.heap.size, 1, none⟩ = some (.int .i64 e) := carry hb11 (by go_simp)
  have uz_11 : w4.heap.size < w11.heap.size := by have := hb11.size; first | omega | (simp at this; omega)
  have v0_11 : w11.cell? ⟨w5.heap.size, 0, none⟩ = some (.int .i64 kk) := carry hb11 (by go_simp)
  have v1_11 : w11.cell? ⟨w5.heap.size, 1, none⟩ = some (.int .i64 f) := carry hb11 (by go_simp)
  have vz_11 : w5.heap.size < w11.heap.size := by have := hb11.size; first | omega | (simp at this; omega)
  have a0_11 : w11.cell? ⟨w6.heap.size, 0, none⟩ = some (.int .i64 am) := carry hb11 (by go_simp)
  have af0_11 : w11.frozen? ⟨w6.heap.size, 0, none⟩ = false := carryF hb11 (v := .int .i64 am) (by go_simp) (by go_simp)
  have a1_11 : w11.cell? ⟨w6.heap.size, 1, none⟩ = some (.int .i64 ae) := carry hb11 (by go_simp)
  have af1_11 : w11.frozen? ⟨w6.heap.size, 1, none⟩ = false := carryF hb11 (v := .int .i64 ae) (by go_simp) (by go_simp)
  have az_11 : w6.heap.size < w11.heap.size := by have := hb11.size; first | omega | (simp at this; omega)
  have b0_11 : w11.cell? ⟨w7.heap.size, 0, none⟩ = some (.int .i64 am) := carry hb11 (by go_simp)
  have bf0_11 : w11.frozen? ⟨w7.heap.size, 0, none⟩ = false := carryF hb11 (v := .int .i64 am) (by go_simp) (by go_simp)
  have b1_11 : w11.cell? ⟨w7.heap.size, 1, none⟩ = some (.int .i64 ae) := carry hb11 (by go_simp)
  have bf1_11 : w11.frozen? ⟨w7.heap.size, 1, none⟩ = false := carryF hb11 (v := .int .i64 ae) (by go_simp) (by go_simp)
  have bz_11 : w7.heap.size < w11.heap.size := by have := hb11.size; first | omega | (simp at this; omega)
  have c0_11 : w11.cell? ⟨w8.heap.size, 0, none⟩ = some (.int .i64 bm) := carry hb11 (by go_simp)
  have cf0_11 : w11.frozen? ⟨w8.heap.size, 0, none⟩ = false := carryF hb11 (v := .int .i64 bm) (by go_simp) (by go_simp)
  have c1_11 : w11.cell? ⟨w8.heap.size, 1, none⟩ = some (.int .i64 ae) := carry hb11 (by go_simp)
  have cf1_11 : w11.frozen? ⟨w8.heap.size, 1, none⟩ = false := carryF hb11 (v := .int .i64 ae) (by go_simp) (by go_simp)
  have cz_11 : w8.heap.size < w11.heap.size := by have := hb11.size; first | omega | (simp at this; omega)
  have d0_11 : w11.cell? ⟨w9.heap.size, 0, none⟩ = some (.int .i64 am) := carry hb11 (by go_simp)
  have df0_11 : w11.frozen? ⟨w9.heap.size, 0, none⟩ = false := carryF hb11 (v := .int .i64 am) (by go_simp) (by go_simp)
  have d1_11 : w11.cell? ⟨w9.heap.size, 1, none⟩ = some (.int .i64 ae) := carry hb11 (by go_simp)
  have df1_11 : w11.frozen? ⟨w9.heap.size, 1, none⟩ = false := carryF hb11 (v := .int .i64 ae) (by go_simp) (by go_simp)
  have dz_11 : w9.heap.size < w11.heap.size := by have := hb11.size; first | omega | (simp at this; omega)
  have HB_11 := Lib.hid ((by repeat (first | exact HB_10.out | refine Below.drew ?_ | refine Below.setCell ?_ (by first | omega | (simp; done) | (simp; omega)) _ | refine Below.alloc ?_ (by first | omega | (simp; done) | (simp; omega)) _) : Below w.heap.size w _).trans (hb11.mono (by first | omega | (simp; done) | (simp; omega))))
  have nz_11 : w.heap.size ≤ w11.heap.size := HB_11.out.size
  clear hb11 x0_10 x1_10 y0_10 y1_10 o0_10 o1_10 q0_10 q1_10 u0_10 u1_10 v0_10 v1_10 a0_10 af0_10 a1_10 af1_10 b0_10 bf0_10 b1_10 bf1_10 c0_10 cf0_10 c1_10 cf1_10 d0_10 df0_10 d1_10 df1_10 HB_10
  go_wp2_with fail
  refine (Myx.out _).mono ?_
  rintro e w12 ⟨rfl, hb12⟩
  have x0_12 : w12.cell? ⟨w1.heap.size, 0, none⟩ = some (.int .i64 m) := carry hb12 (by go_simp)
  have x1_12 : w12.cell? ⟨w1.heap.size, 1, none⟩ = some (.int .i64 e) := carry hb12 (by go_simp)
  have xz_12 : w1.heap.size < w12.heap.size := by have := hb12.size; first | omega | (simp at this; omega)
  have y0_12 : w12.cell? ⟨w2.heap.size, 0, none⟩ = some (.int .i64 k) := carry hb12 (by go_simp)
  have y1_12 : w12.cell? ⟨w2.heap.size, 1, none⟩ = some (.int .i64 f) := carry hb12 (by go_simp)
  have yz_12 : w2.heap.size < w12.heap.size := by have := hb12.size; first | omega | (simp at this; omega)
  have o0_12 : w12.cell? ⟨w2.heap.size + 1, 0, none⟩ = some (.int .i64 0) := carry hb12 (by go_simp)
  have o1_12 : w12.cell? ⟨w2.heap.size + 1, 1, none⟩ = some (.int .i64 0) := carry hb12 (by go_simp)
  have oz_12 : w2.heap.size + 1 < w12.heap.size := by have := hb12.size; first | omega | (simp at this; omega)
  have q0_12 : w12.cell? ⟨w3.heap.size, 0, none⟩ = some (.int .i64 8388608) := carry hb12 (by go_simp)
  have q1_12 : w12.cell? ⟨w3.heap.size, 1, none⟩ = some (.int .i64 (-23)) := carry hb12 (by go_simp)
  have qz_12 : w3.heap.size < w12.heap.size := by have := hb12.size; first | omega | (simp at this; omega)
  have u0_12 : w12.cell? ⟨w4.heap.size, 0, none⟩ = some (.int .i64 mm) := carry hb12 (by go_simp)
  have u1_12 : w12.cell? ⟨w4.heap.size, 1, none⟩ = some (.int .i64 e) := carry hb12 (by go_simp)
  have uz_12 : w4.heap.size < w12.heap.size := by have := hb12.size; first | omega | (simp at this; omega)
  have v0_12 : w12.cell? ⟨w5.heap.size, 0, none⟩ = some (.int .i64 kk) := carry hb12 (by go_simp)
  have v1_12 : w12.cell? ⟨w5.heap.size, 1, none⟩ = some (.int .i64 f) := carry hb12 (by go_simp)
  have vz_12 : w5.heap.size < w12.heap.size := by have := hb12.size; first | omega | (simp at this; omega)
  have a0_12 : w12.cell? ⟨w6.heap.size, 0, none⟩ = some (.int .i64 pm) := carry hb12 (by go_simp)
  have af0_12 : w12.frozen? ⟨w6.heap.size, 0, none⟩ = false := carryF hb12 (v := .int .i64 pm) (by go_simp) (by go_simp)
  have a1_12 : w12.cell? ⟨w6.heap.size, 1, none⟩ = some (.int .i64 pe) := carry hb12 (by go_simp)
  have af1_12 : w12.frozen? ⟨w6.heap.size, 1, none⟩ = false := carryF hb12 (v := .int .i64 pe) (by go_simp) (by go_simp)
  have az_12 : w6.heap.size < w12.heap.size := by have := hb12.size; first | omega | (simp at this; omega)
  have b0_12 : w12.cell? ⟨w7.heap.size, 0, none⟩ = some (.int .i64 am) := carry hb12 (by go_simp)
  have bf0_12 : w12.frozen? ⟨w7.heap.size, 0, none⟩ = false := carryF hb12 (v := .int .i64 am) (by go_simp) (by go_simp)
  have b1_12 : w12.cell? ⟨w7.heap.size, 1, none⟩ = some (.int .i64 ae) := carry hb12 (by go_simp)
  have bf1_12 : w12.frozen? ⟨w7.heap.size, 1, none⟩ = false := carryF hb12 (v := .int .i64 ae) (by go_simp) (by go_simp)
  have bz_12 : w7.heap.size < w12.heap.size := by have := hb12.size; first | omega | (simp at this; omega)
  have c0_12 : w12.cell? ⟨w8.heap.size, 0, none⟩ = some (.int .i64 bm) := carry hb12 (by go_simp)
  have cf0_12 : w12.frozen? ⟨w8.heap.size, 0, none⟩ = false := carryF hb12 (v := .int .i64 bm) (by go_simp) (by go_simp)
  have c1_12 : w12.cell? ⟨w8.heap.size, 1, none⟩ = some (.int .i64 ae) := carry hb12 (by go_simp)
  have cf1_12 : w12.frozen? ⟨w8.heap.size, 1, none⟩ = false := carryF hb12 (v := .int .i64 ae) (by go_simp) (by go_simp)
  have cz_12 : w8.heap.size < w12.heap.size := by have := hb12.size; first | omega | (simp at this; omega)
  have d0_12 : w12.cell? ⟨w9.heap.size, 0, none⟩ = some (.int .i64 am) := carry hb12 (by go_simp)
  have df0_12 : w12.frozen? ⟨w9.heap.size, 0, none⟩ = false := carryF hb12 (v := .int .i64 am) (by go_simp) (by go_simp)
  have d1_12 : w12.cell? ⟨w9.heap.size, 1, none⟩ = some (.int .i64 ae) := carry hb12 (by go_simp)
  have df1_12 : w12.frozen? ⟨w9.heap.size, 1, none⟩ = false := carryF hb12 (v := .int .i64 ae) (by go_simp) (by go_simp)
  have dz_12 : w9.heap.size < w12.heap.size := by have := hb12.size; first | omega | (simp at this; omega)
  have HB_12 := Lib.hid ((by repeat (first | exact HB_11.out | refine Below.drew ?_ | refine Below.setCell ?_ (by first | omega | (simp; done) | (simp; omega)) _ | refine Below.alloc ?_ (by first | omega | (simp; done) | (simp; omega)) _) : Below w.heap.size w _).trans (hb12.mono (by first | omega | (simp; done) | (simp; omega))))
  have nz_12 : w.heap.size ≤ w12.heap.size := HB_12.out.size
  clear hb12 x0_11 x1_11 y0_11 y1_11 o0_11 o1_11 q0_11 q1_11 u0_11 u1_11 v0_11 v1_11 a0_11 af0_11 a1_11 af1_11 b0_11 bf0_11 b1_11 bf1_11 c0_11 cf0_11 c1_11 cf1_11 d0_11 df0_11 d1_11 df1_11 HB_11
  go_wp2_with fail
  refine (Mnn.out _).mono ?_
  rintro e w13 ⟨rfl, hb13⟩
  have x0_13 : w13.cell? ⟨w1.heap.size, 0, none⟩ = some (.int .i64 m) := carry hb13 (by go_simp)
  have x1_13 : w13.cell? ⟨w1.heap.size, 1, none⟩ = some (.int .i64 e) := carry hb13 (by go_simp)
  have xz_13 : w1.heap.size < w13.heap.size := by have := hb13.size; first | omega | (simp at this; omega)
  have y0_13 : w13.cell? ⟨w2.heap.size, 0, none⟩ = some (.int .i64 k) := carry hb13 (by go_simp)
  have y1_13 : w13.cell? ⟨w2.heap.size, 1, none⟩ = some (.int .i64 f) := carry hb13 (by go_simp)
  have yz_13 : w2.heap.size < w13.heap.size := by have := hb13.size; first | omega | (simp at this; omega)
  have o0_13 : w13.cell? ⟨w2.heap.size + 1, 0, none⟩ = some (.int .i64 0) := carry hb13 (by go_simp)
  have o1_13 : w13.cell? ⟨w2.heap.size + 1, 1, none⟩ = some (.int .i64 0) := carry hb13 (by go_simp)
  have oz_13 : w2.heap.size + 1 < w13.heap.size := by have := hb13.size; first | omega | (simp at this; omega)
  have q0_13 : w13.cell? ⟨w3.heap.size, 0, none⟩ = some (.int .i64 8388608) := carry hb13 (by go_simp)
  have q1_13 : w13.cell? ⟨w3.heap.size, 1, none⟩ = some (.int .i64 (-23)) := carry hb13 (by go_simp)
  have qz_13 : w3.heap.size < w13.heap.size := by have := hb13.size; first | omega | (simp at this; omega)
  have u0_13 : w13.cell? ⟨w4.heap.size, 0, none⟩ = some (.int .i64 mm) := carry hb13 (by go_simp)
  have u1_13 : w13.cell? ⟨w4.heap.size, 1, none⟩ = some (.int .i64 e) := carry hb13 (by go_simp)
  have uz_13 : w4.heap.size < w13.heap.size := by have := hb13.size; first | omega | (simp at this; omega)
  have v0_13 : w13.cell? ⟨w5.heap.size, 0, none⟩ = some (.int .i64 kk) := carry hb13 (by go_simp)
  have v1_13 : w13.cell? ⟨w5.heap.size, 1, none⟩ = some (.int .i64 f) := carry hb13 (by go_simp)
  have vz_13 : w5.heap.size < w13.heap.size := by have := hb13.size; first | omega | (simp at this; omega)
  have a0_13 : w13.cell? ⟨w6.heap.size, 0, none⟩ = some (.int .i64 pm) := carry hb13 (by go_simp)
  have af0_13 : w13.frozen? ⟨w6.heap.size, 0, none⟩ = false := carryF hb13 (v := .int .i64 pm) (by go_simp) (by go_simp)
  have a1_13 : w13.cell? ⟨w6.heap.size, 1, none⟩ = some (.int .i64 pe) := carry hb13 (by go_simp)
  have af1_13 : w13.frozen? ⟨w6.heap.size, 1, none⟩ = false := carryF hb13 (v := .int .i64 pe) (by go_simp) (by go_simp)
  have az_13 : w6.heap.size < w13.heap.size := by have := hb13.size; first | omega | (simp at this; omega)
  have b0_13 : w13.cell? ⟨w7.heap.size, 0, none⟩ = some (.int .i64 pm) := carry hb13 (by go_simp)
  have bf0_13 : w13.frozen? ⟨w7.heap.size, 0, none⟩ = false := carryF hb13 (v := .int .i64 pm) (by go_simp) (by go_simp)
  have b1_13 : w13.cell? ⟨w7.heap.size, 1, none⟩ = some (.int .i64 pe) := carry hb13 (by go_simp)
  have bf1_13 : w13.frozen? ⟨w7.heap.size, 1, none⟩ = false := carryF hb13 (v := .int .i64 pe) (by go_simp) (by go_simp)
  have bz_13 : w7.heap.size < w13.heap.size := by have := hb13.size; first | omega | (simp at this; omega)
  have c0_13 : w13.cell? ⟨w8.heap.size, 0, none⟩ = some (.int .i64 bm) := carry hb13 (by go_simp)
  have cf0_13 : w13.frozen? ⟨w8.heap.size, 0, none⟩ = false := carryF hb13 (v := .int .i64 bm) (by go_simp) (by go_simp)
  have c1_13 : w13.cell? ⟨w8.heap.size, 1, none⟩ = some (.int .i64 ae) := carry hb13 (by go_simp)
  have cf1_13 : w13.frozen? ⟨w8.heap.size, 1, none⟩ = false := carryF hb13 (v := .int .i64 ae) (by go_simp) (by go_simp)
  have cz_13 : w8.heap.size < w13.heap.size := by have := hb13.size; first | omega | (simp at this; omega)
  have d0_13 : w13.cell? ⟨w9.heap.size, 0, none⟩ = some (.int .i64 am) := carry hb13 (by go_simp)
  have df0_13 : w13.frozen? ⟨w9.heap.size, 0, none⟩ = false := carryF hb13 (v := .int .i64 am) (by go_simp) (by go_simp)
  have d1_13 : w13.cell? ⟨w9.heap.size, 1, none⟩ = some (.int .i64 ae) := carry hb13 (by go_simp)
  have df1_13 : w13.frozen? ⟨w9.heap.size, 1, none⟩ = false := carryF hb13 (v := .int .i64 ae) (by go_simp) (by go_simp)
  have dz_13 : w9.heap.size < w13.heap.size := by have := hb13.size; first | omega | (simp at this; omega)
  have HB_13 := Lib.hid ((by repeat (first | exact HB_12.out | refine Below.drew ?_ | refine Below.setCell ?_ (by first | omega | (simp; done) | (simp; omega)) _ | refine Below.alloc ?_ (by first | omega | (simp; done) | (simp; omega)) _) : Below w.heap.size w _).trans (hb13.mono (by first | omega | (simp; done) | (simp; omega))))
  have nz_13 : w.heap.size ≤ w13.heap.size := HB_13.out.size
  clear hb13 x0_12 x1_12 y0_12 y1_12 o0_12 o1_12 q0_12 q1_12 u0_12 u1_12 v0_12 v1_12 a0_12 af0_12 a1_12 af1_12 b0_12 bf0_12 b1_12 bf1_12 c0_12 cf0_12 c1_12 cf1_12 d0_12 df0_12 d1_12 df1_12 HB_12
  go_wp2_with fail
  refine (HNp.out _).mono ?_
  rintro e w14 ⟨rfl, hb14⟩
  have x0_14 : w14.cell? ⟨w1.heap.size, 0, none⟩ = some (.int .i64 m) := carry hb14 (by go_simp)
  have x1_14 : w14.cell? ⟨w1.heap.size, 1, none⟩ = some (.int .i64 e) := carry hb14 (by go_simp)
  have xz_14 : w1.heap.size < w14.heap.size := by have := hb14.size; first | omega | (simp at this; omega)
  have y0_14 : w14.cell? ⟨w2.heap.size, 0, none⟩ = some (.int .i64 k) := carry hb14 (by go_simp)
  have y1_14 : w14.cell? ⟨w2.heap.size, 1, none⟩ = some (.int .i64 f) := carry hb14 (by go_simp)
  have yz_14 : w2.heap.size < w14.heap.size := by have := hb14.size; first | omega | (simp at this; omega)
  have o0_14 : w14.cell? ⟨w2.heap.size + 1, 0, none⟩ = some (.int .i64 0) := carry hb14 (by go_simp)
  have o1_14 : w14.cell? ⟨w2.heap.size + 1, 1, none⟩ = some (.int .i64 0) := carry hb14 (by go_simp)
  have oz_14 : w2.heap.size + 1 < w14.heap.size := by have := hb14.size; first | omega | (simp at this; omega)
  have q0_14 : w14.cell? ⟨w3.heap.size, 0, none⟩ = some (.int .i64 8388608) := carry hb14 (by go_simp)
  have q1_14 : w14.cell? ⟨w3.heap.size, 1, none⟩ = some (.int .i64 (-23)) := carry hb14 (by go_simp)
  have qz_14 : w3.heap.size < w14.heap.size := by have := hb14.size; first | omega | (simp at this; omega)
  have u0_14 : w14.cell? ⟨w4.heap.size, 0, none⟩ = some (.int .i64 mm) := carry hb14 (by go_simp)
  have u1_14 : w14.cell? ⟨w4.heap.size, 1, none⟩ = some (.int .i64 e) := carry hb14 (by go_simp)
  have uz_14 : w4.heap.size < w14.heap.size := by have := hb14.size; first | omega | (simp at this; omega)
  have v0_14 : w14.cell? ⟨w5.heap.size, 0, none⟩ = some (.int .i64 kk) := carry hb14 (by go_simp)
  have v1_14 : w14.cell? ⟨w5.heap.size, 1, none⟩ = some (.int .i64 f) := carry hb14 (by go_simp)
  have vz_14 : w5.heap.size < w14.heap.size := by have := hb14.size; first | omega | (simp at this; omega)
  have a0_14 : w14.cell? ⟨w6.heap.size, 0, none⟩ = some (.int .i64 pm) := carry hb14 (by go_simp)
  have af0_14 : w14.frozen? ⟨w6.heap.size, 0, none⟩ = false := carryF hb14 (v := .int .i64 pm) (by go_simp) (by go_simp)
  have a1_14 : w14.cell? ⟨w6.heap.size, 1, none⟩ = some (.int .i64 pe) := carry hb14 (by go_simp)
  have af1_14 : w14.frozen? ⟨w6.heap.size, 1, none⟩ = false := carryF hb14 (v := .int .i64 pe) (by go_simp) (by go_simp)
  have az_14 : w6.heap.size < w14.heap.size := by have := hb14.size; first | omega | (simp at this; omega)
  have b0_14 : w14.cell? ⟨w7.heap.size, 0, none⟩ = some (.int .i64 pm) := carry hb14 (by go_simp)
  have bf0_14 : w14.frozen? ⟨w7.heap.size, 0, none⟩ = false := carryF hb14 (v := .int .i64 pm) (by go_simp) (by go_simp)
  have b1_14 : w14.cell? ⟨w7.heap.size, 1, none⟩ = some (.int .i64 pe) := carry hb14 (by go_simp)
  have bf1_14 : w14.frozen? ⟨w7.heap.size, 1, none⟩ = false := carryF hb14 (v := .int .i64 pe) (by go_simp) (by go_simp)
  have bz_14 : w7.heap.size < w14.heap.size := by have := hb14.size; first | omega | (simp at this; omega)
  have c0_14 : w14.cell? ⟨w8.heap.size, 0, none⟩ = some (.int .i64 qm) := carry hb14 (by go_simp)
  have cf0_14 : w14.frozen? ⟨w8.heap.size, 0, none⟩ = false := carryF hb14 (v := .int .i64 qm) (by go_simp) (by go_simp)
  have c1_14 : w14.cell? ⟨w8.heap.size, 1, none⟩ = some (.int .i64 pe) := carry hb14 (by go_simp)
  have cf1_14 : w14.frozen? ⟨w8.heap.size, 1, none⟩ = false := carryF hb14 (v := .int .i64 pe) (by go_simp) (by go_simp)
  have cz_14 : w8.heap.size < w14.heap.size := by have := hb14.size; first | omega | (simp at this; omega)
  have d0_14 : w14.cell? ⟨w9.heap.size, 0, none⟩ = some (.int .i64 am) := carry hb14 (by go_simp)
  have df0_14 : w14.frozen? ⟨w9.heap.size, 0, none⟩ = false := carryF hb14 (v := .int .i64 am) (by go_simp) (by go_simp)
  have d1_14 : w14.cell? ⟨w9.heap.size, 1, none⟩ = some (.int .i64 ae) := carry hb14 (by go_simp)
  have df1_14 : w14.frozen? ⟨w9.heap.size, 1, none⟩ = false := carryF hb14 (v := .int .i64 ae) (by go_simp) (by go_simp)
  have dz_14 : w9.heap.size < w14.heap.size := by have := hb14.size; first | omega | (simp at this; omega)
  have HB_14 := Lib.hid ((by repeat (first | exact HB_13.out | refine Below.drew ?_ | refine Below.setCell ?_ (by first | omega | (simp; done) | (simp; omega)) _ | refine Below.alloc ?_ (by first | omega | (simp; done) | (simp; omega)) _) : Below w.heap.size w _).trans (hb14.mono (by first | omega | (simp; done) | (simp; omega))))
  have nz_14 : w.heap.size ≤ w14.heap.size := HB_14.out.size
  clear hb14 x0_13 x1_13 y0_13 y1_13 o0_13 o1_13 q0_13 q1_13 u0_13 u1_13 v0_13 v1_13 a0_13 af0_13 a1_13 af1_13 b0_13 bf0_13 b1_13 bf1_13 c0_13 cf0_13 c1_13 cf1_13 d0_13 df0_13 d1_13 df1_13 HB_13
  go_wp2_with fail
  refine (HEp.out _).mono ?_
  rintro e w15 ⟨rfl, hb15⟩
  have x0_15 : w15.cell? ⟨w1.heap.size, 0, none⟩ = some (.int .i64 m) := carry hb15 (by go_simp)
  have x1_15 : w15.cell? ⟨w1.heap.size, 1, none⟩ = some (.int .i64 e) := carry hb15 (by go_simp)
  have xz_15 : w1.heap.size < w15.heap.size := by have := hb15.size; first | omega | (simp at this; omega)
  have y0_15 : w15.cell? ⟨w2.heap.size, 0, none⟩ = some (.int .i64 k) := carry hb15 (by go_simp)
  have y1_15 : w15.cell? ⟨w2.heap.size, 1, none⟩ = some (.int .i64 f) := carry hb15 (by go_simp)
  have yz_15 : w2.heap.size < w15.heap.size := by have := hb15.size; first | omega | (simp at this; omega)
  have o0_15 : w15.cell? ⟨w2.heap.size + 1, 0, none⟩ = some (.int .i64 0) := carry hb15 (by go_simp)
  have o1_15 : w15.cell? ⟨w2.heap.size + 1, 1, none⟩ = some (.int .i64 0) := carry hb15 (by go_simp)
  have oz_15 : w2.heap.size + 1 < w15.heap.size := by have := hb15.size; first | omega | (simp at this; omega)
  have q0_15 : w15.cell? ⟨w3.heap.size, 0, none⟩ = some (.int .i64 8388608) := carry hb15 (by go_simp)
  have q1_15 : w15.cell? ⟨w3.heap.size, 1, none⟩ = some (.int .i64 (-23)) := carry hb15 (by go_simp)
  have qz_15 : w3.heap.size < w15.heap.size := by have := hb15.size; first | omega | (simp at this; omega)
  have u0_15 : w15.cell? ⟨w4.heap.size, 0, none⟩ = some (.int .i64 mm) := carry hb15 (by go_simp)
  have u1_15 : w15.cell? ⟨w4.heap.size, 1, none⟩ = some (.int .i64 e) := carry hb15 (by go_simp)
  have uz_15 : w4.heap.size < w15.heap.size := by have := hb15.size; first | omega | (simp at this; omega)
  have v0_15 : w15.cell? ⟨w5.heap.size, 0, none⟩ = some (.int .i64 kk) := carry hb15 (by go_simp)
  have v1_15 : w15.cell? ⟨w5.heap.size, 1, none⟩ = some (.int .i64 f) := carry hb15 (by go_simp)
  have vz_15 : w5.heap.size < w15.heap.size := by have := hb15.size; first | omega | (simp at this; omega)
  have a0_15 : w15.cell? ⟨w6.heap.size, 0, none⟩ = some (.int .i64 pm) := carry hb15 (by go_simp)
  have af0_15 : w15.frozen? ⟨w6.heap.size, 0, none⟩ = false := carryF hb15 (v := .int .i64 pm) (by go_simp) (by go_simp)
  have a1_15 : w15.cell? ⟨w6.heap.size, 1, none⟩ = some (.int .i64 pe) := carry hb15 (by go_simp)
  have af1_15 : w15.frozen? ⟨w6.heap.size, 1, none⟩ = false := carryF hb15 (v := .int .i64 pe) (by go_simp) (by go_simp)
  have az_15 : w6.heap.size < w15.heap.size := by have := hb15.size; first | omega | (simp at this; omega)
  have b0_15 : w15.cell? ⟨w7.heap.size, 0, none⟩ = some (.int .i64 pm) := carry hb15 (by go_simp)
  have bf0_15 : w15.frozen? ⟨w7.heap.size, 0, none⟩ = false := carryF hb15 (v := .int .i64 pm) (by go_simp) (by go_simp)
  have b1_15 : w15.cell? ⟨w7.heap.size, 1, none⟩ = some (.int .i64 pe) := carry hb15 (by go_simp)
  have bf1_15 : w15.frozen? ⟨w7.heap.size, 1, none⟩ = false := carryF hb15 (v := .int .i64 pe) (by go_simp) (by go_simp)
  have bz_15 : w7.heap.size < w15.heap.size := by have := hb15.size; first | omega | (simp at this; omega)
  have c0_15 : w15.cell? ⟨w8.heap.size, 0, none⟩ = some (.int .i64 qm) := carry hb15 (by go_simp)
  have cf0_15 : w15.frozen? ⟨w8.heap.size, 0, none⟩ = false := carryF hb15 (v := .int .i64 qm) (by go_simp) (by go_simp)
  have c1_15 : w15.cell? ⟨w8.heap.size, 1, none⟩ = some (.int .i64 pe) := carry hb15 (by go_simp)
  have cf1_15 : w15.frozen? ⟨w8.heap.size, 1, none⟩ = false := carryF hb15 (v := .int .i64 pe) (by go_simp) (by go_simp)
  have cz_15 : w8.heap.size < w15.heap.size := by have := hb15.size; first | omega | (simp at this; omega)
  have d0_15 : w15.cell? ⟨w9.heap.size, 0, none⟩ = some (.int .i64 pm) := carry hb15 (by go_simp)
  have df0_15 : w15.frozen? ⟨w9.heap.size, 0, none⟩ = false := carryF hb15 (v := .int .i64 pm) (by go_simp) (by go_simp)
  have d1_15 : w15.cell? ⟨w9.heap.size, 1, none⟩ = some (.int .i64 pe) := carry hb15 (by go_simp)
  have df1_15 : w15.frozen? ⟨w9.heap.size, 1, none⟩ = false := carryF hb15 (v := .int .i64 pe) (by go_simp) (by go_simp)
  have dz_15 : w9.heap.size < w15.heap.size := by have := hb15.size; first | omega | (simp at this; omega)
  have HB_15 := Lib.hid ((by repeat (first | exact HB_14.out | refine Below.drew ?_ | refine Below.setCell ?_ (by first | omega | (simp; done) | (simp; omega)) _ | refine Below.alloc ?_ (by first | omega | (simp; done) | (simp; omega)) _) : Below w.heap.size w _).trans (hb15.mono (by first | omega | (simp; done) | (simp; omega))))
  have nz_15 : w.heap.size ≤ w15.heap.size := HB_15.out.size
  clear hb15 x0_14 x1_14 y0_14 y1_14 o0_14 o1_14 q0_14 q1_14 u0_14 u1_14 v0_14 v1_14 a0_14 af0_14 a1_14 af1_14 b0_14 bf0_14 b1_14 bf1_14 c0_14 cf0_14 c1_14 cf1_14 d0_14 df0_14 d1_14 df1_14 HB_14
  go_wp2_with fail
  refine (HZ.out _).mono ?_
  rintro e w16 ⟨rfl, hb16⟩
  have x0_16 : w16.cell? ⟨w1.heap.size, 0, none⟩ = some (.int .i64 m) := carry hb16 (by go_simp)
  have x1_16 : w16.cell? ⟨w1.heap.size, 1, none⟩ = some (.int .i64 e) := carry hb16 (by go_simp)
  have xz_16 : w1.heap.size < w16.heap.size := by have := hb16.size; first | omega | (simp at this; omega)
  have y0_16 : w16.cell? ⟨w2.heap.size, 0, none⟩ = some (.int .i64 k) := carry hb16 (by go_simp)
  have y1_16 : w16.cell? ⟨w2.heap.size, 1, none⟩ = some (.int .i64 f) := carry hb16 (by go_simp)
  have yz_16 : w2.heap.size < w16.heap.size := by have := hb16.size; first | omega | (simp at this; omega)
  have o0_16 : w16.cell? ⟨w2.heap.size + 1, 0, none⟩ = some (.int .i64 0) := carry hb16 (by go_simp)
  have o1_16 : w16.cell? ⟨w2.heap.size + 1, 1, none⟩ = some (.int .i64 0) := carry hb16 (by go_simp)
  have oz_16 : w2.heap.size + 1 < w16.heap.size := by have := hb16.size; first | omega | (simp at this; omega)
  have q0_16 : w16.cell? ⟨w3.heap.size, 0, none⟩ = some (.int .i64 8388608) := carry hb16 (by go_simp)
  have q1_16 : w16.cell? ⟨w3.heap.size, 1, none⟩ = some (.int .i64 (-23)) := carry hb16 (by go_simp)
  have qz_16 : w3.heap.size < w16.heap.size := by have := hb16.size; first | omega | (simp at this; omega)
  have a0_16 : w16.cell? ⟨w6.heap.size, 0, none⟩ = some (.int .i64 pm) := carry hb16 (by go_simp)
  have af0_16 : w16.frozen? ⟨w6.heap.size, 0, none⟩ = false := carryF hb16 (v := .int .i64 pm) (by go_simp) (by go_simp)
  have a1_16 : w16.cell? ⟨w6.heap.size, 1, none⟩ = some (.int .i64 pe) := carry hb16 (by go_simp)
  have af1_16 : w16.frozen? ⟨w6.heap.size, 1, none⟩ = false := carryF hb16 (v := .int .i64 pe) (by go_simp) (by go_simp)
  have az_16 : w6.heap.size < w16.heap.size := by have := hb16.size; first | omega | (simp at this; omega)
  have b0_16 : w16.cell? ⟨w7.heap.size, 0, none⟩ = some (.int .i64 pm) := carry hb16 (by go_simp)
  have bf0_16 : w16.frozen? ⟨w7.heap.size, 0, none⟩ = false := carryF hb16 (v := .int .i64 pm) (by go_simp) (by go_simp)
  have b1_16 : w16.cell? ⟨w7.heap.size, 1, none⟩ = some (.int .i64 pe) := carry hb16 (by go_simp)
  have bf1_16 : w16.frozen? ⟨w7.heap.size, 1, none⟩ = false := carryF hb16 (v := .int .i64 pe) (by go_simp) (by go_simp)
  have bz_16 : w7.heap.size < w16.heap.size := by have := hb16.size; first | omega | (simp at this; omega)
  have c0_16 : w16.cell? ⟨w8.heap.size, 0, none⟩ = some (.int .i64 qm) := carry hb16 (by go_simp)
  have cf0_16 : w16.frozen? ⟨w8.heap.size, 0, none⟩ = false := carryF hb16 (v := .int .i64 qm) (by go_simp) (by go_simp)
  have c1_16 : w16.cell? ⟨w8.heap.size, 1, none⟩ = some (.int .i64 pe) := carry hb16 (by go_simp)
  have cf1_16 : w16.frozen? ⟨w8.heap.size, 1, none⟩ = false := carryF hb16 (v := .int .i64 pe) (by go_simp) (by go_simp)
  have cz_16 : w8.heap.size < w16.heap.size := by have := hb16.size; first | omega | (simp at this; omega)
  have HB_16 := Lib.hid ((by repeat (first | exact HB_15.out | refine Below.drew ?_ | refine Below.setCell ?_ (by first | omega | (simp; done) | (simp; omega)) _ | refine Below.alloc ?_ (by first | omega | (simp; done) | (simp; omega)) _) : Below w.heap.size w _).trans (hb16.mono (by first | omega | (simp; done) | (simp; omega))))
  have nz_16 : w.heap.size ≤ w16.heap.size := HB_16.out.size
  clear hb16 x0_15 x1_15 y0_15 y1_15 o0_15 o1_15 q0_15 q1_15 u0_15 u1_15 v0_15 v1_15 a0_15 af0_15 a1_15 af1_15 b0_15 bf0_15 b1_15 bf1_15 c0_15 cf0_15 c1_15 cf1_15 d0_15 df0_15 d1_15 df1_15 HB_15
  go_wp2_with fail
  refine (HO.out _).mono ?_
  rintro e w17 ⟨rfl, hb17⟩
  have x0_17 : w17.cell? ⟨w1.heap.size, 0, none⟩ = some (.int .i64 m) := carry hb17 (by go_simp)
  have x1_17 : w17.cell? ⟨w1.heap.size, 1, none⟩ = some (.int .i64 e) := carry hb17 (by go_simp)
  have xz_17 : w1.heap.size < w17.heap.size := by have := hb17.size; first | omega | (simp at this; omega)
  have y0_17 : w17.cell? ⟨w2.heap.size, 0, none⟩ = some (.int .i64 k) := carry hb17 (by go_simp)
  have y1_17 : w17.cell? ⟨w2.heap.size, 1, none⟩ = some (.int .i64 f) := carry hb17 (by go_simp)
  have yz_17 : w2.heap.size < w17.heap.size := by have := hb17.size; first | omega | (simp at this; omega)
  have o0_17 : w17.cell? ⟨w2.heap.size + 1, 0, none⟩ = some (.int .i64 0) := carry hb17 (by go_simp)
  have o1_17 : w17.cell? ⟨w2.heap.size + 1, 1, none⟩ = some (.int .i64 0) := carry hb17 (by go_simp)
  have oz_17 : w2.heap.size + 1 < w17.heap.size := by have := hb17.size; first | omega | (simp at this; omega)
  have q0_17 : w17.cell? ⟨w3.heap.size, 0, none⟩ = some (.int .i64 8388608) := carry hb17 (by go_simp)
  have q1_17 : w17.cell? ⟨w3.heap.size, 1, none⟩ = some (.int .i64 (-23)) := carry hb17 (by go_simp)
  have qz_17 : w3.heap.size < w17.heap.size := by have := hb17.size; first | omega | (simp at this; omega)
  have a0_17 : w17.cell? ⟨w6.heap.size, 0, none⟩ = some (.int .i64 m) := carry hb17 (by go_simp)
  have af0_17 : w17.frozen? ⟨w6.heap.size, 0, none⟩ = false := carryF hb17 (v := .int .i64 m) (by go_simp) (by go_simp)
  have a1_17 : w17.cell? ⟨w6.heap.size, 1, none⟩ = some (.int .i64 e) := carry hb17 (by go_simp)
  have af1_17 : w17.frozen? ⟨w6.heap.size, 1, none⟩ = false := carryF hb17 (v := .int .i64 e) (by go_simp) (by go_simp)
  have az_17 : w6.heap.size < w17.heap.size := by have := hb17.size; first | omega | (simp at this; omega)
  have b0_17 : w17.cell? ⟨w7.heap.size, 0, none⟩ = some (.int .i64 pm) := carry hb17 (by go_simp)
  have bf0_17 : w17.frozen? ⟨w7.heap.size, 0, none⟩ = false := carryF hb17 (v := .int .i64 pm) (by go_simp) (by go_simp)
  have b1_17 : w17.cell? ⟨w7.heap.size, 1, none⟩ = some (.int .i64 pe) := carry hb17 (by go_simp)
  have bf1_17 : w17.frozen? ⟨w7.heap.size, 1, none⟩ = false := carryF hb17 (v := .int .i64 pe) (by go_simp) (by go_simp)
  have bz_17 : w7.heap.size < w17.heap.size := by have := hb17.size; first | omega | (simp at this; omega)
  have c0_17 : w17.cell? ⟨w8.heap.size, 0, none⟩ = some (.int .i64 qm) := carry hb17 (by go_simp)
  have cf0_17 : w17.frozen? ⟨w8.heap.size, 0, none⟩ = false := carryF hb17 (v := .int .i64 qm) (by go_simp) (by go_simp)
  have c1_17 : w17.cell? ⟨w8.heap.size, 1, none⟩ = some (.int .i64 pe) := carry hb17 (by go_simp)
  have cf1_17 : w17.frozen? ⟨w8.heap.size, 1, none⟩ = false := carryF hb17 (v := .int .i64 pe) (by go_simp) (by go_simp)
  have cz_17 : w8.heap.size < w17.heap.size := by have := hb17.size; first | omega | (simp at this; omega)
  have HB_17 := Lib.hid ((by repeat (first | exact HB_16.out | refine Below.drew ?_ | refine Below.setCell ?_ (by first | omega | (simp; done) | (simp; omega)) _ | refine Below.alloc ?_ (by first | omega | (simp; done) | (simp; omega)) _) : Below w.heap.size w _).trans (hb17.mono (by first | omega | (simp; done) | (simp; omega))))
  have nz_17 : w.heap.size ≤ w17.heap.size := HB_17.out.size
  clear hb17 x0_16 x1_16 y0_16 y1_16 o0_16 o1_16 q0_16 q1_16 a0_16 af0_16 a1_16 af1_16 b0_16 bf0_16 b1_16 bf1_16 c0_16 cf0_16 c1_16 cf1_16 HB_16
  go_wp2_with fail
  refine (HD.out _).mono ?_
  rintro e w18 ⟨rfl, hb18⟩
  have x0_18 : w18.cell? ⟨w1.heap.size, 0, none⟩ = some (.int .i64 m) := carry hb18 (by go_simp)
  have x1_18 : w18.cell? ⟨w1.heap.size, 1, none⟩ = some (.int .i64 e) := carry hb18 (by go_simp)
  have xz_18 : w1.heap.size < w18.heap.size := by have := hb18.size; first | omega | (simp at this; omega)
  have y0_18 : w18.cell? ⟨w2.heap.size, 0, none⟩ = some (.int .i64 k) := carry hb18 (by go_simp)
  have y1_18 : w18.cell? ⟨w2.heap.size, 1, none⟩ = some (.int .i64 f) := carry hb18 (by go_simp)
  have yz_18 : w2.heap.size < w18.heap.size := by have := hb18.size; first | omega | (simp at this; omega)
  have o0_18 : w18.cell? ⟨w2.heap.size + 1, 0, none⟩ = some (.int .i64 0) := carry hb18 (by go_simp)
  have o1_18 : w18.cell? ⟨w2.heap.size + 1, 1, none⟩ = some (.int .i64 0) := carry hb18 (by go_simp)
  have oz_18 : w2.heap.size + 1 < w18.heap.size := by have := hb18.size; first | omega | (simp at this; omega)
  have q0_18 : w18.cell? ⟨w3.heap.size, 0, none⟩ = some (.int .i64 8388608) := carry hb18 (by go_simp)
  have q1_18 : w18.cell? ⟨w3.heap.size, 1, none⟩ = some (.int .i64 (-23)) := carry hb18 (by go_simp)
  have qz_18 : w3.heap.size < w18.heap.size := by have := hb18.size; first | omega | (simp at this; omega)
  have a0_18 : w18.cell? ⟨w6.heap.size, 0, none⟩ = some (.int .i64 m) := carry hb18 (by go_simp)
  have af0_18 : w18.frozen? ⟨w6.heap.size, 0, none⟩ = false := carryF hb18 (v := .int .i64 m) (by go_simp) (by go_simp)
  have a1_18 : w18.cell? ⟨w6.heap.size, 1, none⟩ = some (.int .i64 e) := carry hb18 (by go_simp)
  have af1_18 : w18.frozen? ⟨w6.heap.size, 1, none⟩ = false := carryF hb18 (v := .int .i64 e) (by go_simp) (by go_simp)
  have az_18 : w6.heap.size < w18.heap.size := by have := hb18.size; first | omega | (simp at this; omega)
  have b0_18 : w18.cell? ⟨w7.heap.size, 0, none⟩ = some (.int .i64 m) := carry hb18 (by go_simp)
  have bf0_18 : w18.frozen? ⟨w7.heap.size, 0, none⟩ = false := carryF hb18 (v := .int .i64 m) (by go_simp) (by go_simp)
  have b1_18 : w18.cell? ⟨w7.heap.size, 1, none⟩ = some (.int .i64 e) := carry hb18 (by go_simp)
  have bf1_18 : w18.frozen? ⟨w7.heap.size, 1, none⟩ = false := carryF hb18 (v := .int .i64 e) (by go_simp) (by go_simp)
  have bz_18 : w7.heap.size < w18.heap.size := by have := hb18.size; first | omega | (simp at this; omega)
  have c0_18 : w18.cell? ⟨w8.heap.size, 0, none⟩ = some (.int .i64 qm) := carry hb18 (by go_simp)
  have cf0_18 : w18.frozen? ⟨w8.heap.size, 0, none⟩ = false := carryF hb18 (v := .int .i64 qm) (by go_simp) (by go_simp)
  have c1_18 : w18.cell? ⟨w8.heap.size, 1, none⟩ = some (.int .i64 pe) := carry hb18 (by go_simp)
  have cf1_18 : w18.frozen? ⟨w8.heap.size, 1, none⟩ = false := carryF hb18 (v := .int .i64 pe) (by go_simp) (by go_simp)
  have cz_18 : w8.heap.size < w18.heap.size := by have := hb18.size; first | omega | (simp at this; omega)
  have HB_18 := Lib.hid ((by repeat (first | exact HB_17.out | refine Below.drew ?_ | refine Below.setCell ?_ (by first | omega | (simp; done) | (simp; omega)) _ | refine Below.alloc ?_ (by first | omega | (simp; done) | (simp; omega)) _) : Below w.heap.size w _).trans (hb18.mono (by first | omega | (simp; done) | (simp; omega))))
  have nz_18 : w.heap.size ≤ w18.heap.size := HB_18.out.size
  clear hb18 x0_17 x1_17 y0_17 y1_17 o0_17 o1_17 q0_17 q1_17 a0_17 af0_17 a1_17 af1_17 b0_17 bf0_17 b1_17 bf1_17 c0_17 cf0_17 c1_17 cf1_17 HB_17
  go_wp2_with fail
  refine (HS.out _).mono ?_
  rintro e w19 ⟨rfl, hb19⟩
  have x0_19 : w19.cell? ⟨w1.heap.size, 0, none⟩ = some (.int .i64 m) := carry hb19 (by go_simp)
  have x1_19 : w19.cell? ⟨w1.heap.size, 1, none⟩ = some (.int .i64 e) := carry hb19 (by go_simp)
  have xz_19 : w1.heap.size < w19.heap.size := by have := hb19.size; first | omega | (simp at this; omega)
  have y0_19 : w19.cell? ⟨w2.heap.size, 0, none⟩ = some (.int .i64 k) := carry hb19 (by go_simp)
  have y1_19 : w19.cell? ⟨w2.heap.size, 1, none⟩ = some (.int .i64 f) := carry hb19 (by go_simp)
  have yz_19 : w2.heap.size < w19.heap.size := by have := hb19.size; first | omega | (simp at this; omega)
  have o0_19 : w19.cell? ⟨w2.heap.size + 1, 0, none⟩ = some (.int .i64 0) := carry hb19 (by go_simp)
  have o1_19 : w19.cell? ⟨w2.heap.size + 1, 1, none⟩ = some (.int .i64 0) := carry hb19 (by go_simp)
  have oz_19 : w2.heap.size + 1 < w19.heap.size := by have := hb19.size; first | omega | (simp at this; omega)
  have q0_19 : w19.cell? ⟨w3.heap.size, 0, none⟩ = some (.int .i64 8388608) := carry hb19 (by go_simp)
  have q1_19 : w19.cell? ⟨w3.heap.size, 1, none⟩ = some (.int .i64 (-23)) := carry hb19 (by go_simp)
  have qz_19 : w3.heap.size < w19.heap.size := by have := hb19.size; first | omega | (simp at this; omega)
  have a0_19 : w19.cell? ⟨w6.heap.size, 0, none⟩ = some (.int .i64 m) := carry hb19 (by go_simp)
  have af0_19 : w19.frozen? ⟨w6.heap.size, 0, none⟩ = false := carryF hb19 (v := .int .i64 m) (by go_simp) (by go_simp)
  have a1_19 : w19.cell? ⟨w6.heap.size, 1, none⟩ = some (.int .i64 e) := carry hb19 (by go_simp)
  have af1_19 : w19.frozen? ⟨w6.heap.size, 1, none⟩ = false := carryF hb19 (v := .int .i64 e) (by go_simp) (by go_simp)
  have az_19 : w6.heap.size < w19.heap.size := by have := hb19.size; first | omega | (simp at this; omega)
  have b0_19 : w19.cell? ⟨w7.heap.size, 0, none⟩ = some (.int .i64 m) := carry hb19 (by go_simp)
  have bf0_19 : w19.frozen? ⟨w7.heap.size, 0, none⟩ = false := carryF hb19 (v := .int .i64 m) (by go_simp) (by go_simp)
  have b1_19 : w19.cell? ⟨w7.heap.size, 1, none⟩ = some (.int .i64 e) := carry hb19 (by go_simp)
  have bf1_19 : w19.frozen? ⟨w7.heap.size, 1, none⟩ = false := carryF hb19 (v := .int .i64 e) (by go_simp) (by go_simp)
  have bz_19 : w7.heap.size < w19.heap.size := by have := hb19.size; first | omega | (simp at this; omega)
  have c0_19 : w19.cell? ⟨w8.heap.size, 0, none⟩ = some (.int .i64 m) := carry hb19 (by go_simp)
  have cf0_19 : w19.frozen? ⟨w8.heap.size, 0, none⟩ = false := carryF hb19 (v := .int .i64 m) (by go_simp) (by go_simp)
  have c1_19 : w19.cell? ⟨w8.heap.size, 1, none⟩ = some (.int .i64 e) := carry hb19 (by go_simp)
  have cf1_19 : w19.frozen? ⟨w8.heap.size, 1, none⟩ = false := carryF hb19 (v := .int .i64 e) (by go_simp) (by go_simp)
  have cz_19 : w8.heap.size < w19.heap.size := by have := hb19.size; first | omega | (simp at this; omega)
  have HB_19 := Lib.hid ((by repeat (first | exact HB_18.out | refine Below.drew ?_ | refine Below.setCell ?_ (by first | omega | (simp; done) | (simp; omega)) _ | refine Below.alloc ?_ (by first | omega | (simp; done) | (simp; omega)) _) : Below w.heap.size w _).trans (hb19.mono (by first | omega | (simp; done) | (simp; omega))))
  have nz_19 : w.heap.size ≤ w19.heap.size := HB_19.out.size
  clear hb19 x0_18 x1_18 y0_18 y1_18 o0_18 o1_18 q0_18 q1_18 a0_18 af0_18 a1_18 af1_18 b0_18 bf0_18 b1_18 bf1_18 c0_18 cf0_18 c1_18 cf1_18 HB_18
  go_upto_region 25 with fail
  generalize hW : w19.alloc _ = w20
  have x0_20 : w20.cell? ⟨w1.heap.size, 0, none⟩ = some (.int .i64 m) := by rw [← hW]; clear hW; go_simp
  have x1_20 : w20.cell? ⟨w1.heap.size, 1, none⟩ = some (.int .i64 e) := by rw [← hW]; clear hW; go_simp
  have xz_20 : w1.heap.size < w20.heap.size := by rw [← hW]; clear hW; simp <;> omega
  have y0_20 : w20.cell? ⟨w2.heap.size, 0, none⟩ = some (.int .i64 k) := by rw [← hW]; clear hW; go_simp
  have y1_20 : w20.cell? ⟨w2.heap.size, 1, none⟩ = some (.int .i64 f) := by rw [← hW]; clear hW; go_simp
  have yz_20 : w2.heap.size < w20.heap.size := by rw [← hW]; clear hW; simp <;> omega
  have o0_20 : w20.cell? ⟨w2.heap.size + 1, 0, none⟩ = some (.int .i64 0) := by rw [← hW]; clear hW; go_simp
  have o1_20 : w20.cell? ⟨w2.heap.size + 1, 1, none⟩ = some (.int .i64 0) := by rw [← hW]; clear hW; go_simp
  have oz_20 : w2.heap.size + 1 < w20.heap.size := by rw [← hW]; clear hW; simp <;> omega
  have a0_20 : w20.cell? ⟨w6.heap.size, 0, none⟩ = some (.int .i64 m) := by rw [← hW]; clear hW; go_simp
  have a1_20 : w20.cell? ⟨w6.heap.size, 1, none⟩ = some (.int .i64 e) := by rw [← hW]; clear hW; go_simp
  have az_20 : w6.heap.size < w20.heap.size := by rw [← hW]; clear hW; simp <;> omega
  have b0_20 : w20.cell? ⟨w7.heap.size, 0, none⟩ = some (.int .i64 m) := by rw [← hW]; clear hW; go_simp
  have b1_20 : w20.cell? ⟨w7.heap.size, 1, none⟩ = some (.int .i64 e) := by rw [← hW]; clear hW; go_simp
  have bz_20 : w7.heap.size < w20.heap.size := by rw [← hW]; clear hW; simp <;> omega
  have c0_20 : w20.cell? ⟨w8.heap.size, 0, none⟩ = some (.int .i64 m) := by rw [← hW]; clear hW; go_simp
  have c1_20 : w20.cell? ⟨w8.heap.size, 1, none⟩ = some (.int .i64 e) := by rw [← hW]; clear hW; go_simp
  have cz_20 : w8.heap.size < w20.heap.size := by rw [← hW]; clear hW; simp <;> omega
  have g0_20 : w20.cell? ⟨w19.heap.size, 0, none⟩ = some (.int .i64 dm) := by rw [← hW]; clear hW; go_simp
  have gf0_20 : w20.frozen? ⟨w19.heap.size, 0, none⟩ = false := by rw [← hW]; clear hW; go_simp
  have g1_20 : w20.cell? ⟨w19.heap.size, 1, none⟩ = some (.int .i64 de) := by rw [← hW]; clear hW; go_simp
  have gf1_20 : w20.frozen? ⟨w19.heap.size, 1, none⟩ = false := by rw [← hW]; clear hW; go_simp
  have gz_20 : w19.heap.size < w20.heap.size := by rw [← hW]; clear hW; simp <;> omega
  have HB_20 := Lib.hid ((by rw [← hW]; clear hW; exact Below.alloc HB_19.out (by have := HB_19.out.size; omega) _) : Below w.heap.size w w20)
  clear hW HB_19 x0_19 x1_19 y0_19 y1_19 o0_19 o1_19 q0_19 q1_19 a0_19 af0_19 a1_19 af1_19 b0_19 bf0_19 b1_19 bf1_19 c0_19 cf0_19 c1_19 cf1_19
  have nz_20 : w.heap.size ≤ w20.heap.size := HB_20.out.size
  go_cut [188] from 157 to 188 (fun s188 wx => s188 = .bool false ∧ wx.cell? ⟨w1.heap.size, 0, none⟩ = some (.int .i64 m) ∧ wx.cell? ⟨w1.heap.size, 1, none⟩ = some (.int .i64 e) ∧ w1.heap.size < wx.heap.size ∧ wx.cell? ⟨w2.heap.size, 0, none⟩ = some (.int .i64 k) ∧ wx.cell? ⟨w2.heap.size, 1, none⟩ = some (.int .i64 f) ∧ w2.heap.size < wx.heap.size ∧ wx.cell? ⟨w19.heap.size, 0, none⟩ = some (.int .i64 dm) ∧ wx.cell? ⟨w19.heap.size, 1, none⟩ = some (.int .i64 de) ∧ wx.frozen? ⟨w19.heap.size, 0, none⟩ = false ∧ wx.frozen? ⟨w19.heap.size, 1, none⟩ = false ∧ w19.heap.size < wx.heap.size ∧ Below w.heap.size w wx)
  case first =>
    rcases HD3 with h3 | ⟨_, rfl, rfl, rfl, rfl⟩ | ⟨_, n1, n2⟩ | ⟨_, rfl, n1, n2⟩
    · exact absurd h3 (by decide)
    · skip
      have K0 := Lib.hid (Below.refl w20.heap.size w20)
      have SK := Lib.hid (show ∀ wx, Below w20.heap.size w20 wx → wx.cell? ⟨w1.heap.size, 0, none⟩ = some (.int .i64 m) ∧ wx.cell? ⟨w1.heap.size, 1, none⟩ = some (.int .i64 e) ∧ w1.heap.size < wx.heap.size ∧ wx.cell? ⟨w2.heap.size, 0, none⟩ = some (.int .i64 m) ∧ wx.cell? ⟨w2.heap.size, 1, none⟩ = some (.int .i64 e) ∧ w2.heap.size < wx.heap.size ∧ wx.cell? ⟨w6.heap.size, 0, none⟩ = some (.int .i64 m) ∧ wx.cell? ⟨w6.heap.size, 1, none⟩ = some (.int .i64 e) ∧ w6.heap.size < wx.heap.size ∧ wx.cell? ⟨w7.heap.size, 0, none⟩ = some (.int .i64 m) ∧ wx.cell? ⟨w7.heap.size, 1, none⟩ = some (.int .i64 e) ∧ w7.heap.size < wx.heap.size ∧ wx.cell? ⟨w8.heap.size, 0, none⟩ = some (.int .i64 m) ∧ wx.cell? ⟨w8.heap.size, 1, none⟩ = some (.int .i64 e) ∧ w8.heap.size < wx.heap.size ∧ wx.cell? ⟨w2.heap.size + 1, 0, none⟩ = some (.int .i64 0) ∧ wx.cell? ⟨w2.heap.size + 1, 1, none⟩ = some (.int .i64 0) ∧ w2.heap.size + 1 < wx.heap.size ∧ wx.cell? ⟨w19.heap.size, 0, none⟩ = some (.int .i64 0) ∧ wx.cell? ⟨w19.heap.size, 1, none⟩ = some (.int .i64 0) ∧ w19.heap.size < wx.heap.size ∧ Below w20.heap.size w20 wx from fun wx h => ⟨carry h x0_20, carry h x1_20, Nat.lt_of_lt_of_le xz_20 h.size, carry h y0_20, carry h y1_20, Nat.lt_of_lt_of_le yz_20 h.size, carry h a0_20, carry h a1_20, Nat.lt_of_lt_of_le az_20 h.size, carry h b0_20, carry h b1_20, Nat.lt_of_lt_of_le bz_20 h.size, carry h c0_20, carry h c1_20, Nat.lt_of_lt_of_le cz_20 h.size, carry h o0_20, carry h o1_20, Nat.lt_of_lt_of_le oz_20 h.size, carry h g0_20, carry h g1_20, Nat.lt_of_lt_of_le gz_20 h.size, h⟩)
      go_region_held3 (fun wx => wx.cell? ⟨w1.heap.size, 0, none⟩ = some (.int .i64 m) ∧ wx.cell? ⟨w1.heap.size, 1, none⟩ = some (.int .i64 e) ∧ w1.heap.size < wx.heap.size ∧ wx.cell? ⟨w2.heap.size, 0, none⟩ = some (.int .i64 m) ∧ wx.cell? ⟨w2.heap.size, 1, none⟩ = some (.int .i64 e) ∧ w2.heap.size < wx.heap.size ∧ wx.cell? ⟨w6.heap.size, 0, none⟩ = some (.int .i64 m) ∧ wx.cell? ⟨w6.heap.size, 1, none⟩ = some (.int .i64 e) ∧ w6.heap.size < wx.heap.size ∧ wx.cell? ⟨w7.heap.size, 0, none⟩ = some (.int .i64 m) ∧ wx.cell? ⟨w7.heap.size, 1, none⟩ = some (.int .i64 e) ∧ w7.heap.size < wx.heap.size ∧ wx.cell? ⟨w8.heap.size, 0, none⟩ = some (.int .i64 m) ∧ wx.cell? ⟨w8.heap.size, 1, none⟩ = some (.int .i64 e) ∧ w8.heap.size < wx.heap.size ∧ wx.cell? ⟨w2.heap.size + 1, 0, none⟩ = some (.int .i64 0) ∧ wx.cell? ⟨w2.heap.size + 1, 1, none⟩ = some (.int .i64 0) ∧ w2.heap.size + 1 < wx.heap.size ∧ wx.cell? ⟨w19.heap.size, 0, none⟩ = some (.int .i64 0) ∧ wx.cell? ⟨w19.heap.size, 1, none⟩ = some (.int .i64 0) ∧ w19.heap.size < wx.heap.size ∧ Below w20.heap.size w20 wx) (first | (go_keep; done) | exact SK.out _ (by first | with_reducible assumption | with_reducible exact K0.out | with_reducible exact K0.out.drew | with_reducible exact Below.drew (by with_reducible assumption)))
        (first
          | (go_at_call 8; ((with_reducible refine (HI.out _).mono ?_); rintro r wq ⟨rfl, hbq⟩; have qb : Below w20.heap.size w20 wq := Below.trans (by first | with_reducible assumption | with_reducible exact K0.out | with_reducible exact K0.out.drew | with_reducible exact Below.drew (by with_reducible assumption)) (hbq.mono (Below.size (by first | with_reducible assumption | with_reducible exact K0.out | with_reducible exact K0.out.drew | with_reducible exact Below.drew (by with_reducible assumption)))))))
      go_wp2_with fail
      go_meet
      case rel => exact ⟨rfl, carry qb x0_20, carry qb x1_20, Nat.lt_of_lt_of_le xz_20 qb.size, carry qb y0_20, carry qb y1_20, Nat.lt_of_lt_of_le yz_20 qb.size, carry qb g0_20, carry qb g1_20, carryF qb g0_20 gf0_20, carryF qb g1_20 gf1_20, Nat.lt_of_lt_of_le gz_20 qb.size, HB_20.out.trans (qb.mono nz_20)⟩
    · skip
      have K0 := Lib.hid (Below.refl w20.heap.size w20)
      have SK := Lib.hid (show ∀ wx, Below w20.heap.size w20 wx → wx.cell? ⟨w1.heap.size, 0, none⟩ = some (.int .i64 m) ∧ wx.cell? ⟨w1.heap.size, 1, none⟩ = some (.int .i64 e) ∧ w1.heap.size < wx.heap.size ∧ wx.cell? ⟨w2.heap.size, 0, none⟩ = some (.int .i64 k) ∧ wx.cell? ⟨w2.heap.size, 1, none⟩ = some (.int .i64 f) ∧ w2.heap.size < wx.heap.size ∧ wx.cell? ⟨w6.heap.size, 0, none⟩ = some (.int .i64 m) ∧ wx.cell? ⟨w6.heap.size, 1, none⟩ = some (.int .i64 e) ∧ w6.heap.size < wx.heap.size ∧ wx.cell? ⟨w7.heap.size, 0, none⟩ = some (.int .i64 m) ∧ wx.cell? ⟨w7.heap.size, 1, none⟩ = some (.int .i64 e) ∧ w7.heap.size < wx.heap.size ∧ wx.cell? ⟨w8.heap.size, 0, none⟩ = some (.int .i64 m) ∧ wx.cell? ⟨w8.heap.size, 1, none⟩ = some (.int .i64 e) ∧ w8.heap.size < wx.heap.size ∧ wx.cell? ⟨w2.heap.size + 1, 0, none⟩ = some (.int .i64 0) ∧ wx.cell? ⟨w2.heap.size + 1, 1, none⟩ = some (.int .i64 0) ∧ w2.heap.size + 1 < wx.heap.size ∧ wx.cell? ⟨w19.heap.size, 0, none⟩ = some (.int .i64 dm) ∧ wx.cell? ⟨w19.heap.size, 1, none⟩ = some (.int .i64 de) ∧ w19.heap.size < wx.heap.size ∧ Below w20.heap.size w20 wx from fun wx h => ⟨carry h x0_20, carry h x1_20, Nat.lt_of_lt_of_le xz_20 h.size, carry h y0_20, carry h y1_20, Nat.lt_of_lt_of_le yz_20 h.size, carry h a0_20, carry h a1_20, Nat.lt_of_lt_of_le az_20 h.size, carry h b0_20, carry h b1_20, Nat.lt_of_lt_of_le bz_20 h.size, carry h c0_20, carry h c1_20, Nat.lt_of_lt_of_le cz_20 h.size, carry h o0_20, carry h o1_20, Nat.lt_of_lt_of_le oz_20 h.size, carry h g0_20, carry h g1_20, Nat.lt_of_lt_of_le gz_20 h.size, h⟩)
      go_region_held3 (fun wx => wx.cell? ⟨w1.heap.size, 0, none⟩ = some (.int .i64 m) ∧ wx.cell? ⟨w1.heap.size, 1, none⟩ = some (.int .i64 e) ∧ w1.heap.size < wx.heap.size ∧ wx.cell? ⟨w2.heap.size, 0, none⟩ = some (.int .i64 k) ∧ wx.cell? ⟨w2.heap.size, 1, none⟩ = some (.int .i64 f) ∧ w2.heap.size < wx.heap.size ∧ wx.cell? ⟨w6.heap.size, 0, none⟩ = some (.int .i64 m) ∧ wx.cell? ⟨w6.heap.size, 1, none⟩ = some (.int .i64 e) ∧ w6.heap.size < wx.heap.size ∧ wx.cell? ⟨w7.heap.size, 0, none⟩ = some (.int .i64 m) ∧ wx.cell? ⟨w7.heap.size, 1, none⟩ = some (.int .i64 e) ∧ w7.heap.size < wx.heap.size ∧ wx.cell? ⟨w8.heap.size, 0, none⟩ = some (.int .i64 m) ∧ wx.cell? ⟨w8.heap.size, 1, none⟩ = some (.int .i64 e) ∧ w8.heap.size < wx.heap.size ∧ wx.cell? ⟨w2.heap.size + 1, 0, none⟩ = some (.int .i64 0) ∧ wx.cell? ⟨w2.heap.size + 1, 1, none⟩ = some (.int .i64 0) ∧ w2.heap.size + 1 < wx.heap.size ∧ wx.cell? ⟨w19.heap.size, 0, none⟩ = some (.int .i64 dm) ∧ wx.cell? ⟨w19.heap.size, 1, none⟩ = some (.int .i64 de) ∧ w19.heap.size < wx.heap.size ∧ Below w20.heap.size w20 wx) (first | (go_keep; done) | exact SK.out _ (by first | with_reducible assumption | with_reducible exact K0.out | with_reducible exact K0.out.drew | with_reducible exact Below.drew (by with_reducible assumption)))
        (first
          | (go_at_call 8; ((with_reducible refine (HI.out _).mono ?_); rintro r wq ⟨rfl, hbq⟩; have qb : Below w20.heap.size w20 wq := Below.trans (by first | with_reducible assumption | with_reducible exact K0.out | with_reducible exact K0.out.drew | with_reducible exact Below.drew (by with_reducible assumption)) (hbq.mono (Below.size (by first | with_reducible assumption | with_reducible exact K0.out | with_reducible exact K0.out.drew | with_reducible exact Below.drew (by with_reducible assumption)))))))
      go_wp2_with fail
      go_meet
      case rel => exact ⟨rfl, carry qb x0_20, carry qb x1_20, Nat.lt_of_lt_of_le xz_20 qb.size, carry qb y0_20, carry qb y1_20, Nat.lt_of_lt_of_le yz_20 qb.size, carry qb g0_20, carry qb g1_20, carryF qb g0_20 gf0_20, carryF qb g1_20 gf1_20, Nat.lt_of_lt_of_le gz_20 qb.size, HB_20.out.trans (qb.mono nz_20)⟩
    · skip
      have K0 := Lib.hid (Below.refl w20.heap.size w20)
      have SK := Lib.hid (show ∀ wx, Below w20.heap.size w20 wx → wx.cell? ⟨w1.heap.size, 0, none⟩ = some (.int .i64 m) ∧ wx.cell? ⟨w1.heap.size, 1, none⟩ = some (.int .i64 e) ∧ w1.heap.size < wx.heap.size ∧ wx.cell? ⟨w2.heap.size, 0, none⟩ = some (.int .i64 m) ∧ wx.cell? ⟨w2.heap.size, 1, none⟩ = some (.int .i64 f) ∧ w2.heap.size < wx.heap.size ∧ wx.cell? ⟨w6.heap.size, 0, none⟩ = some (.int .i64 m) ∧ wx.cell? ⟨w6.heap.size, 1, none⟩ = some (.int .i64 e) ∧ w6.heap.size < wx.heap.size ∧ wx.cell? ⟨w7.heap.size, 0, none⟩ = some (.int .i64 m) ∧ wx.cell? ⟨w7.heap.size, 1, none⟩ = some (.int .i64 e) ∧ w7.heap.size < wx.heap.size ∧ wx.cell? ⟨w8.heap.size, 0, none⟩ = some (.int .i64 m) ∧ wx.cell? ⟨w8.heap.size, 1, none⟩ = some (.int .i64 e) ∧ w8.heap.size < wx.heap.size ∧ wx.cell? ⟨w2.heap.size + 1, 0, none⟩ = some (.int .i64 0) ∧ wx.cell? ⟨w2.heap.size + 1, 1, none⟩ = some (.int .i64 0) ∧ w2.heap.size + 1 < wx.heap.size ∧ wx.cell? ⟨w19.heap.size, 0, none⟩ = some (.int .i64 dm) ∧ wx.cell? ⟨w19.heap.size, 1, none⟩ = some (.int .i64 de) ∧ w19.heap.size < wx.heap.size ∧ Below w20.heap.size w20 wx from fun wx h => ⟨carry h x0_20, carry h x1_20, Nat.lt_of_lt_of_le xz_20 h.size, carry h y0_20, carry h y1_20, Nat.lt_of_lt_of_le yz_20 h.size, carry h a0_20, carry h a1_20, Nat.lt_of_lt_of_le az_20 h.size, carry h b0_20, carry h b1_20, Nat.lt_of_lt_of_le bz_20 h.size, carry h c0_20, carry h c1_20, Nat.lt_of_lt_of_le cz_20 h.size, carry h o0_20, carry h o1_20, Nat.lt_of_lt_of_le oz_20 h.size, carry h g0_20, carry h g1_20, Nat.lt_of_lt_of_le gz_20 h.size, h⟩)
      go_region_held3 (fun wx => wx.cell? ⟨w1.heap.size, 0, none⟩ = some (.int .i64 m) ∧ wx.cell? ⟨w1.heap.size, 1, none⟩ = some (.int .i64 e) ∧ w1.heap.size < wx.heap.size ∧ wx.cell? ⟨w2.heap.size, 0, none⟩ = some (.int .i64 m) ∧ wx.cell? ⟨w2.heap.size, 1, none⟩ = some (.int .i64 f) ∧ w2.heap.size < wx.heap.size ∧ wx.cell? ⟨w6.heap.size, 0, none⟩ = some (.int .i64 m) ∧ wx.cell? ⟨w6.heap.size, 1, none⟩ = some (.int .i64 e) ∧ w6.heap.size < wx.heap.size ∧ wx.cell? ⟨w7.heap.size, 0, none⟩ = some (.int .i64 m) ∧ wx.cell? ⟨w7.heap.size, 1, none⟩ = some (.int .i64 e) ∧ w7.heap.size < wx.heap.size ∧ wx.cell? ⟨w8.heap.size, 0, none⟩ = some (.int .i64 m) ∧ wx.cell? ⟨w8.heap.size, 1, none⟩ = some (.int .i64 e) ∧ w8.heap.size < wx.heap.size ∧ wx.cell? ⟨w2.heap.size + 1, 0, none⟩ = some (.int .i64 0) ∧ wx.cell? ⟨w2.heap.size + 1, 1, none⟩ = some (.int .i64 0) ∧ w2.heap.size + 1 < wx.heap.size ∧ wx.cell? ⟨w19.heap.size, 0, none⟩ = some (.int .i64 dm) ∧ wx.cell? ⟨w19.heap.size, 1, none⟩ = some (.int .i64 de) ∧ w19.heap.size < wx.heap.size ∧ Below w20.heap.size w20 wx) (first | (go_keep; done) | exact SK.out _ (by first | with_reducible assumption | with_reducible exact K0.out | with_reducible exact K0.out.drew | with_reducible exact Below.drew (by with_reducible assumption)))
        (first
          | (go_at_call 8; ((with_reducible refine (HI.out _).mono ?_); rintro r wq ⟨rfl, hbq⟩; have qb : Below w20.heap.size w20 wq := Below.trans (by first | with_reducible assumption | with_reducible exact K0.out | with_reducible exact K0.out.drew | with_reducible exact Below.drew (by with_reducible assumption)) (hbq.mono (Below.size (by first | with_reducible assumption | with_reducible exact K0.out | with_reducible exact K0.out.drew | with_reducible exact Below.drew (by with_reducible assumption)))))))
      go_wp2_with fail
      go_meet
      case rel => exact ⟨rfl, carry qb x0_20, carry qb x1_20, Nat.lt_of_lt_of_le xz_20 qb.size, carry qb y0_20, carry qb y1_20, Nat.lt_of_lt_of_le yz_20 qb.size, carry qb g0_20, carry qb g1_20, carryF qb g0_20 gf0_20, carryF qb g1_20 gf1_20, Nat.lt_of_lt_of_le gz_20 qb.size, HB_20.out.trans (qb.mono nz_20)⟩
  case rest =>
  clear HB_20 x0_20 x1_20 y0_20 y1_20 o0_20 o1_20 a0_20 a1_20 b0_20 b1_20 c0_20 c1_20 g0_20 gf0_20 g1_20 gf1_20 xz_20 yz_20 oz_20 az_20 bz_20 cz_20 gz_20
  obtain ⟨w21, rfl⟩ : ∃ x, x = wc := ⟨_, rfl⟩
  obtain ⟨rfl, x0_21, x1_21, xz_21, y0_21, y1_21, yz_21, g0_21, g1_21, gf0_21, gf1_21, gz_21, hb9⟩ := hcut
  have HB_21 := Lib.hid hb9
  clear hb9
  have nz_21 : w.heap.size ≤ w21.heap.size := HB_21.out.size
  clear HD3
  go_upto_region 27 with fail
  go_cut [20, 10] from 189 to 194 (fun s20 s10 wx => ∃ B, s20 = .pointer (some ⟨B, 0, none⟩) ∧ s10 = .int .i64 0 ∧ wx.cell? ⟨B, 0, none⟩ = some (.int .i64 hm) ∧ wx.cell? ⟨B, 1, none⟩ = some (.int .i64 he) ∧ B < wx.heap.size ∧ wx.cell? ⟨w1.heap.size, 0, none⟩ = some (.int .i64 m) ∧ wx.cell? ⟨w1.heap.size, 1, none⟩ = some (.int .i64 e) ∧ w1.heap.size < wx.heap.size ∧ wx.cell? ⟨w2.heap.size, 0, none⟩ = some (.int .i64 k) ∧ wx.cell? ⟨w2.heap.size, 1, none⟩ = some (.int .i64 f) ∧ w2.heap.size < wx.heap.size ∧ wx.cell? ⟨w19.heap.size, 0, none⟩ = some (.int .i64 dm) ∧ wx.cell? ⟨w19.heap.size, 1, none⟩ = some (.int .i64 de) ∧ wx.frozen? ⟨w19.heap.size, 0, none⟩ = false ∧ wx.frozen? ⟨w19.heap.size, 1, none⟩ = false ∧ w19.heap.size < wx.heap.size ∧ Below w.heap.size w wx)
  case first =>
    have K0 := Lib.hid (Below.refl w21.heap.size w21)
    have SK := Lib.hid (show ∀ wx, Below w21.heap.size w21 wx → wx.cell? ⟨w2.heap.size, 0, none⟩ = some (.int .i64 k) ∧ wx.cell? ⟨w2.heap.size, 1, none⟩ = some (.int .i64 f) ∧ w2.heap.size < wx.heap.size ∧ w21.heap.size ≤ wx.heap.size ∧ Below w21.heap.size w21 wx from fun wx h => ⟨carry h y0_21, carry h y1_21, Nat.lt_of_lt_of_le yz_21 h.size, h.size, h⟩)
    go_region_held3 (fun wx => wx.cell? ⟨w2.heap.size, 0, none⟩ = some (.int .i64 k) ∧ wx.cell? ⟨w2.heap.size, 1, none⟩ = some (.int .i64 f) ∧ w2.heap.size < wx.heap.size ∧ w21.heap.size ≤ wx.heap.size ∧ Below w21.heap.size w21 wx) (((try go_split_ands); exact SK.out _ (by repeat (first | with_reducible assumption | with_reducible exact K0.out | with_reducible refine Below.drew ?_ | with_reducible refine Below.setCell ?_ (by first | with_reducible exact Nat.le_refl _ | with_reducible assumption | (simp; done) | (simp <;> omega) | (have := hbq.size; simp at this ⊢; omega)) _ | with_reducible refine Below.alloc ?_ (by first | with_reducible exact Nat.le_refl _ | with_reducible assumption | (simp; done) | (simp <;> omega) | (have := hbq.size; simp at this ⊢; omega)) _))))
    (first
        | (go_at_call 36; ((with_reducible refine (H2.out _).mono ?_); rintro r wF ⟨rfl, hbq⟩; have hbw : Below w21.heap.size w21 wF := (by first | exact K0.out.drew.trans hbq | exact K0.out.trans hbq | exact (K0.out.alloc (Nat.le_refl _) _).drew.trans (hbq.mono (by simp)) | exact (K0.out.drew.alloc (Nat.le_refl _) _).trans (hbq.mono (by simp)) | exact (K0.out.alloc (Nat.le_refl _) _).trans (hbq.mono (by simp))); have hzw : w21.heap.size ≤ wF.heap.size := hbw.size; (try (have qq := carry_two hbq; obtain ⟨q0, q1, t0, t1, tz⟩ := qq)); (try (have qq := carry_two' hbq; obtain ⟨q0, q1, t0, t1, tz⟩ := qq))))
        | (go_at_call 25; ((with_reducible refine (HM.out _).mono ?_); rintro r wS ⟨rfl, hbq⟩; have qq := carry_two' hbq; obtain ⟨q0, q1, t0, t1, tz⟩ := qq; have hbv : Below w21.heap.size w21 wS := (hbw.alloc hzw _).trans (hbq.mono (by simp <;> omega)); have hzv : w21.heap.size ≤ wS.heap.size := hbv.size))
        | (go_at_call 25; ((with_reducible refine (HM.out _).mono ?_); rintro r wS ⟨rfl, hbq⟩; have p0 := carry hbq q0; have p1 := carry hbq q1; have s0 := carryF hbq q0 t0; have s1 := carryF hbq q1 t1; have sz := Nat.lt_of_lt_of_le tz hbq.size; have hbv : Below w21.heap.size w21 wS := hbw.trans (hbq.mono hzw); have hzv : w21.heap.size ≤ wS.heap.size := hbv.size))
        | (go_at_call 25; ((with_reducible refine (HM.out _).mono ?_); rintro r wS ⟨rfl, hbq⟩; have hbv : Below w21.heap.size w21 wS := hbw.trans (hbq.mono hzw); have hzv : w21.heap.size ≤ wS.heap.size := hbv.size)))
    · have HBS := Lib.hid (HB_21.out.trans (hbv.mono nz_21))
      have hbB : w21.heap.size ≤ wS.heap.size := by omega
      have sx0 := carry hbv x0_21
      have sx1 := carry hbv x1_21
      have sxz : w1.heap.size < wS.heap.size := Nat.lt_of_lt_of_le xz_21 hzv
      have sxn : w1.heap.size ≠ wS.heap.size := by omega
      have sy0 := carry hbv y0_21
      have sy1 := carry hbv y1_21
      have syz : w2.heap.size < wS.heap.size := Nat.lt_of_lt_of_le yz_21 hzv
      have syn : w2.heap.size ≠ wS.heap.size := by omega
      have sg0 := carry hbv g0_21
      have sg1 := carry hbv g1_21
      have sfg0 := carryF hbv g0_21 gf0_21
      have sfg1 := carryF hbv g1_21 gf1_21
      have sgz : w19.heap.size < wS.heap.size := Nat.lt_of_lt_of_le gz_21 hzv
      have sgn : w19.heap.size ≠ wS.heap.size := by omega
      go_wp2_with fail
      go_meet
      case rel =>
        generalize hW : wS.alloc _ = wz
        exact ⟨_, rfl, rfl, (show wz.cell? ⟨wS.heap.size, 0, none⟩ = some (.int .i64 hm) by rw [← hW]; clear hW; go_simp), (show wz.cell? ⟨wS.heap.size, 1, none⟩ = some (.int .i64 he) by rw [← hW]; clear hW; go_simp), (show wS.heap.size < wz.heap.size by rw [← hW]; clear hW; simp <;> omega), (show wz.cell? ⟨w1.heap.size, 0, none⟩ = some (.int .i64 m) by rw [← hW]; clear hW; go_simp), (show wz.cell? ⟨w1.heap.size, 1, none⟩ = some (.int .i64 e) by rw [← hW]; clear hW; go_simp), (show w1.heap.size < wz.heap.size by rw [← hW]; clear hW; simp <;> omega), (show wz.cell? ⟨w2.heap.size, 0, none⟩ = some (.int .i64 k) by rw [← hW]; clear hW; go_simp), (show wz.cell? ⟨w2.heap.size, 1, none⟩ = some (.int .i64 f) by rw [← hW]; clear hW; go_simp), (show w2.heap.size < wz.heap.size by rw [← hW]; clear hW; simp <;> omega), (show wz.cell? ⟨w19.heap.size, 0, none⟩ = some (.int .i64 dm) by rw [← hW]; clear hW; go_simp), (show wz.cell? ⟨w19.heap.size, 1, none⟩ = some (.int .i64 de) by rw [← hW]; clear hW; go_simp), (show wz.frozen? ⟨w19.heap.size, 0, none⟩ = false by rw [← hW]; clear hW; go_simp), (show wz.frozen? ⟨w19.heap.size, 1, none⟩ = false by rw [← hW]; clear hW; go_simp), (show w19.heap.size < wz.heap.size by rw [← hW]; clear hW; simp <;> omega), (show Below w.heap.size w wz by rw [← hW]; clear hW; have hs := HBS.out.size; have hn := nz_21; repeat (first | exact HBS.out | refine Below.drew ?_ | refine Below.setCell ?_ (by first | omega | (simp; done) | (simp; omega)) _ | refine Below.alloc ?_ (by first | omega | (simp; done) | (simp; omega)) _))⟩
    · have HBS := Lib.hid (HB_21.out.trans (hbv.mono nz_21))
      have hbB : w21.heap.size ≤ wF.heap.size := by omega
      have sx0 := carry hbv x0_21
      have sx1 := carry hbv x1_21
      have sxz : w1.heap.size < wS.heap.size := Nat.lt_of_lt_of_le xz_21 hzv
      have sxn : w1.heap.size ≠ wF.heap.size := by omega
      have sy0 := carry hbv y0_21
      have sy1 := carry hbv y1_21
      have syz : w2.heap.size < wS.heap.size := Nat.lt_of_lt_of_le yz_21 hzv
      have syn : w2.heap.size ≠ wF.heap.size := by omega
      have sg0 := carry hbv g0_21
      have sg1 := carry hbv g1_21
      have sfg0 := carryF hbv g0_21 gf0_21
      have sfg1 := carryF hbv g1_21 gf1_21
      have sgz : w19.heap.size < wS.heap.size := Nat.lt_of_lt_of_le gz_21 hzv
      have sgn : w19.heap.size ≠ wF.heap.size := by omega
      go_wp2_with fail
      go_meet
      case rel =>
        generalize hW : (wS.setCell _ _).setCell _ _ = wz
        exact ⟨_, rfl, rfl, (show wz.cell? ⟨wF.heap.size, 0, none⟩ = some (.int .i64 hm) by rw [← hW]; clear hW; go_simp), (show wz.cell? ⟨wF.heap.size, 1, none⟩ = some (.int .i64 he) by rw [← hW]; clear hW; go_simp), (show wF.heap.size < wz.heap.size by rw [← hW]; clear hW; simp <;> omega), (show wz.cell? ⟨w1.heap.size, 0, none⟩ = some (.int .i64 m) by rw [← hW]; clear hW; go_simp), (show wz.cell? ⟨w1.heap.size, 1, none⟩ = some (.int .i64 e) by rw [← hW]; clear hW; go_simp), (show w1.heap.size < wz.heap.size by rw [← hW]; clear hW; simp <;> omega), (show wz.cell? ⟨w2.heap.size, 0, none⟩ = some (.int .i64 k) by rw [← hW]; clear hW; go_simp), (show wz.cell? ⟨w2.heap.size, 1, none⟩ = some (.int .i64 f) by rw [← hW]; clear hW; go_simp), (show w2.heap.size < wz.heap.size by rw [← hW]; clear hW; simp <;> omega), (show wz.cell? ⟨w19.heap.size, 0, none⟩ = some (.int .i64 dm) by rw [← hW]; clear hW; go_simp), (show wz.cell? ⟨w19.heap.size, 1, none⟩ = some (.int .i64 de) by rw [← hW]; clear hW; go_simp), (show wz.frozen? ⟨w19.heap.size, 0, none⟩ = false by rw [← hW]; clear hW; go_simp), (show wz.frozen? ⟨w19.heap.size, 1, none⟩ = false by rw [← hW]; clear hW; go_simp), (show w19.heap.size < wz.heap.size by rw [← hW]; clear hW; simp <;> omega), (show Below w.heap.size w wz by rw [← hW]; clear hW; have hs := HBS.out.size; have hn := nz_21; repeat (first | exact HBS.out | refine Below.drew ?_ | refine Below.setCell ?_ (by first | omega | (simp; done) | (simp; omega)) _ | refine Below.alloc ?_ (by first | omega | (simp; done) | (simp; omega)) _))⟩
    · have HBS := Lib.hid (HB_21.out.trans (hbv.mono nz_21))
      have hbB : w21.heap.size ≤ w21.heap.size := by omega
      have sx0 := carry hbv x0_21
      have sx1 := carry hbv x1_21
      have sxz : w1.heap.size < wS.heap.size := Nat.lt_of_lt_of_le xz_21 hzv
      have sxn : w1.heap.size ≠ w21.heap.size := by omega
      have sy0 := carry hbv y0_21
      have sy1 := carry hbv y1_21
      have syz : w2.heap.size < wS.heap.size := Nat.lt_of_lt_of_le yz_21 hzv
      have syn : w2.heap.size ≠ w21.heap.size := by omega
      have sg0 := carry hbv g0_21
      have sg1 := carry hbv g1_21
      have sfg0 := carryF hbv g0_21 gf0_21
      have sfg1 := carryF hbv g1_21 gf1_21
      have sgz : w19.heap.size < wS.heap.size := Nat.lt_of_lt_of_le gz_21 hzv
      have sgn : w19.heap.size ≠ w21.heap.size := by omega
      go_wp2_with fail
      go_meet
      case rel =>
        generalize hW : (wS.setCell _ _).setCell _ _ = wz
        exact ⟨_, rfl, rfl, (show wz.cell? ⟨w21.heap.size, 0, none⟩ = some (.int .i64 hm) by rw [← hW]; clear hW; go_simp), (show wz.cell? ⟨w21.heap.size, 1, none⟩ = some (.int .i64 he) by rw [← hW]; clear hW; go_simp), (show w21.heap.size < wz.heap.size by rw [← hW]; clear hW; simp <;> omega), (show wz.cell? ⟨w1.heap.size, 0, none⟩ = some (.int .i64 m) by rw [← hW]; clear hW; go_simp), (show wz.cell? ⟨w1.heap.size, 1, none⟩ = some (.int .i64 e) by rw [← hW]; clear hW; go_simp), (show w1.heap.size < wz.heap.size by rw [← hW]; clear hW; simp <;> omega), (show wz.cell? ⟨w2.heap.size, 0, none⟩ = some (.int .i64 k) by rw [← hW]; clear hW; go_simp), (show wz.cell? ⟨w2.heap.size, 1, none⟩ = some (.int .i64 f) by rw [← hW]; clear hW; go_simp), (show w2.heap.size < wz.heap.size by rw [← hW]; clear hW; simp <;> omega), (show wz.cell? ⟨w19.heap.size, 0, none⟩ = some (.int .i64 dm) by rw [← hW]; clear hW; go_simp), (show wz.cell? ⟨w19.heap.size, 1, none⟩ = some (.int .i64 de) by rw [← hW]; clear hW; go_simp), (show wz.frozen? ⟨w19.heap.size, 0, none⟩ = false by rw [← hW]; clear hW; go_simp), (show wz.frozen? ⟨w19.heap.size, 1, none⟩ = false by rw [← hW]; clear hW; go_simp), (show w19.heap.size < wz.heap.size by rw [← hW]; clear hW; simp <;> omega), (show Below w.heap.size w wz by rw [← hW]; clear hW; have hs := HBS.out.size; have hn := nz_21; repeat (first | exact HBS.out | refine Below.drew ?_ | refine Below.setCell ?_ (by first | omega | (simp; done) | (simp; omega)) _ | refine Below.alloc ?_ (by first | omega | (simp; done) | (simp; omega)) _))⟩
  case rest =>
  clear HB_21 x0_21 x1_21 y0_21 y1_21 g0_21 g1_21 gf0_21 gf1_21 xz_21 yz_21 gz_21
  obtain ⟨w22, rfl⟩ : ∃ x, x = wc := ⟨_, rfl⟩
  obtain ⟨b9, rfl, rfl, h0_22, h1_22, hz_22, x0_22, x1_22, xz_22, y0_22, y1_22, yz_22, g0_22, g1_22, gf0_22, gf1_22, gz_22, hb9⟩ := hcut
  have HB_22 := Lib.hid hb9
  clear hb9
  have nz_22 : w.heap.size ≤ w22.heap.size := HB_22.out.size
  go_wp2_with fail
  refine (HT.out _).mono ?_
  rintro e w23 ⟨rfl, hb23⟩
  have x0_23 : w23.cell? ⟨w1.heap.size, 0, none⟩ = some (.int .i64 m) := carry hb23 (by go_simp)
  have x1_23 : w23.cell? ⟨w1.heap.size, 1, none⟩ = some (.int .i64 e) := carry hb23 (by go_simp)
  have xz_23 : w1.heap.size < w23.heap.size := by have := hb23.size; first | omega | (simp at this; omega)
  have y0_23 : w23.cell? ⟨w2.heap.size, 0, none⟩ = some (.int .i64 k) := carry hb23 (by go_simp)
  have y1_23 : w23.cell? ⟨w2.heap.size, 1, none⟩ = some (.int .i64 f) := carry hb23 (by go_simp)
  have yz_23 : w2.heap.size < w23.heap.size := by have := hb23.size; first | omega | (simp at this; omega)
  have g0_23 : w23.cell? ⟨w19.heap.size, 0, none⟩ = some (.int .i64 dm) := carry hb23 (by go_simp)
  have gf0_23 : w23.frozen? ⟨w19.heap.size, 0, none⟩ = false := carryF hb23 (v := .int .i64 dm) (by go_simp) (by go_simp)
  have g1_23 : w23.cell? ⟨w19.heap.size, 1, none⟩ = some (.int .i64 de) := carry hb23 (by go_simp)
  have gf1_23 : w23.frozen? ⟨w19.heap.size, 1, none⟩ = false := carryF hb23 (v := .int .i64 de) (by go_simp) (by go_simp)
  have gz_23 : w19.heap.size < w23.heap.size := by have := hb23.size; first | omega | (simp at this; omega)
  have h0_23 : w23.cell? ⟨b9, 0, none⟩ = some (.int .i64 hm) := carry hb23 (by go_simp)
  have h1_23 : w23.cell? ⟨b9, 1, none⟩ = some (.int .i64 he) := carry hb23 (by go_simp)
  have hz_23 : b9 < w23.heap.size := by have := hb23.size; first | omega | (simp at this; omega)
  have HB_23 := Lib.hid ((by repeat (first | exact HB_22.out | refine Below.drew ?_ | refine Below.setCell ?_ (by first | omega | (simp; done) | (simp; omega)) _ | refine Below.alloc ?_ (by first | omega | (simp; done) | (simp; omega)) _) : Below w.heap.size w _).trans (hb23.mono (by first | omega | (simp; done) | (simp; omega))))
  have nz_23 : w.heap.size ≤ w23.heap.size := HB_23.out.size
  clear hb23 x0_22 x1_22 y0_22 y1_22 g0_22 g1_22 gf0_22 gf1_22 h0_22 h1_22 HB_22
  go_wp2_with fail
  refine (HL.out _).mono ?_
  rintro e w24 ⟨rfl, hb24⟩
  have x0_24 : w24.cell? ⟨w1.heap.size, 0, none⟩ = some (.int .i64 m) := carry hb24 (by go_simp)
  have x1_24 : w24.cell? ⟨w1.heap.size, 1, none⟩ = some (.int .i64 e) := carry hb24 (by go_simp)
  have xz_24 : w1.heap.size < w24.heap.size := by have := hb24.size; first | omega | (simp at this; omega)
  have y0_24 : w24.cell? ⟨w2.heap.size, 0, none⟩ = some (.int .i64 k) := carry hb24 (by go_simp)
  have y1_24 : w24.cell? ⟨w2.heap.size, 1, none⟩ = some (.int .i64 f) := carry hb24 (by go_simp)
  have yz_24 : w2.heap.size < w24.heap.size := by have := hb24.size; first | omega | (simp at this; omega)
  have g0_24 : w24.cell? ⟨w19.heap.size, 0, none⟩ = some (.int .i64 dm) := carry hb24 (by go_simp)
  have gf0_24 : w24.frozen? ⟨w19.heap.size, 0, none⟩ = false := carryF hb24 (v := .int .i64 dm) (by go_simp) (by go_simp)
  have g1_24 : w24.cell? ⟨w19.heap.size, 1, none⟩ = some (.int .i64 de) := carry hb24 (by go_simp)
  have gf1_24 : w24.frozen? ⟨w19.heap.size, 1, none⟩ = false := carryF hb24 (v := .int .i64 de) (by go_simp) (by go_simp)
  have gz_24 : w19.heap.size < w24.heap.size := by have := hb24.size; first | omega | (simp at this; omega)
  have h0_24 : w24.cell? ⟨b9, 0, none⟩ = some (.int .i64 hm) := carry hb24 (by go_simp)
  have h1_24 : w24.cell? ⟨b9, 1, none⟩ = some (.int .i64 he) := carry hb24 (by go_simp)
  have hz_24 : b9 < w24.heap.size := by have := hb24.size; first | omega | (simp at this; omega)
  have t0_24 : w24.cell? ⟨w23.heap.size, 0, none⟩ = some (.int .i64 tm) := carry hb24 (by go_simp)
  have t1_24 : w24.cell? ⟨w23.heap.size, 1, none⟩ = some (.int .i64 te) := carry hb24 (by go_simp)
  have tz_24 : w23.heap.size < w24.heap.size := by have := hb24.size; first | omega | (simp at this; omega)
  have HB_24 := Lib.hid ((by repeat (first | exact HB_23.out | refine Below.drew ?_ | refine Below.setCell ?_ (by first | omega | (simp; done) | (simp; omega)) _ | refine Below.alloc ?_ (by first | omega | (simp; done) | (simp; omega)) _) : Below w.heap.size w _).trans (hb24.mono (by first | omega | (simp; done) | (simp; omega))))
  have nz_24 : w.heap.size ≤ w24.heap.size := HB_24.out.size
  clear hb24 x0_23 x1_23 y0_23 y1_23 g0_23 gf0_23 g1_23 gf1_23 h0_23 h1_23 HB_23
  go_wp2_with fail
  refine (HH.out _).mono ?_
  rintro e w25 ⟨rfl, hb25⟩
  have x0_25 : w25.cell? ⟨w1.heap.size, 0, none⟩ = some (.int .i64 m) := carry hb25 (by go_simp)
  have x1_25 : w25.cell? ⟨w1.heap.size, 1, none⟩ = some (.int .i64 e) := carry hb25 (by go_simp)
  have xz_25 : w1.heap.size < w25.heap.size := by have := hb25.size; first | omega | (simp at this; omega)
  have y0_25 : w25.cell? ⟨w2.heap.size, 0, none⟩ = some (.int .i64 k) := carry hb25 (by go_simp)
  have y1_25 : w25.cell? ⟨w2.heap.size, 1, none⟩ = some (.int .i64 f) := carry hb25 (by go_simp)
  have yz_25 : w2.heap.size < w25.heap.size := by have := hb25.size; first | omega | (simp at this; omega)
  have g0_25 : w25.cell? ⟨w19.heap.size, 0, none⟩ = some (.int .i64 dm) := carry hb25 (by go_simp)
  have gf0_25 : w25.frozen? ⟨w19.heap.size, 0, none⟩ = false := carryF hb25 (v := .int .i64 dm) (by go_simp) (by go_simp)
  have g1_25 : w25.cell? ⟨w19.heap.size, 1, none⟩ = some (.int .i64 de) := carry hb25 (by go_simp)
  have gf1_25 : w25.frozen? ⟨w19.heap.size, 1, none⟩ = false := carryF hb25 (v := .int .i64 de) (by go_simp) (by go_simp)
  have gz_25 : w19.heap.size < w25.heap.size := by have := hb25.size; first | omega | (simp at this; omega)
  have t0_25 : w25.cell? ⟨w23.heap.size, 0, none⟩ = some (.int .i64 tm) := carry hb25 (by go_simp)
  have t1_25 : w25.cell? ⟨w23.heap.size, 1, none⟩ = some (.int .i64 te) := carry hb25 (by go_simp)
  have tz_25 : w23.heap.size < w25.heap.size := by have := hb25.size; first | omega | (simp at this; omega)
  have HB_25 := Lib.hid ((by repeat (first | exact HB_24.out | refine Below.drew ?_ | refine Below.setCell ?_ (by first | omega | (simp; done) | (simp; omega)) _ | refine Below.alloc ?_ (by first | omega | (simp; done) | (simp; omega)) _) : Below w.heap.size w _).trans (hb25.mono (by first | omega | (simp; done) | (simp; omega))))
  have nz_25 : w.heap.size ≤ w25.heap.size := HB_25.out.size
  clear hb25 x0_24 x1_24 y0_24 y1_24 g0_24 gf0_24 g1_24 gf1_24 h0_24 h1_24 t0_24 t1_24 HB_24
  go_wp2_with fail
  refine (HS.out _).mono ?_
  rintro e w26 ⟨rfl, hb26⟩
  have x0_26 : w26.cell? ⟨w1.heap.size, 0, none⟩ = some (.int .i64 m) := carry hb26 (by go_simp)
  have x1_26 : w26.cell? ⟨w1.heap.size, 1, none⟩ = some (.int .i64 e) := carry hb26 (by go_simp)
  have xz_26 : w1.heap.size < w26.heap.size := by have := hb26.size; first | omega | (simp at this; omega)
  have y0_26 : w26.cell? ⟨w2.heap.size, 0, none⟩ = some (.int .i64 k) := carry hb26 (by go_simp)
  have y1_26 : w26.cell? ⟨w2.heap.size, 1, none⟩ = some (.int .i64 f) := carry hb26 (by go_simp)
  have yz_26 : w2.heap.size < w26.heap.size := by have := hb26.size; first | omega | (simp at this; omega)
  have g0_26 : w26.cell? ⟨w19.heap.size, 0, none⟩ = some (.int .i64 dm) := carry hb26 (by go_simp)
  have gf0_26 : w26.frozen? ⟨w19.heap.size, 0, none⟩ = false := carryF hb26 (v := .int .i64 dm) (by go_simp) (by go_simp)
  have g1_26 : w26.cell? ⟨w19.heap.size, 1, none⟩ = some (.int .i64 de) := carry hb26 (by go_simp)
  have gf1_26 : w26.frozen? ⟨w19.heap.size, 1, none⟩ = false := carryF hb26 (v := .int .i64 de) (by go_simp) (by go_simp)
  have gz_26 : w19.heap.size < w26.heap.size := by have := hb26.size; first | omega | (simp at this; omega)
  have HB_26 := Lib.hid ((by repeat (first | exact HB_25.out | refine Below.drew ?_ | refine Below.setCell ?_ (by first | omega | (simp; done) | (simp; omega)) _ | refine Below.alloc ?_ (by first | omega | (simp; done) | (simp; omega)) _) : Below w.heap.size w _).trans (hb26.mono (by first | omega | (simp; done) | (simp; omega))))
  have nz_26 : w.heap.size ≤ w26.heap.size := HB_26.out.size
  clear hb26 x0_25 x1_25 y0_25 y1_25 g0_25 gf0_25 g1_25 gf1_25 t0_25 t1_25 HB_25
  go_wp2_with fail
  refine (HK.out _).mono ?_
  rintro e w27 ⟨rfl, hb27⟩
  have x0_27 : w27.cell? ⟨w1.heap.size, 0, none⟩ = some (.int .i64 m) := carry hb27 (by go_simp)
  have x1_27 : w27.cell? ⟨w1.heap.size, 1, none⟩ = some (.int .i64 e) := carry hb27 (by go_simp)
  have xz_27 : w1.heap.size < w27.heap.size := by have := hb27.size; first | omega | (simp at this; omega)
  have y0_27 : w27.cell? ⟨w2.heap.size, 0, none⟩ = some (.int .i64 k) := carry hb27 (by go_simp)
  have y1_27 : w27.cell? ⟨w2.heap.size, 1, none⟩ = some (.int .i64 f) := carry hb27 (by go_simp)
  have yz_27 : w2.heap.size < w27.heap.size := by have := hb27.size; first | omega | (simp at this; omega)
  have g0_27 : w27.cell? ⟨w19.heap.size, 0, none⟩ = some (.int .i64 dm) := carry hb27 (by go_simp)
  have g1_27 : w27.cell? ⟨w19.heap.size, 1, none⟩ = some (.int .i64 de) := carry hb27 (by go_simp)
  have gz_27 : w19.heap.size < w27.heap.size := by have := hb27.size; first | omega | (simp at this; omega)
  have HB_27 := Lib.hid ((by repeat (first | exact HB_26.out | refine Below.drew ?_ | refine Below.setCell ?_ (by first | omega | (simp; done) | (simp; omega)) _ | refine Below.alloc ?_ (by first | omega | (simp; done) | (simp; omega)) _) : Below w.heap.size w _).trans (hb27.mono (by first | omega | (simp; done) | (simp; omega))))
  have nz_27 : w.heap.size ≤ w27.heap.size := HB_27.out.size
  clear hb27 x0_26 x1_26 y0_26 y1_26 g0_26 gf0_26 g1_26 gf1_26 HB_26
  go_wp2_with fail
  refine (HSan.out _ (by repeat (first | exact HB_27.out | refine Below.drew ?_ | refine Below.setCell ?_ (by first | omega | (simp; done) | (simp; omega)) _ | refine Below.alloc ?_ (by first | omega | (simp; done) | (simp; omega)) _))).mono ?_
  rintro e w28 ⟨rfl, hb28⟩
  have x0_28 : w28.cell? ⟨w1.heap.size, 0, none⟩ = some (.int .i64 m) := carry hb28 (by go_simp)
  have x1_28 : w28.cell? ⟨w1.heap.size, 1, none⟩ = some (.int .i64 e) := carry hb28 (by go_simp)
  have xz_28 : w1.heap.size < w28.heap.size := by have := hb28.size; first | omega | (simp at this; omega)
  have b0_28 : w28.cell? ⟨w27.heap.size, 0, none⟩ = some (.int .i64 m) := carry hb28 (by go_simp)
  have b1_28 : w28.cell? ⟨w27.heap.size, 1, none⟩ = some (.int .i64 e) := carry hb28 (by go_simp)
  have bz_28 : w27.heap.size < w28.heap.size := by have := hb28.size; first | omega | (simp at this; omega)
  have HB_28 := Lib.hid ((by repeat (first | exact HB_27.out | refine Below.drew ?_ | refine Below.setCell ?_ (by first | omega | (simp; done) | (simp; omega)) _ | refine Below.alloc ?_ (by first | omega | (simp; done) | (simp; omega)) _) : Below w.heap.size w _).trans (hb28.mono (by first | omega | (simp; done) | (simp; omega))))
  have nz_28 : w.heap.size ≤ w28.heap.size := HB_28.out.size
  clear hb28 x0_27 x1_27 y0_27 y1_27 g0_27 g1_27 HB_27
  go_wp2_with fail
  refine (HI.out _).mono ?_
  rintro e w29 ⟨rfl, hb29⟩
  have x0_29 : w29.cell? ⟨w1.heap.size, 0, none⟩ = some (.int .i64 m) := carry hb29 (by go_simp)
  have x1_29 : w29.cell? ⟨w1.heap.size, 1, none⟩ = some (.int .i64 e) := carry hb29 (by go_simp)
  have xz_29 : w1.heap.size < w29.heap.size := by have := hb29.size; first | omega | (simp at this; omega)
  have b0_29 : w29.cell? ⟨w27.heap.size, 0, none⟩ = some (.int .i64 m) := carry hb29 (by go_simp)
  have b1_29 : w29.cell? ⟨w27.heap.size, 1, none⟩ = some (.int .i64 e) := carry hb29 (by go_simp)
  have bz_29 : w27.heap.size < w29.heap.size := by have := hb29.size; first | omega | (simp at this; omega)
  have HB_29 := Lib.hid ((by repeat (first | exact HB_28.out | refine Below.drew ?_ | refine Below.setCell ?_ (by first | omega | (simp; done) | (simp; omega)) _ | refine Below.alloc ?_ (by first | omega | (simp; done) | (simp; omega)) _) : Below w.heap.size w _).trans (hb29.mono (by first | omega | (simp; done) | (simp; omega))))
  have nz_29 : w.heap.size ≤ w29.heap.size := HB_29.out.size
  clear hb29 x0_28 x1_28 b0_28 b1_28 HB_28
  go_wp2_with fail
  go_ret
  exact ⟨rfl, by repeat (first | exact HB_29.out | refine Below.drew ?_ | refine Below.setCell ?_ (by first | omega | (simp; done) | (simp; omega)) _ | refine Below.alloc ?_ (by first | omega | (simp; done) | (simp; omega)) _)⟩

end Go.Proofs.YtbfknapmhkpgcaaGreatDoor.realAlgebra
