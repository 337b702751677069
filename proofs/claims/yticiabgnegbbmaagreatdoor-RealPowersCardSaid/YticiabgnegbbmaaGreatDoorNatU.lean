/-
  Several texts in one (NatS, NatT).
-/
import Derived.Test.YticiabgnegbbmaaGreatDoorValA
import Derived.Deep.RegionHeld3
import Derived.Test.YticiabgnegbbmaaGreatDoorNaX
import Derived.Test.YticiabgnegbbmaaGreatDoorPowC

namespace Go.Proofs.YticiabgnegbbmaaGreatDoor
open Go.RowKit
set_option linter.unusedVariables false

set_option maxRecDepth 100000 in
set_option maxHeartbeats 4000000 in
theorem rp_zero (m e n1 s k d f g a b : Int) (t : Bool) (w : World) (HO : Hid (∀ W : World, Calls Tryz.prog 26 #[] W fun r w' => r = .returned (realV 8388608 (-23)) ∧ Below W.heap.size W w')) :
    Calls Tryz.prog 24 #[realV m e, .int .i64 0, .int .i64 0] w fun r w' => r = .returned (.agg #[.int .i64 8388608, .int .i64 (-23), .bool true]) ∧ Below w.heap.size w w' := by
  go_enter Tryz.func24, Tryz.ntmps24
  go_wp2_with fail
  refine (HO.out _).mono ?_
  rintro e w1 ⟨rfl, hb1⟩
  have r0_1 : w1.cell? ⟨w.heap.size + 1, 0, none⟩ = some (.int .i64 0) := carry hb1 (by go_simp)
  have rf0_1 : w1.frozen? ⟨w.heap.size + 1, 0, none⟩ = false := carryF hb1 (v := .int .i64 0) (by go_simp) (by go_simp)
  have r1_1 : w1.cell? ⟨w.heap.size + 1, 1, none⟩ = some (.int .i64 0) := carry hb1 (by go_simp)
  have rf1_1 : w1.frozen? ⟨w.heap.size + 1, 1, none⟩ = false := carryF hb1 (v := .int .i64 0) (by go_simp) (by go_simp)
  have r2_1 : w1.cell? ⟨w.heap.size + 1, 2, none⟩ = some (.bool false) := carry hb1 (by go_simp)
  have rf2_1 : w1.frozen? ⟨w.heap.size + 1, 2, none⟩ = false := carryF hb1 (v := .bool false) (by go_simp) (by go_simp)
  have rz_1 : w.heap.size + 1 < w1.heap.size := by have := hb1.size; first | omega | (simp at this; omega)
  have HB_1 := Lib.hid ((by repeat (first | exact Below.refl _ _ | refine Below.drew ?_ | refine Below.setCell ?_ (by first | omega | (simp; done) | (simp; omega)) _ | refine Below.alloc ?_ (by first | omega | (simp; done) | (simp; omega)) _) : Below w.heap.size w _).trans (hb1.mono (by first | omega | (simp; done) | (simp; omega))))
  have nz_1 : w.heap.size ≤ w1.heap.size := HB_1.out.size
  clear hb1
  go_wp2_with fail
  refine bodyPost_ret (v := .agg #[.int .i64 8388608, .int .i64 (-23), .bool true]) (by simp [results, Tryz.results24, go_sem, r0_1, r1_1, r2_1]) rfl ⟨rfl, by repeat (first | with_reducible exact HB_1.out | with_reducible refine Below.drew ?_ | with_reducible refine Below.setCell ?_ (by first | omega | (simp; done) | (simp; omega)) _ | with_reducible refine Below.alloc ?_ (by first | omega | (simp; done) | (simp; omega)) _)⟩

set_option maxRecDepth 100000 in
set_option maxHeartbeats 4000000 in
theorem rp_Ak (m e n1 s k d f g a b : Int) (t : Bool) (w : World) (hs : IntKind.i64.wrap (n1 + 1) = s) (h0 : (s == 0) = false) (hr : n1.tmod 2 = 0) (HO : Hid (∀ W : World, Calls Tryz.prog 26 #[] W fun r w' => r = .returned (realV 8388608 (-23)) ∧ Below W.heap.size W w')) (HI : Hid (∀ W : World, Calls Tryz.prog 24 #[realV m e, .int .i64 n1, .int .i64 0] W fun r w' => r = .returned (.agg #[.int .i64 f, .int .i64 g, .bool true]) ∧ Below W.heap.size W w')) (HM : Hid (∀ W : World, Calls Tryz.prog 42 #[realV m e, realV f g] W fun r w' => r = .returned (.agg #[.int .i64 a, .int .i64 b, .bool t]) ∧ Below W.heap.size W w')) :
    Calls Tryz.prog 24 #[realV m e, .int .i64 n1, .int .i64 1] w fun r w' => r = .returned (.agg #[.int .i64 a, .int .i64 b, .bool t]) ∧ Below w.heap.size w w' := by
  go_enter Tryz.func24, Tryz.ntmps24
  go_wp2_with fail
  refine (HO.out _).mono ?_
  rintro e w1 ⟨rfl, hb1⟩
  have x0_1 : w1.cell? ⟨w.heap.size, 0, none⟩ = some (.int .i64 m) := carry hb1 (by go_simp)
  have x1_1 : w1.cell? ⟨w.heap.size, 1, none⟩ = some (.int .i64 e) := carry hb1 (by go_simp)
  have xz_1 : w.heap.size < w1.heap.size := by have := hb1.size; first | omega | (simp at this; omega)
  have r0_1 : w1.cell? ⟨w.heap.size + 1, 0, none⟩ = some (.int .i64 0) := carry hb1 (by go_simp)
  have rf0_1 : w1.frozen? ⟨w.heap.size + 1, 0, none⟩ = false := carryF hb1 (v := .int .i64 0) (by go_simp) (by go_simp)
  have r1_1 : w1.cell? ⟨w.heap.size + 1, 1, none⟩ = some (.int .i64 0) := carry hb1 (by go_simp)
  have rf1_1 : w1.frozen? ⟨w.heap.size + 1, 1, none⟩ = false := carryF hb1 (v := .int .i64 0) (by go_simp) (by go_simp)
  have r2_1 : w1.cell? ⟨w.heap.size + 1, 2, none⟩ = some (.bool false) := carry hb1 (by go_simp)
  have rf2_1 : w1.frozen? ⟨w.heap.size + 1, 2, none⟩ = false := carryF hb1 (v := .bool false) (by go_simp) (by go_simp)
  have rz_1 : w.heap.size + 1 < w1.heap.size := by have := hb1.size; first | omega | (simp at this; omega)
  have HB_1 := Lib.hid ((by repeat (first | exact Below.refl _ _ | refine Below.drew ?_ | refine Below.setCell ?_ (by first | omega | (simp; done) | (simp; omega)) _ | refine Below.alloc ?_ (by first | omega | (simp; done) | (simp; omega)) _) : Below w.heap.size w _).trans (hb1.mono (by first | omega | (simp; done) | (simp; omega))))
  have nz_1 : w.heap.size ≤ w1.heap.size := HB_1.out.size
  clear hb1
  go_wp2_with fail
  refine (HI.out _).mono ?_
  rintro e w2 ⟨rfl, hb2⟩
  have x0_2 : w2.cell? ⟨w.heap.size, 0, none⟩ = some (.int .i64 m) := carry hb2 (by go_simp)
  have x1_2 : w2.cell? ⟨w.heap.size, 1, none⟩ = some (.int .i64 e) := carry hb2 (by go_simp)
  have xz_2 : w.heap.size < w2.heap.size := by have := hb2.size; first | omega | (simp at this; omega)
  have r0_2 : w2.cell? ⟨w.heap.size + 1, 0, none⟩ = some (.int .i64 0) := carry hb2 (by go_simp)
  have rf0_2 : w2.frozen? ⟨w.heap.size + 1, 0, none⟩ = false := carryF hb2 (v := .int .i64 0) (by go_simp) (by go_simp)
  have r1_2 : w2.cell? ⟨w.heap.size + 1, 1, none⟩ = some (.int .i64 0) := carry hb2 (by go_simp)
  have rf1_2 : w2.frozen? ⟨w.heap.size + 1, 1, none⟩ = false := carryF hb2 (v := .int .i64 0) (by go_simp) (by go_simp)
  have r2_2 : w2.cell? ⟨w.heap.size + 1, 2, none⟩ = some (.bool false) := carry hb2 (by go_simp)
  have rf2_2 : w2.frozen? ⟨w.heap.size + 1, 2, none⟩ = false := carryF hb2 (v := .bool false) (by go_simp) (by go_simp)
  have rz_2 : w.heap.size + 1 < w2.heap.size := by have := hb2.size; first | omega | (simp at this; omega)
  have y0_2 : w2.cell? ⟨w1.heap.size, 0, none⟩ = some (.int .i64 8388608) := carry hb2 (by go_simp)
  have yf0_2 : w2.frozen? ⟨w1.heap.size, 0, none⟩ = false := carryF hb2 (v := .int .i64 8388608) (by go_simp) (by go_simp)
  have y1_2 : w2.cell? ⟨w1.heap.size, 1, none⟩ = some (.int .i64 (-23)) := carry hb2 (by go_simp)
  have yf1_2 : w2.frozen? ⟨w1.heap.size, 1, none⟩ = false := carryF hb2 (v := .int .i64 (-23)) (by go_simp) (by go_simp)
  have y2_2 : w2.cell? ⟨w1.heap.size, 2, none⟩ = some (.bool true) := carry hb2 (by go_simp)
  have yf2_2 : w2.frozen? ⟨w1.heap.size, 2, none⟩ = false := carryF hb2 (v := .bool true) (by go_simp) (by go_simp)
  have yz_2 : w1.heap.size < w2.heap.size := by have := hb2.size; first | omega | (simp at this; omega)
  have HB_2 := Lib.hid ((by repeat (first | exact HB_1.out | refine Below.drew ?_ | refine Below.setCell ?_ (by first | omega | (simp; done) | (simp; omega)) _ | refine Below.alloc ?_ (by first | omega | (simp; done) | (simp; omega)) _) : Below w.heap.size w _).trans (hb2.mono (by first | omega | (simp; done) | (simp; omega))))
  have nz_2 : w.heap.size ≤ w2.heap.size := HB_2.out.size
  clear hb2 x0_1 x1_1 r0_1 rf0_1 r1_1 rf1_1 r2_1 rf2_1 HB_1
  go_wp2_with fail
  refine (HM.out _).mono ?_
  rintro e w3 ⟨rfl, hb3⟩
  have x0_3 : w3.cell? ⟨w.heap.size, 0, none⟩ = some (.int .i64 m) := carry hb3 (by go_simp)
  have x1_3 : w3.cell? ⟨w.heap.size, 1, none⟩ = some (.int .i64 e) := carry hb3 (by go_simp)
  have xz_3 : w.heap.size < w3.heap.size := by have := hb3.size; first | omega | (simp at this; omega)
  have r0_3 : w3.cell? ⟨w.heap.size + 1, 0, none⟩ = some (.int .i64 0) := carry hb3 (by go_simp)
  have rf0_3 : w3.frozen? ⟨w.heap.size + 1, 0, none⟩ = false := carryF hb3 (v := .int .i64 0) (by go_simp) (by go_simp)
  have r1_3 : w3.cell? ⟨w.heap.size + 1, 1, none⟩ = some (.int .i64 0) := carry hb3 (by go_simp)
  have rf1_3 : w3.frozen? ⟨w.heap.size + 1, 1, none⟩ = false := carryF hb3 (v := .int .i64 0) (by go_simp) (by go_simp)
  have r2_3 : w3.cell? ⟨w.heap.size + 1, 2, none⟩ = some (.bool false) := carry hb3 (by go_simp)
  have rf2_3 : w3.frozen? ⟨w.heap.size + 1, 2, none⟩ = false := carryF hb3 (v := .bool false) (by go_simp) (by go_simp)
  have rz_3 : w.heap.size + 1 < w3.heap.size := by have := hb3.size; first | omega | (simp at this; omega)
  have y0_3 : w3.cell? ⟨w1.heap.size, 0, none⟩ = some (.int .i64 f) := carry hb3 (by go_simp)
  have yf0_3 : w3.frozen? ⟨w1.heap.size, 0, none⟩ = false := carryF hb3 (v := .int .i64 f) (by go_simp) (by go_simp)
  have y1_3 : w3.cell? ⟨w1.heap.size, 1, none⟩ = some (.int .i64 g) := carry hb3 (by go_simp)
  have yf1_3 : w3.frozen? ⟨w1.heap.size, 1, none⟩ = false := carryF hb3 (v := .int .i64 g) (by go_simp) (by go_simp)
  have y2_3 : w3.cell? ⟨w1.heap.size, 2, none⟩ = some (.bool true) := carry hb3 (by go_simp)
  have yf2_3 : w3.frozen? ⟨w1.heap.size, 2, none⟩ = false := carryF hb3 (v := .bool true) (by go_simp) (by go_simp)
  have yz_3 : w1.heap.size < w3.heap.size := by have := hb3.size; first | omega | (simp at this; omega)
  have HB_3 := Lib.hid ((by repeat (first | exact HB_2.out | refine Below.drew ?_ | refine Below.setCell ?_ (by first | omega | (simp; done) | (simp; omega)) _ | refine Below.alloc ?_ (by first | omega | (simp; done) | (simp; omega)) _) : Below w.heap.size w _).trans (hb3.mono (by first | omega | (simp; done) | (simp; omega))))
  have nz_3 : w.heap.size ≤ w3.heap.size := HB_3.out.size
  clear hb3 x0_2 x1_2 r0_2 rf0_2 r1_2 rf1_2 r2_2 rf2_2 y0_2 yf0_2 y1_2 yf1_2 y2_2 yf2_2 HB_2
  go_wp2_with fail
  refine bodyPost_ret (v := .agg #[.int .i64 a, .int .i64 b, .bool t]) (by simp [results, Tryz.results24, go_sem, r0_3, r1_3, r2_3]) rfl ⟨rfl, by repeat (first | with_reducible exact HB_3.out | with_reducible refine Below.drew ?_ | with_reducible refine Below.setCell ?_ (by first | omega | (simp; done) | (simp; omega)) _ | with_reducible refine Below.alloc ?_ (by first | omega | (simp; done) | (simp; omega)) _)⟩

set_option maxRecDepth 100000 in
set_option maxHeartbeats 4000000 in
theorem rp_Ap (m e n1 s k d f g a b : Int) (t : Bool) (w : World) (hs : IntKind.i64.wrap (n1 + 1) = s) (h0 : (s == 0) = false) (hr : n1.tmod 2 = 0) (HO : Hid (∀ W : World, Calls Tryz.prog 26 #[] W fun r w' => r = .returned (realV 8388608 (-23)) ∧ Below W.heap.size W w')) (HI : Hid (∀ W : World, Calls Tryz.prog 24 #[realV m e, .int .i64 n1, .int .i64 0] W fun r w' => r = .returned (.agg #[.int .i64 0, .int .i64 0, .bool false]) ∧ Below W.heap.size W w')) :
    Calls Tryz.prog 24 #[realV m e, .int .i64 n1, .int .i64 1] w fun r w' => r = .returned (.agg #[.int .i64 0, .int .i64 0, .bool false]) ∧ Below w.heap.size w w' := by
  go_enter Tryz.func24, Tryz.ntmps24
  go_wp2_with fail
  refine (HO.out _).mono ?_
  rintro e w1 ⟨rfl, hb1⟩
  have x0_1 : w1.cell? ⟨w.heap.size, 0, none⟩ = some (.int .i64 m) := carry hb1 (by go_simp)
  have x1_1 : w1.cell? ⟨w.heap.size, 1, none⟩ = some (.int .i64 e) := carry hb1 (by go_simp)
  have xz_1 : w.heap.size < w1.heap.size := by have := hb1.size; first | omega | (simp at this; omega)
  have r0_1 : w1.cell? ⟨w.heap.size + 1, 0, none⟩ = some (.int .i64 0) := carry hb1 (by go_simp)
  have rf0_1 : w1.frozen? ⟨w.heap.size + 1, 0, none⟩ = false := carryF hb1 (v := .int .i64 0) (by go_simp) (by go_simp)
  have r1_1 : w1.cell? ⟨w.heap.size + 1, 1, none⟩ = some (.int .i64 0) := carry hb1 (by go_simp)
  have rf1_1 : w1.frozen? ⟨w.heap.size + 1, 1, none⟩ = false := carryF hb1 (v := .int .i64 0) (by go_simp) (by go_simp)
  have r2_1 : w1.cell? ⟨w.heap.size + 1, 2, none⟩ = some (.bool false) := carry hb1 (by go_simp)
  have rf2_1 : w1.frozen? ⟨w.heap.size + 1, 2, none⟩ = false := carryF hb1 (v := .bool false) (by go_simp) (by go_simp)
  have rz_1 : w.heap.size + 1 < w1.heap.size := by have := hb1.size; first | omega | (simp at this; omega)
  have HB_1 := Lib.hid ((by repeat (first | exact Below.refl _ _ | refine Below.drew ?_ | refine Below.setCell ?_ (by first | omega | (simp; done) | (simp; omega)) _ | refine Below.alloc ?_ (by first | omega | (simp; done) | (simp; omega)) _) : Below w.heap.size w _).trans (hb1.mono (by first | omega | (simp; done) | (simp; omega))))
  have nz_1 : w.heap.size ≤ w1.heap.size := HB_1.out.size
  clear hb1
  go_wp2_with fail
  refine (HI.out _).mono ?_
  rintro e w2 ⟨rfl, hb2⟩
  have x0_2 : w2.cell? ⟨w.heap.size, 0, none⟩ = some (.int .i64 m) := carry hb2 (by go_simp)
  have x1_2 : w2.cell? ⟨w.heap.size, 1, none⟩ = some (.int .i64 e) := carry hb2 (by go_simp)
  have xz_2 : w.heap.size < w2.heap.size := by have := hb2.size; first | omega | (simp at this; omega)
  have r0_2 : w2.cell? ⟨w.heap.size + 1, 0, none⟩ = some (.int .i64 0) := carry hb2 (by go_simp)
  have rf0_2 : w2.frozen? ⟨w.heap.size + 1, 0, none⟩ = false := carryF hb2 (v := .int .i64 0) (by go_simp) (by go_simp)
  have r1_2 : w2.cell? ⟨w.heap.size + 1, 1, none⟩ = some (.int .i64 0) := carry hb2 (by go_simp)
  have rf1_2 : w2.frozen? ⟨w.heap.size + 1, 1, none⟩ = false := carryF hb2 (v := .int .i64 0) (by go_simp) (by go_simp)
  have r2_2 : w2.cell? ⟨w.heap.size + 1, 2, none⟩ = some (.bool false) := carry hb2 (by go_simp)
  have rf2_2 : w2.frozen? ⟨w.heap.size + 1, 2, none⟩ = false := carryF hb2 (v := .bool false) (by go_simp) (by go_simp)
  have rz_2 : w.heap.size + 1 < w2.heap.size := by have := hb2.size; first | omega | (simp at this; omega)
  have y0_2 : w2.cell? ⟨w1.heap.size, 0, none⟩ = some (.int .i64 8388608) := carry hb2 (by go_simp)
  have yf0_2 : w2.frozen? ⟨w1.heap.size, 0, none⟩ = false := carryF hb2 (v := .int .i64 8388608) (by go_simp) (by go_simp)
  have y1_2 : w2.cell? ⟨w1.heap.size, 1, none⟩ = some (.int .i64 (-23)) := carry hb2 (by go_simp)
  have yf1_2 : w2.frozen? ⟨w1.heap.size, 1, none⟩ = false := carryF hb2 (v := .int .i64 (-23)) (by go_simp) (by go_simp)
  have y2_2 : w2.cell? ⟨w1.heap.size, 2, none⟩ = some (.bool true) := carry hb2 (by go_simp)
  have yf2_2 : w2.frozen? ⟨w1.heap.size, 2, none⟩ = false := carryF hb2 (v := .bool true) (by go_simp) (by go_simp)
  have yz_2 : w1.heap.size < w2.heap.size := by have := hb2.size; first | omega | (simp at this; omega)
  have HB_2 := Lib.hid ((by repeat (first | exact HB_1.out | refine Below.drew ?_ | refine Below.setCell ?_ (by first | omega | (simp; done) | (simp; omega)) _ | refine Below.alloc ?_ (by first | omega | (simp; done) | (simp; omega)) _) : Below w.heap.size w _).trans (hb2.mono (by first | omega | (simp; done) | (simp; omega))))
  have nz_2 : w.heap.size ≤ w2.heap.size := HB_2.out.size
  clear hb2 x0_1 x1_1 r0_1 rf0_1 r1_1 rf1_1 r2_1 rf2_1 HB_1
  go_wp2_with fail
  refine bodyPost_ret (v := .agg #[.int .i64 0, .int .i64 0, .bool false]) (by simp [results, Tryz.results24, go_sem, r0_2, r1_2, r2_2]) rfl ⟨rfl, by repeat (first | with_reducible exact HB_2.out | with_reducible refine Below.drew ?_ | with_reducible refine Below.setCell ?_ (by first | omega | (simp; done) | (simp; omega)) _ | with_reducible refine Below.alloc ?_ (by first | omega | (simp; done) | (simp; omega)) _)⟩

set_option maxRecDepth 100000 in
set_option maxHeartbeats 4000000 in
theorem rp_Bk (m e n1 s k d f g a b : Int) (t : Bool) (w : World) (hs : IntKind.i64.wrap n1 = n1) (h0 : (n1 == 0) = false) (hr : n1.tmod 2 = 1) (hk : IntKind.i64.wrap (n1 - 1) = k) (HO : Hid (∀ W : World, Calls Tryz.prog 26 #[] W fun r w' => r = .returned (realV 8388608 (-23)) ∧ Below W.heap.size W w')) (HI : Hid (∀ W : World, Calls Tryz.prog 24 #[realV m e, .int .i64 k, .int .i64 0] W fun r w' => r = .returned (.agg #[.int .i64 f, .int .i64 g, .bool true]) ∧ Below W.heap.size W w')) (HM : Hid (∀ W : World, Calls Tryz.prog 42 #[realV m e, realV f g] W fun r w' => r = .returned (.agg #[.int .i64 a, .int .i64 b, .bool t]) ∧ Below W.heap.size W w')) :
    Calls Tryz.prog 24 #[realV m e, .int .i64 n1, .int .i64 0] w fun r w' => r = .returned (.agg #[.int .i64 a, .int .i64 b, .bool t]) ∧ Below w.heap.size w w' := by
  go_enter Tryz.func24, Tryz.ntmps24
  go_wp2_with fail
  refine (HO.out _).mono ?_
  rintro e w1 ⟨rfl, hb1⟩
  have x0_1 : w1.cell? ⟨w.heap.size, 0, none⟩ = some (.int .i64 m) := carry hb1 (by go_simp)
  have x1_1 : w1.cell? ⟨w.heap.size, 1, none⟩ = some (.int .i64 e) := carry hb1 (by go_simp)
  have xz_1 : w.heap.size < w1.heap.size := by have := hb1.size; first | omega | (simp at this; omega)
  have r0_1 : w1.cell? ⟨w.heap.size + 1, 0, none⟩ = some (.int .i64 0) := carry hb1 (by go_simp)
  have rf0_1 : w1.frozen? ⟨w.heap.size + 1, 0, none⟩ = false := carryF hb1 (v := .int .i64 0) (by go_simp) (by go_simp)
  have r1_1 : w1.cell? ⟨w.heap.size + 1, 1, none⟩ = some (.int .i64 0) := carry hb1 (by go_simp)
  have rf1_1 : w1.frozen? ⟨w.heap.size + 1, 1, none⟩ = false := carryF hb1 (v := .int .i64 0) (by go_simp) (by go_simp)
  have r2_1 : w1.cell? ⟨w.heap.size + 1, 2, none⟩ = some (.bool false) := carry hb1 (by go_simp)
  have rf2_1 : w1.frozen? ⟨w.heap.size + 1, 2, none⟩ = false := carryF hb1 (v := .bool false) (by go_simp) (by go_simp)
  have rz_1 : w.heap.size + 1 < w1.heap.size := by have := hb1.size; first | omega | (simp at this; omega)
  have HB_1 := Lib.hid ((by repeat (first | exact Below.refl _ _ | refine Below.drew ?_ | refine Below.setCell ?_ (by first | omega | (simp; done) | (simp; omega)) _ | refine Below.alloc ?_ (by first | omega | (simp; done) | (simp; omega)) _) : Below w.heap.size w _).trans (hb1.mono (by first | omega | (simp; done) | (simp; omega))))
  have nz_1 : w.heap.size ≤ w1.heap.size := HB_1.out.size
  clear hb1
  go_wp2_with fail
  refine (HI.out _).mono ?_
  rintro e w2 ⟨rfl, hb2⟩
  have x0_2 : w2.cell? ⟨w.heap.size, 0, none⟩ = some (.int .i64 m) := carry hb2 (by go_simp)
  have x1_2 : w2.cell? ⟨w.heap.size, 1, none⟩ = some (.int .i64 e) := carry hb2 (by go_simp)
  have xz_2 : w.heap.size < w2.heap.size := by have := hb2.size; first | omega | (simp at this; omega)
  have r0_2 : w2.cell? ⟨w.heap.size + 1, 0, none⟩ = some (.int .i64 0) := carry hb2 (by go_simp)
  have rf0_2 : w2.frozen? ⟨w.heap.size + 1, 0, none⟩ = false := carryF hb2 (v := .int .i64 0) (by go_simp) (by go_simp)
  have r1_2 : w2.cell? ⟨w.heap.size + 1, 1, none⟩ = some (.int .i64 0) := carry hb2 (by go_simp)
  have rf1_2 : w2.frozen? ⟨w.heap.size + 1, 1, none⟩ = false := carryF hb2 (v := .int .i64 0) (by go_simp) (by go_simp)
  have r2_2 : w2.cell? ⟨w.heap.size + 1, 2, none⟩ = some (.bool false) := carry hb2 (by go_simp)
  have rf2_2 : w2.frozen? ⟨w.heap.size + 1, 2, none⟩ = false := carryF hb2 (v := .bool false) (by go_simp) (by go_simp)
  have rz_2 : w.heap.size + 1 < w2.heap.size := by have := hb2.size; first | omega | (simp at this; omega)
  have y0_2 : w2.cell? ⟨w1.heap.size, 0, none⟩ = some (.int .i64 8388608) := carry hb2 (by go_simp)
  have yf0_2 : w2.frozen? ⟨w1.heap.size, 0, none⟩ = false := carryF hb2 (v := .int .i64 8388608) (by go_simp) (by go_simp)
  have y1_2 : w2.cell? ⟨w1.heap.size, 1, none⟩ = some (.int .i64 (-23)) := carry hb2 (by go_simp)
  have yf1_2 : w2.frozen? ⟨w1.heap.size, 1, none⟩ = false := carryF hb2 (v := .int .i64 (-23)) (by go_simp) (by go_simp)
  have y2_2 : w2.cell? ⟨w1.heap.size, 2, none⟩ = some (.bool true) := carry hb2 (by go_simp)
  have yf2_2 : w2.frozen? ⟨w1.heap.size, 2, none⟩ = false := carryF hb2 (v := .bool true) (by go_simp) (by go_simp)
  have yz_2 : w1.heap.size < w2.heap.size := by have := hb2.size; first | omega | (simp at this; omega)
  have HB_2 := Lib.hid ((by repeat (first | exact HB_1.out | refine Below.drew ?_ | refine Below.setCell ?_ (by first | omega | (simp; done) | (simp; omega)) _ | refine Below.alloc ?_ (by first | omega | (simp; done) | (simp; omega)) _) : Below w.heap.size w _).trans (hb2.mono (by first | omega | (simp; done) | (simp; omega))))
  have nz_2 : w.heap.size ≤ w2.heap.size := HB_2.out.size
  clear hb2 x0_1 x1_1 r0_1 rf0_1 r1_1 rf1_1 r2_1 rf2_1 HB_1
  go_wp2_with fail
  refine (HM.out _).mono ?_
  rintro e w3 ⟨rfl, hb3⟩
  have x0_3 : w3.cell? ⟨w.heap.size, 0, none⟩ = some (.int .i64 m) := carry hb3 (by go_simp)
  have x1_3 : w3.cell? ⟨w.heap.size, 1, none⟩ = some (.int .i64 e) := carry hb3 (by go_simp)
  have xz_3 : w.heap.size < w3.heap.size := by have := hb3.size; first | omega | (simp at this; omega)
  have r0_3 : w3.cell? ⟨w.heap.size + 1, 0, none⟩ = some (.int .i64 0) := carry hb3 (by go_simp)
  have rf0_3 : w3.frozen? ⟨w.heap.size + 1, 0, none⟩ = false := carryF hb3 (v := .int .i64 0) (by go_simp) (by go_simp)
  have r1_3 : w3.cell? ⟨w.heap.size + 1, 1, none⟩ = some (.int .i64 0) := carry hb3 (by go_simp)
  have rf1_3 : w3.frozen? ⟨w.heap.size + 1, 1, none⟩ = false := carryF hb3 (v := .int .i64 0) (by go_simp) (by go_simp)
  have r2_3 : w3.cell? ⟨w.heap.size + 1, 2, none⟩ = some (.bool false) := carry hb3 (by go_simp)
  have rf2_3 : w3.frozen? ⟨w.heap.size + 1, 2, none⟩ = false := carryF hb3 (v := .bool false) (by go_simp) (by go_simp)
  have rz_3 : w.heap.size + 1 < w3.heap.size := by have := hb3.size; first | omega | (simp at this; omega)
  have y0_3 : w3.cell? ⟨w1.heap.size, 0, none⟩ = some (.int .i64 f) := carry hb3 (by go_simp)
  have yf0_3 : w3.frozen? ⟨w1.heap.size, 0, none⟩ = false := carryF hb3 (v := .int .i64 f) (by go_simp) (by go_simp)
  have y1_3 : w3.cell? ⟨w1.heap.size, 1, none⟩ = some (.int .i64 g) := carry hb3 (by go_simp)
  have yf1_3 : w3.frozen? ⟨w1.heap.size, 1, none⟩ = false := carryF hb3 (v := .int .i64 g) (by go_simp) (by go_simp)
  have y2_3 : w3.cell? ⟨w1.heap.size, 2, none⟩ = some (.bool true) := carry hb3 (by go_simp)
  have yf2_3 : w3.frozen? ⟨w1.heap.size, 2, none⟩ = false := carryF hb3 (v := .bool true) (by go_simp) (by go_simp)
  have yz_3 : w1.heap.size < w3.heap.size := by have := hb3.size; first | omega | (simp at this; omega)
  have HB_3 := Lib.hid ((by repeat (first | exact HB_2.out | refine Below.drew ?_ | refine Below.setCell ?_ (by first | omega | (simp; done) | (simp; omega)) _ | refine Below.alloc ?_ (by first | omega | (simp; done) | (simp; omega)) _) : Below w.heap.size w _).trans (hb3.mono (by first | omega | (simp; done) | (simp; omega))))
  have nz_3 : w.heap.size ≤ w3.heap.size := HB_3.out.size
  clear hb3 x0_2 x1_2 r0_2 rf0_2 r1_2 rf1_2 r2_2 rf2_2 y0_2 yf0_2 y1_2 yf1_2 y2_2 yf2_2 HB_2
  go_wp2_with fail
  refine bodyPost_ret (v := .agg #[.int .i64 a, .int .i64 b, .bool t]) (by simp [results, Tryz.results24, go_sem, r0_3, r1_3, r2_3]) rfl ⟨rfl, by repeat (first | with_reducible exact HB_3.out | with_reducible refine Below.drew ?_ | with_reducible refine Below.setCell ?_ (by first | omega | (simp; done) | (simp; omega)) _ | with_reducible refine Below.alloc ?_ (by first | omega | (simp; done) | (simp; omega)) _)⟩

set_option maxRecDepth 100000 in
set_option maxHeartbeats 4000000 in
theorem rp_Bp (m e n1 s k d f g a b : Int) (t : Bool) (w : World) (hs : IntKind.i64.wrap n1 = n1) (h0 : (n1 == 0) = false) (hr : n1.tmod 2 = 1) (hk : IntKind.i64.wrap (n1 - 1) = k) (HO : Hid (∀ W : World, Calls Tryz.prog 26 #[] W fun r w' => r = .returned (realV 8388608 (-23)) ∧ Below W.heap.size W w')) (HI : Hid (∀ W : World, Calls Tryz.prog 24 #[realV m e, .int .i64 k, .int .i64 0] W fun r w' => r = .returned (.agg #[.int .i64 0, .int .i64 0, .bool false]) ∧ Below W.heap.size W w')) :
    Calls Tryz.prog 24 #[realV m e, .int .i64 n1, .int .i64 0] w fun r w' => r = .returned (.agg #[.int .i64 0, .int .i64 0, .bool false]) ∧ Below w.heap.size w w' := by
  go_enter Tryz.func24, Tryz.ntmps24
  go_wp2_with fail
  refine (HO.out _).mono ?_
  rintro e w1 ⟨rfl, hb1⟩
  have x0_1 : w1.cell? ⟨w.heap.size, 0, none⟩ = some (.int .i64 m) := carry hb1 (by go_simp)
  have x1_1 : w1.cell? ⟨w.heap.size, 1, none⟩ = some (.int .i64 e) := carry hb1 (by go_simp)
  have xz_1 : w.heap.size < w1.heap.size := by have := hb1.size; first | omega | (simp at this; omega)
  have r0_1 : w1.cell? ⟨w.heap.size + 1, 0, none⟩ = some (.int .i64 0) := carry hb1 (by go_simp)
  have rf0_1 : w1.frozen? ⟨w.heap.size + 1, 0, none⟩ = false := carryF hb1 (v := .int .i64 0) (by go_simp) (by go_simp)
  have r1_1 : w1.cell? ⟨w.heap.size + 1, 1, none⟩ = some (.int .i64 0) := carry hb1 (by go_simp)
  have rf1_1 : w1.frozen? ⟨w.heap.size + 1, 1, none⟩ = false := carryF hb1 (v := .int .i64 0) (by go_simp) (by go_simp)
  have r2_1 : w1.cell? ⟨w.heap.size + 1, 2, none⟩ = some (.bool false) := carry hb1 (by go_simp)
  have rf2_1 : w1.frozen? ⟨w.heap.size + 1, 2, none⟩ = false := carryF hb1 (v := .bool false) (by go_simp) (by go_simp)
  have rz_1 : w.heap.size + 1 < w1.heap.size := by have := hb1.size; first | omega | (simp at this; omega)
  have HB_1 := Lib.hid ((by repeat (first | exact Below.refl _ _ | refine Below.drew ?_ | refine Below.setCell ?_ (by first | omega | (simp; done) | (simp; omega)) _ | refine Below.alloc ?_ (by first | omega | (simp; done) | (simp; omega)) _) : Below w.heap.size w _).trans (hb1.mono (by first | omega | (simp; done) | (simp; omega))))
  have nz_1 : w.heap.size ≤ w1.heap.size := HB_1.out.size
  clear hb1
  go_wp2_with fail
  refine (HI.out _).mono ?_
  rintro e w2 ⟨rfl, hb2⟩
  have x0_2 : w2.cell? ⟨w.heap.size, 0, none⟩ = some (.int .i64 m) := carry hb2 (by go_simp)
  have x1_2 : w2.cell? ⟨w.heap.size, 1, none⟩ = some (.int .i64 e) := carry hb2 (by go_simp)
  have xz_2 : w.heap.size < w2.heap.size := by have := hb2.size; first | omega | (simp at this; omega)
  have r0_2 : w2.cell? ⟨w.heap.size + 1, 0, none⟩ = some (.int .i64 0) := carry hb2 (by go_simp)
  have rf0_2 : w2.frozen? ⟨w.heap.size + 1, 0, none⟩ = false := carryF hb2 (v := .int .i64 0) (by go_simp) (by go_simp)
  have r1_2 : w2.cell? ⟨w.heap.size + 1, 1, none⟩ = some (.int .i64 0) := carry hb2 (by go_simp)
  have rf1_2 : w2.frozen? ⟨w.heap.size + 1, 1, none⟩ = false := carryF hb2 (v := .int .i64 0) (by go_simp) (by go_simp)
  have r2_2 : w2.cell? ⟨w.heap.size + 1, 2, none⟩ = some (.bool false) := carry hb2 (by go_simp)
  have rf2_2 : w2.frozen? ⟨w.heap.size + 1, 2, none⟩ = false := carryF hb2 (v := .bool false) (by go_simp) (by go_simp)
  have rz_2 : w.heap.size + 1 < w2.heap.size := by have := hb2.size; first | omega | (simp at this; omega)
  have y0_2 : w2.cell? ⟨w1.heap.size, 0, none⟩ = some (.int .i64 8388608) := carry hb2 (by go_simp)
  have yf0_2 : w2.frozen? ⟨w1.heap.size, 0, none⟩ = false := carryF hb2 (v := .int .i64 8388608) (by go_simp) (by go_simp)
  have y1_2 : w2.cell? ⟨w1.heap.size, 1, none⟩ = some (.int .i64 (-23)) := carry hb2 (by go_simp)
  have yf1_2 : w2.frozen? ⟨w1.heap.size, 1, none⟩ = false := carryF hb2 (v := .int .i64 (-23)) (by go_simp) (by go_simp)
  have y2_2 : w2.cell? ⟨w1.heap.size, 2, none⟩ = some (.bool true) := carry hb2 (by go_simp)
  have yf2_2 : w2.frozen? ⟨w1.heap.size, 2, none⟩ = false := carryF hb2 (v := .bool true) (by go_simp) (by go_simp)
  have yz_2 : w1.heap.size < w2.heap.size := by have := hb2.size; first | omega | (simp at this; omega)
  have HB_2 := Lib.hid ((by repeat (first | exact HB_1.out | refine Below.drew ?_ | refine Below.setCell ?_ (by first | omega | (simp; done) | (simp; omega)) _ | refine Below.alloc ?_ (by first | omega | (simp; done) | (simp; omega)) _) : Below w.heap.size w _).trans (hb2.mono (by first | omega | (simp; done) | (simp; omega))))
  have nz_2 : w.heap.size ≤ w2.heap.size := HB_2.out.size
  clear hb2 x0_1 x1_1 r0_1 rf0_1 r1_1 rf1_1 r2_1 rf2_1 HB_1
  go_wp2_with fail
  refine bodyPost_ret (v := .agg #[.int .i64 0, .int .i64 0, .bool false]) (by simp [results, Tryz.results24, go_sem, r0_2, r1_2, r2_2]) rfl ⟨rfl, by repeat (first | with_reducible exact HB_2.out | with_reducible refine Below.drew ?_ | with_reducible refine Below.setCell ?_ (by first | omega | (simp; done) | (simp; omega)) _ | with_reducible refine Below.alloc ?_ (by first | omega | (simp; done) | (simp; omega)) _)⟩

set_option maxRecDepth 100000 in
set_option maxHeartbeats 4000000 in
theorem rp_Ck (m e n1 s k d f g a b : Int) (t : Bool) (w : World) (hs : IntKind.i64.wrap n1 = n1) (h0 : (n1 == 0) = false) (hr : n1.tmod 2 = 0) (hd : n1.tdiv 2 = d) (hk : IntKind.i64.wrap d = d) (HI : Hid (∀ W : World, Calls Tryz.prog 24 #[realV m e, .int .i64 d, .int .i64 0] W fun r w' => r = .returned (.agg #[.int .i64 f, .int .i64 g, .bool true]) ∧ Below W.heap.size W w')) (HM : Hid (∀ W : World, Calls Tryz.prog 42 #[realV f g, realV f g] W fun r w' => r = .returned (.agg #[.int .i64 a, .int .i64 b, .bool t]) ∧ Below W.heap.size W w')) :
    Calls Tryz.prog 24 #[realV m e, .int .i64 n1, .int .i64 0] w fun r w' => r = .returned (.agg #[.int .i64 a, .int .i64 b, .bool t]) ∧ Below w.heap.size w w' := by
  go_enter Tryz.func24, Tryz.ntmps24
  go_wp2_with fail
  refine (HI.out _).mono ?_
  rintro e w1 ⟨rfl, hb1⟩
  have r0_1 : w1.cell? ⟨w.heap.size + 1, 0, none⟩ = some (.int .i64 0) := carry hb1 (by go_simp)
  have rf0_1 : w1.frozen? ⟨w.heap.size + 1, 0, none⟩ = false := carryF hb1 (v := .int .i64 0) (by go_simp) (by go_simp)
  have r1_1 : w1.cell? ⟨w.heap.size + 1, 1, none⟩ = some (.int .i64 0) := carry hb1 (by go_simp)
  have rf1_1 : w1.frozen? ⟨w.heap.size + 1, 1, none⟩ = false := carryF hb1 (v := .int .i64 0) (by go_simp) (by go_simp)
  have r2_1 : w1.cell? ⟨w.heap.size + 1, 2, none⟩ = some (.bool false) := carry hb1 (by go_simp)
  have rf2_1 : w1.frozen? ⟨w.heap.size + 1, 2, none⟩ = false := carryF hb1 (v := .bool false) (by go_simp) (by go_simp)
  have rz_1 : w.heap.size + 1 < w1.heap.size := by have := hb1.size; first | omega | (simp at this; omega)
  have HB_1 := Lib.hid ((by repeat (first | exact Below.refl _ _ | refine Below.drew ?_ | refine Below.setCell ?_ (by first | omega | (simp; done) | (simp; omega)) _ | refine Below.alloc ?_ (by first | omega | (simp; done) | (simp; omega)) _) : Below w.heap.size w _).trans (hb1.mono (by first | omega | (simp; done) | (simp; omega))))
  have nz_1 : w.heap.size ≤ w1.heap.size := HB_1.out.size
  clear hb1
  go_wp2_with fail
  refine (HM.out _).mono ?_
  rintro e w2 ⟨rfl, hb2⟩
  have r0_2 : w2.cell? ⟨w.heap.size + 1, 0, none⟩ = some (.int .i64 0) := carry hb2 (by go_simp)
  have rf0_2 : w2.frozen? ⟨w.heap.size + 1, 0, none⟩ = false := carryF hb2 (v := .int .i64 0) (by go_simp) (by go_simp)
  have r1_2 : w2.cell? ⟨w.heap.size + 1, 1, none⟩ = some (.int .i64 0) := carry hb2 (by go_simp)
  have rf1_2 : w2.frozen? ⟨w.heap.size + 1, 1, none⟩ = false := carryF hb2 (v := .int .i64 0) (by go_simp) (by go_simp)
  have r2_2 : w2.cell? ⟨w.heap.size + 1, 2, none⟩ = some (.bool false) := carry hb2 (by go_simp)
  have rf2_2 : w2.frozen? ⟨w.heap.size + 1, 2, none⟩ = false := carryF hb2 (v := .bool false) (by go_simp) (by go_simp)
  have rz_2 : w.heap.size + 1 < w2.heap.size := by have := hb2.size; first | omega | (simp at this; omega)
  have y0_2 : w2.cell? ⟨w1.heap.size, 0, none⟩ = some (.int .i64 f) := carry hb2 (by go_simp)
  have yf0_2 : w2.frozen? ⟨w1.heap.size, 0, none⟩ = false := carryF hb2 (v := .int .i64 f) (by go_simp) (by go_simp)
  have y1_2 : w2.cell? ⟨w1.heap.size, 1, none⟩ = some (.int .i64 g) := carry hb2 (by go_simp)
  have yf1_2 : w2.frozen? ⟨w1.heap.size, 1, none⟩ = false := carryF hb2 (v := .int .i64 g) (by go_simp) (by go_simp)
  have y2_2 : w2.cell? ⟨w1.heap.size, 2, none⟩ = some (.bool true) := carry hb2 (by go_simp)
  have yf2_2 : w2.frozen? ⟨w1.heap.size, 2, none⟩ = false := carryF hb2 (v := .bool true) (by go_simp) (by go_simp)
  have yz_2 : w1.heap.size < w2.heap.size := by have := hb2.size; first | omega | (simp at this; omega)
  have HB_2 := Lib.hid ((by repeat (first | exact HB_1.out | refine Below.drew ?_ | refine Below.setCell ?_ (by first | omega | (simp; done) | (simp; omega)) _ | refine Below.alloc ?_ (by first | omega | (simp; done) | (simp; omega)) _) : Below w.heap.size w _).trans (hb2.mono (by first | omega | (simp; done) | (simp; omega))))
  have nz_2 : w.heap.size ≤ w2.heap.size := HB_2.out.size
  clear hb2 r0_1 rf0_1 r1_1 rf1_1 r2_1 rf2_1 HB_1
  go_wp2_with fail
  refine bodyPost_ret (v := .agg #[.int .i64 a, .int .i64 b, .bool t]) (by simp [results, Tryz.results24, go_sem, r0_2, r1_2, r2_2]) rfl ⟨rfl, by repeat (first | with_reducible exact HB_2.out | with_reducible refine Below.drew ?_ | with_reducible refine Below.setCell ?_ (by first | omega | (simp; done) | (simp; omega)) _ | with_reducible refine Below.alloc ?_ (by first | omega | (simp; done) | (simp; omega)) _)⟩

set_option maxRecDepth 100000 in
set_option maxHeartbeats 4000000 in
theorem rp_Cp (m e n1 s k d f g a b : Int) (t : Bool) (w : World) (hs : IntKind.i64.wrap n1 = n1) (h0 : (n1 == 0) = false) (hr : n1.tmod 2 = 0) (hd : n1.tdiv 2 = d) (hk : IntKind.i64.wrap d = d) (HI : Hid (∀ W : World, Calls Tryz.prog 24 #[realV m e, .int .i64 d, .int .i64 0] W fun r w' => r = .returned (.agg #[.int .i64 0, .int .i64 0, .bool false]) ∧ Below W.heap.size W w')) :
    Calls Tryz.prog 24 #[realV m e, .int .i64 n1, .int .i64 0] w fun r w' => r = .returned (.agg #[.int .i64 0, .int .i64 0, .bool false]) ∧ Below w.heap.size w w' := by
  go_enter Tryz.func24, Tryz.ntmps24
  go_wp2_with fail
  refine (HI.out _).mono ?_
  rintro e w1 ⟨rfl, hb1⟩
  have r0_1 : w1.cell? ⟨w.heap.size + 1, 0, none⟩ = some (.int .i64 0) := carry hb1 (by go_simp)
  have rf0_1 : w1.frozen? ⟨w.heap.size + 1, 0, none⟩ = false := carryF hb1 (v := .int .i64 0) (by go_simp) (by go_simp)
  have r1_1 : w1.cell? ⟨w.heap.size + 1, 1, none⟩ = some (.int .i64 0) := carry hb1 (by go_simp)
  have rf1_1 : w1.frozen? ⟨w.heap.size + 1, 1, none⟩ = false := carryF hb1 (v := .int .i64 0) (by go_simp) (by go_simp)
  have r2_1 : w1.cell? ⟨w.heap.size + 1, 2, none⟩ = some (.bool false) := carry hb1 (by go_simp)
  have rf2_1 : w1.frozen? ⟨w.heap.size + 1, 2, none⟩ = false := carryF hb1 (v := .bool false) (by go_simp) (by go_simp)
  have rz_1 : w.heap.size + 1 < w1.heap.size := by have := hb1.size; first | omega | (simp at this; omega)
  have HB_1 := Lib.hid ((by repeat (first | exact Below.refl _ _ | refine Below.drew ?_ | refine Below.setCell ?_ (by first | omega | (simp; done) | (simp; omega)) _ | refine Below.alloc ?_ (by first | omega | (simp; done) | (simp; omega)) _) : Below w.heap.size w _).trans (hb1.mono (by first | omega | (simp; done) | (simp; omega))))
  have nz_1 : w.heap.size ≤ w1.heap.size := HB_1.out.size
  clear hb1
  go_upto_region 13 with fail
  generalize hW : w1.alloc _ = w2
  have r0_2 : w2.cell? ⟨w.heap.size + 1, 0, none⟩ = some (.int .i64 0) := by rw [← hW]; clear hW; go_simp
  have rf0_2 : w2.frozen? ⟨w.heap.size + 1, 0, none⟩ = false := by rw [← hW]; clear hW; go_simp
  have r1_2 : w2.cell? ⟨w.heap.size + 1, 1, none⟩ = some (.int .i64 0) := by rw [← hW]; clear hW; go_simp
  have rf1_2 : w2.frozen? ⟨w.heap.size + 1, 1, none⟩ = false := by rw [← hW]; clear hW; go_simp
  have r2_2 : w2.cell? ⟨w.heap.size + 1, 2, none⟩ = some (.bool false) := by rw [← hW]; clear hW; go_simp
  have rf2_2 : w2.frozen? ⟨w.heap.size + 1, 2, none⟩ = false := by rw [← hW]; clear hW; go_simp
  have rz_2 : w.heap.size + 1 < w2.heap.size := by rw [← hW]; clear hW; simp <;> omega
  have y0_2 : w2.cell? ⟨w1.heap.size, 0, none⟩ = some (.int .i64 0) := by rw [← hW]; clear hW; go_simp
  have yf0_2 : w2.frozen? ⟨w1.heap.size, 0, none⟩ = false := by rw [← hW]; clear hW; go_simp
  have y1_2 : w2.cell? ⟨w1.heap.size, 1, none⟩ = some (.int .i64 0) := by rw [← hW]; clear hW; go_simp
  have yf1_2 : w2.frozen? ⟨w1.heap.size, 1, none⟩ = false := by rw [← hW]; clear hW; go_simp
  have y2_2 : w2.cell? ⟨w1.heap.size, 2, none⟩ = some (.bool false) := by rw [← hW]; clear hW; go_simp
  have yf2_2 : w2.frozen? ⟨w1.heap.size, 2, none⟩ = false := by rw [← hW]; clear hW; go_simp
  have yz_2 : w1.heap.size < w2.heap.size := by rw [← hW]; clear hW; simp <;> omega
  have HB_2 := Lib.hid ((by rw [← hW]; clear hW; exact Below.alloc HB_1.out (by have := HB_1.out.size; omega) _) : Below w.heap.size w w2)
  clear hW HB_1 r0_1 rf0_1 r1_1 rf1_1 r2_1 rf2_1
  have nz_2 : w.heap.size ≤ w2.heap.size := HB_2.out.size
  go_wp2_with fail
  refine bodyPost_ret (v := .agg #[.int .i64 0, .int .i64 0, .bool false]) (by simp [results, Tryz.results24, go_sem, r0_2, r1_2, r2_2]) rfl ⟨rfl, by repeat (first | with_reducible exact HB_2.out | with_reducible refine Below.drew ?_ | with_reducible refine Below.setCell ?_ (by first | omega | (simp; done) | (simp; omega)) _ | with_reducible refine Below.alloc ?_ (by first | omega | (simp; done) | (simp; omega)) _)⟩

set_option maxRecDepth 100000 in
set_option maxHeartbeats 4000000 in
theorem rp_Dk (m e n1 s k d f g a b : Int) (t : Bool) (w : World) (hs : IntKind.i64.wrap (n1 + 1) = s) (h0 : (s == 0) = false) (hr : n1.tmod 2 = 1) (hd : n1.tdiv 2 = d) (hk0 : IntKind.i64.wrap d = d) (hk : IntKind.i64.wrap (d + 1) = k) (HI : Hid (∀ W : World, Calls Tryz.prog 24 #[realV m e, .int .i64 k, .int .i64 0] W fun r w' => r = .returned (.agg #[.int .i64 f, .int .i64 g, .bool true]) ∧ Below W.heap.size W w')) (HM : Hid (∀ W : World, Calls Tryz.prog 42 #[realV f g, realV f g] W fun r w' => r = .returned (.agg #[.int .i64 a, .int .i64 b, .bool t]) ∧ Below W.heap.size W w')) :
    Calls Tryz.prog 24 #[realV m e, .int .i64 n1, .int .i64 1] w fun r w' => r = .returned (.agg #[.int .i64 a, .int .i64 b, .bool t]) ∧ Below w.heap.size w w' := by
  go_enter Tryz.func24, Tryz.ntmps24
  go_wp2_with fail
  refine (HI.out _).mono ?_
  rintro e w1 ⟨rfl, hb1⟩
  have r0_1 : w1.cell? ⟨w.heap.size + 1, 0, none⟩ = some (.int .i64 0) := carry hb1 (by go_simp)
  have rf0_1 : w1.frozen? ⟨w.heap.size + 1, 0, none⟩ = false := carryF hb1 (v := .int .i64 0) (by go_simp) (by go_simp)
  have r1_1 : w1.cell? ⟨w.heap.size + 1, 1, none⟩ = some (.int .i64 0) := carry hb1 (by go_simp)
  have rf1_1 : w1.frozen? ⟨w.heap.size + 1, 1, none⟩ = false := carryF hb1 (v := .int .i64 0) (by go_simp) (by go_simp)
  have r2_1 : w1.cell? ⟨w.heap.size + 1, 2, none⟩ = some (.bool false) := carry hb1 (by go_simp)
  have rf2_1 : w1.frozen? ⟨w.heap.size + 1, 2, none⟩ = false := carryF hb1 (v := .bool false) (by go_simp) (by go_simp)
  have rz_1 : w.heap.size + 1 < w1.heap.size := by have := hb1.size; first | omega | (simp at this; omega)
  have HB_1 := Lib.hid ((by repeat (first | exact Below.refl _ _ | refine Below.drew ?_ | refine Below.setCell ?_ (by first | omega | (simp; done) | (simp; omega)) _ | refine Below.alloc ?_ (by first | omega | (simp; done) | (simp; omega)) _) : Below w.heap.size w _).trans (hb1.mono (by first | omega | (simp; done) | (simp; omega))))
  have nz_1 : w.heap.size ≤ w1.heap.size := HB_1.out.size
  clear hb1
  go_wp2_with fail
  refine (HM.out _).mono ?_
  rintro e w2 ⟨rfl, hb2⟩
  have r0_2 : w2.cell? ⟨w.heap.size + 1, 0, none⟩ = some (.int .i64 0) := carry hb2 (by go_simp)
  have rf0_2 : w2.frozen? ⟨w.heap.size + 1, 0, none⟩ = false := carryF hb2 (v := .int .i64 0) (by go_simp) (by go_simp)
  have r1_2 : w2.cell? ⟨w.heap.size + 1, 1, none⟩ = some (.int .i64 0) := carry hb2 (by go_simp)
  have rf1_2 : w2.frozen? ⟨w.heap.size + 1, 1, none⟩ = false := carryF hb2 (v := .int .i64 0) (by go_simp) (by go_simp)
  have r2_2 : w2.cell? ⟨w.heap.size + 1, 2, none⟩ = some (.bool false) := carry hb2 (by go_simp)
  have rf2_2 : w2.frozen? ⟨w.heap.size + 1, 2, none⟩ = false := carryF hb2 (v := .bool false) (by go_simp) (by go_simp)
  have rz_2 : w.heap.size + 1 < w2.heap.size := by have := hb2.size; first | omega | (simp at this; omega)
  have y0_2 : w2.cell? ⟨w1.heap.size, 0, none⟩ = some (.int .i64 f) := carry hb2 (by go_simp)
  have yf0_2 : w2.frozen? ⟨w1.heap.size, 0, none⟩ = false := carryF hb2 (v := .int .i64 f) (by go_simp) (by go_simp)
  have y1_2 : w2.cell? ⟨w1.heap.size, 1, none⟩ = some (.int .i64 g) := carry hb2 (by go_simp)
  have yf1_2 : w2.frozen? ⟨w1.heap.size, 1, none⟩ = false := carryF hb2 (v := .int .i64 g) (by go_simp) (by go_simp)
  have y2_2 : w2.cell? ⟨w1.heap.size, 2, none⟩ = some (.bool true) := carry hb2 (by go_simp)
  have yf2_2 : w2.frozen? ⟨w1.heap.size, 2, none⟩ = false := carryF hb2 (v := .bool true) (by go_simp) (by go_simp)
  have yz_2 : w1.heap.size < w2.heap.size := by have := hb2.size; first | omega | (simp at this; omega)
  have HB_2 := Lib.hid ((by repeat (first | exact HB_1.out | refine Below.drew ?_ | refine Below.setCell ?_ (by first | omega | (simp; done) | (simp; omega)) _ | refine Below.alloc ?_ (by first | omega | (simp; done) | (simp; omega)) _) : Below w.heap.size w _).trans (hb2.mono (by first | omega | (simp; done) | (simp; omega))))
  have nz_2 : w.heap.size ≤ w2.heap.size := HB_2.out.size
  clear hb2 r0_1 rf0_1 r1_1 rf1_1 r2_1 rf2_1 HB_1
  go_wp2_with fail
  refine bodyPost_ret (v := .agg #[.int .i64 a, .int .i64 b, .bool t]) (by simp [results, Tryz.results24, go_sem, r0_2, r1_2, r2_2]) rfl ⟨rfl, by repeat (first | with_reducible exact HB_2.out | with_reducible refine Below.drew ?_ | with_reducible refine Below.setCell ?_ (by first | omega | (simp; done) | (simp; omega)) _ | with_reducible refine Below.alloc ?_ (by first | omega | (simp; done) | (simp; omega)) _)⟩

set_option maxRecDepth 100000 in
set_option maxHeartbeats 4000000 in
theorem rp_Dp (m e n1 s k d f g a b : Int) (t : Bool) (w : World) (hs : IntKind.i64.wrap (n1 + 1) = s) (h0 : (s == 0) = false) (hr : n1.tmod 2 = 1) (hd : n1.tdiv 2 = d) (hk0 : IntKind.i64.wrap d = d) (hk : IntKind.i64.wrap (d + 1) = k) (HI : Hid (∀ W : World, Calls Tryz.prog 24 #[realV m e, .int .i64 k, .int .i64 0] W fun r w' => r = .returned (.agg #[.int .i64 0, .int .i64 0, .bool false]) ∧ Below W.heap.size W w')) :
    Calls Tryz.prog 24 #[realV m e, .int .i64 n1, .int .i64 1] w fun r w' => r = .returned (.agg #[.int .i64 0, .int .i64 0, .bool false]) ∧ Below w.heap.size w w' := by
  go_enter Tryz.func24, Tryz.ntmps24
  go_wp2_with fail
  refine (HI.out _).mono ?_
  rintro e w1 ⟨rfl, hb1⟩
  have r0_1 : w1.cell? ⟨w.heap.size + 1, 0, none⟩ = some (.int .i64 0) := carry hb1 (by go_simp)
  have rf0_1 : w1.frozen? ⟨w.heap.size + 1, 0, none⟩ = false := carryF hb1 (v := .int .i64 0) (by go_simp) (by go_simp)
  have r1_1 : w1.cell? ⟨w.heap.size + 1, 1, none⟩ = some (.int .i64 0) := carry hb1 (by go_simp)
  have rf1_1 : w1.frozen? ⟨w.heap.size + 1, 1, none⟩ = false := carryF hb1 (v := .int .i64 0) (by go_simp) (by go_simp)
  have r2_1 : w1.cell? ⟨w.heap.size + 1, 2, none⟩ = some (.bool false) := carry hb1 (by go_simp)
  have rf2_1 : w1.frozen? ⟨w.heap.size + 1, 2, none⟩ = false := carryF hb1 (v := .bool false) (by go_simp) (by go_simp)
  have rz_1 : w.heap.size + 1 < w1.heap.size := by have := hb1.size; first | omega | (simp at this; omega)
  have HB_1 := Lib.hid ((by repeat (first | exact Below.refl _ _ | refine Below.drew ?_ | refine Below.setCell ?_ (by first | omega | (simp; done) | (simp; omega)) _ | refine Below.alloc ?_ (by first | omega | (simp; done) | (simp; omega)) _) : Below w.heap.size w _).trans (hb1.mono (by first | omega | (simp; done) | (simp; omega))))
  have nz_1 : w.heap.size ≤ w1.heap.size := HB_1.out.size
  clear hb1
  go_upto_region 13 with fail
  generalize hW : w1.alloc _ = w2
  have r0_2 : w2.cell? ⟨w.heap.size + 1, 0, none⟩ = some (.int .i64 0) := by rw [← hW]; clear hW; go_simp
  have rf0_2 : w2.frozen? ⟨w.heap.size + 1, 0, none⟩ = false := by rw [← hW]; clear hW; go_simp
  have r1_2 : w2.cell? ⟨w.heap.size + 1, 1, none⟩ = some (.int .i64 0) := by rw [← hW]; clear hW; go_simp
  have rf1_2 : w2.frozen? ⟨w.heap.size + 1, 1, none⟩ = false := by rw [← hW]; clear hW; go_simp
  have r2_2 : w2.cell? ⟨w.heap.size + 1, 2, none⟩ = some (.bool false) := by rw [← hW]; clear hW; go_simp
  have rf2_2 : w2.frozen? ⟨w.heap.size + 1, 2, none⟩ = false := by rw [← hW]; clear hW; go_simp
  have rz_2 : w.heap.size + 1 < w2.heap.size := by rw [← hW]; clear hW; simp <;> omega
  have y0_2 : w2.cell? ⟨w1.heap.size, 0, none⟩ = some (.int .i64 0) := by rw [← hW]; clear hW; go_simp
  have yf0_2 : w2.frozen? ⟨w1.heap.size, 0, none⟩ = false := by rw [← hW]; clear hW; go_simp
  have y1_2 : w2.cell? ⟨w1.heap.size, 1, none⟩ = some (.int .i64 0) := by rw [← hW]; clear hW; go_simp
  have yf1_2 : w2.frozen? ⟨w1.heap.size, 1, none⟩ = false := by rw [← hW]; clear hW; go_simp
  have y2_2 : w2.cell? ⟨w1.heap.size, 2, none⟩ = some (.bool false) := by rw [← hW]; clear hW; go_simp
  have yf2_2 : w2.frozen? ⟨w1.heap.size, 2, none⟩ = false := by rw [← hW]; clear hW; go_simp
  have yz_2 : w1.heap.size < w2.heap.size := by rw [← hW]; clear hW; simp <;> omega
  have HB_2 := Lib.hid ((by rw [← hW]; clear hW; exact Below.alloc HB_1.out (by have := HB_1.out.size; omega) _) : Below w.heap.size w w2)
  clear hW HB_1 r0_1 rf0_1 r1_1 rf1_1 r2_1 rf2_1
  have nz_2 : w.heap.size ≤ w2.heap.size := HB_2.out.size
  go_wp2_with fail
  refine bodyPost_ret (v := .agg #[.int .i64 0, .int .i64 0, .bool false]) (by simp [results, Tryz.results24, go_sem, r0_2, r1_2, r2_2]) rfl ⟨rfl, by repeat (first | with_reducible exact HB_2.out | with_reducible refine Below.drew ?_ | with_reducible refine Below.setCell ?_ (by first | omega | (simp; done) | (simp; omega)) _ | with_reducible refine Below.alloc ?_ (by first | omega | (simp; done) | (simp; omega)) _)⟩

set_option maxRecDepth 100000 in
set_option maxHeartbeats 4000000 in
theorem rw_uk (m e n1 s k f g a b : Int) (w : World) (h0 : 0 ≤ n1) (HI : Hid (∀ W : World, Calls Tryz.prog 24 #[realV m e, .int .i64 n1, .int .i64 0] W fun r w' => r = .returned (.agg #[.int .i64 f, .int .i64 g, .bool true]) ∧ Below W.heap.size W w')) :
    Calls Tryz.prog 7 #[realV m e, .int .i64 n1] w fun r w' => r = .returned (.agg #[.int .i64 f, .int .i64 g, .int .i64 0]) ∧ Below w.heap.size w w' := by
  go_enter Tryz.func7, Tryz.ntmps7
  go_wp2_with fail
  refine (HI.out _).mono ?_
  rintro e w1 ⟨rfl, hb1⟩
  have r0_1 : w1.cell? ⟨w.heap.size + 1, 0, none⟩ = some (.int .i64 0) := carry hb1 (by go_simp)
  have rf0_1 : w1.frozen? ⟨w.heap.size + 1, 0, none⟩ = false := carryF hb1 (v := .int .i64 0) (by go_simp) (by go_simp)
  have r1_1 : w1.cell? ⟨w.heap.size + 1, 1, none⟩ = some (.int .i64 0) := carry hb1 (by go_simp)
  have rf1_1 : w1.frozen? ⟨w.heap.size + 1, 1, none⟩ = false := carryF hb1 (v := .int .i64 0) (by go_simp) (by go_simp)
  have r2_1 : w1.cell? ⟨w.heap.size + 1, 2, none⟩ = some (.int .i64 0) := carry hb1 (by go_simp)
  have rf2_1 : w1.frozen? ⟨w.heap.size + 1, 2, none⟩ = false := carryF hb1 (v := .int .i64 0) (by go_simp) (by go_simp)
  have rz_1 : w.heap.size + 1 < w1.heap.size := by have := hb1.size; first | omega | (simp at this; omega)
  have HB_1 := Lib.hid ((by repeat (first | exact Below.refl _ _ | refine Below.drew ?_ | refine Below.setCell ?_ (by first | omega | (simp; done) | (simp; omega)) _ | refine Below.alloc ?_ (by first | omega | (simp; done) | (simp; omega)) _) : Below w.heap.size w _).trans (hb1.mono (by first | omega | (simp; done) | (simp; omega))))
  have nz_1 : w.heap.size ≤ w1.heap.size := HB_1.out.size
  clear hb1
  go_upto_region 3 with fail
  generalize hW : w1.alloc _ = w2
  have r0_2 : w2.cell? ⟨w.heap.size + 1, 0, none⟩ = some (.int .i64 0) := by rw [← hW]; clear hW; go_simp
  have rf0_2 : w2.frozen? ⟨w.heap.size + 1, 0, none⟩ = false := by rw [← hW]; clear hW; go_simp
  have r1_2 : w2.cell? ⟨w.heap.size + 1, 1, none⟩ = some (.int .i64 0) := by rw [← hW]; clear hW; go_simp
  have rf1_2 : w2.frozen? ⟨w.heap.size + 1, 1, none⟩ = false := by rw [← hW]; clear hW; go_simp
  have r2_2 : w2.cell? ⟨w.heap.size + 1, 2, none⟩ = some (.int .i64 0) := by rw [← hW]; clear hW; go_simp
  have rf2_2 : w2.frozen? ⟨w.heap.size + 1, 2, none⟩ = false := by rw [← hW]; clear hW; go_simp
  have rz_2 : w.heap.size + 1 < w2.heap.size := by rw [← hW]; clear hW; simp <;> omega
  have y0_2 : w2.cell? ⟨w1.heap.size, 0, none⟩ = some (.int .i64 f) := by rw [← hW]; clear hW; go_simp
  have y1_2 : w2.cell? ⟨w1.heap.size, 1, none⟩ = some (.int .i64 g) := by rw [← hW]; clear hW; go_simp
  have y2_2 : w2.cell? ⟨w1.heap.size, 2, none⟩ = some (.bool true) := by rw [← hW]; clear hW; go_simp
  have yz_2 : w1.heap.size < w2.heap.size := by rw [← hW]; clear hW; simp <;> omega
  have HB_2 := Lib.hid ((by rw [← hW]; clear hW; exact Below.alloc HB_1.out (by have := HB_1.out.size; omega) _) : Below w.heap.size w w2)
  clear hW HB_1 r0_1 rf0_1 r1_1 rf1_1 r2_1 rf2_1
  have nz_2 : w.heap.size ≤ w2.heap.size := HB_2.out.size
  go_wp2_with fail
  refine bodyPost_ret (v := .agg #[.int .i64 f, .int .i64 g, .int .i64 0]) (by simp [results, Tryz.results7, go_sem, r0_2, r1_2, r2_2]) rfl ⟨rfl, by repeat (first | with_reducible exact HB_2.out | with_reducible refine Below.drew ?_ | with_reducible refine Below.setCell ?_ (by first | omega | (simp; done) | (simp; omega)) _ | with_reducible refine Below.alloc ?_ (by first | omega | (simp; done) | (simp; omega)) _)⟩

set_option maxRecDepth 100000 in
set_option maxHeartbeats 4000000 in
theorem rw_up (m e n1 s k f g a b : Int) (w : World) (h0 : 0 ≤ n1) (HI : Hid (∀ W : World, Calls Tryz.prog 24 #[realV m e, .int .i64 n1, .int .i64 0] W fun r w' => r = .returned (.agg #[.int .i64 0, .int .i64 0, .bool false]) ∧ Below W.heap.size W w')) :
    Calls Tryz.prog 7 #[realV m e, .int .i64 n1] w fun r w' => r = .returned (.agg #[.int .i64 0, .int .i64 0, .int .i64 3]) ∧ Below w.heap.size w w' := by
  go_enter Tryz.func7, Tryz.ntmps7
  go_wp2_with fail
  refine (HI.out _).mono ?_
  rintro e w1 ⟨rfl, hb1⟩
  have r0_1 : w1.cell? ⟨w.heap.size + 1, 0, none⟩ = some (.int .i64 0) := carry hb1 (by go_simp)
  have rf0_1 : w1.frozen? ⟨w.heap.size + 1, 0, none⟩ = false := carryF hb1 (v := .int .i64 0) (by go_simp) (by go_simp)
  have r1_1 : w1.cell? ⟨w.heap.size + 1, 1, none⟩ = some (.int .i64 0) := carry hb1 (by go_simp)
  have rf1_1 : w1.frozen? ⟨w.heap.size + 1, 1, none⟩ = false := carryF hb1 (v := .int .i64 0) (by go_simp) (by go_simp)
  have r2_1 : w1.cell? ⟨w.heap.size + 1, 2, none⟩ = some (.int .i64 0) := carry hb1 (by go_simp)
  have rf2_1 : w1.frozen? ⟨w.heap.size + 1, 2, none⟩ = false := carryF hb1 (v := .int .i64 0) (by go_simp) (by go_simp)
  have rz_1 : w.heap.size + 1 < w1.heap.size := by have := hb1.size; first | omega | (simp at this; omega)
  have HB_1 := Lib.hid ((by repeat (first | exact Below.refl _ _ | refine Below.drew ?_ | refine Below.setCell ?_ (by first | omega | (simp; done) | (simp; omega)) _ | refine Below.alloc ?_ (by first | omega | (simp; done) | (simp; omega)) _) : Below w.heap.size w _).trans (hb1.mono (by first | omega | (simp; done) | (simp; omega))))
  have nz_1 : w.heap.size ≤ w1.heap.size := HB_1.out.size
  clear hb1
  go_upto_region 3 with fail
  generalize hW : w1.alloc _ = w2
  have r0_2 : w2.cell? ⟨w.heap.size + 1, 0, none⟩ = some (.int .i64 0) := by rw [← hW]; clear hW; go_simp
  have rf0_2 : w2.frozen? ⟨w.heap.size + 1, 0, none⟩ = false := by rw [← hW]; clear hW; go_simp
  have r1_2 : w2.cell? ⟨w.heap.size + 1, 1, none⟩ = some (.int .i64 0) := by rw [← hW]; clear hW; go_simp
  have rf1_2 : w2.frozen? ⟨w.heap.size + 1, 1, none⟩ = false := by rw [← hW]; clear hW; go_simp
  have r2_2 : w2.cell? ⟨w.heap.size + 1, 2, none⟩ = some (.int .i64 0) := by rw [← hW]; clear hW; go_simp
  have rf2_2 : w2.frozen? ⟨w.heap.size + 1, 2, none⟩ = false := by rw [← hW]; clear hW; go_simp
  have rz_2 : w.heap.size + 1 < w2.heap.size := by rw [← hW]; clear hW; simp <;> omega
  have y0_2 : w2.cell? ⟨w1.heap.size, 0, none⟩ = some (.int .i64 0) := by rw [← hW]; clear hW; go_simp
  have y1_2 : w2.cell? ⟨w1.heap.size, 1, none⟩ = some (.int .i64 0) := by rw [← hW]; clear hW; go_simp
  have y2_2 : w2.cell? ⟨w1.heap.size, 2, none⟩ = some (.bool false) := by rw [← hW]; clear hW; go_simp
  have yz_2 : w1.heap.size < w2.heap.size := by rw [← hW]; clear hW; simp <;> omega
  have HB_2 := Lib.hid ((by rw [← hW]; clear hW; exact Below.alloc HB_1.out (by have := HB_1.out.size; omega) _) : Below w.heap.size w w2)
  clear hW HB_1 r0_1 rf0_1 r1_1 rf1_1 r2_1 rf2_1
  have nz_2 : w.heap.size ≤ w2.heap.size := HB_2.out.size
  go_wp2_with fail
  refine bodyPost_ret (v := .agg #[.int .i64 0, .int .i64 0, .int .i64 3]) (by simp [results, Tryz.results7, go_sem, r0_2, r1_2, r2_2]) rfl ⟨rfl, by repeat (first | with_reducible exact HB_2.out | with_reducible refine Below.drew ?_ | with_reducible refine Below.setCell ?_ (by first | omega | (simp; done) | (simp; omega)) _ | with_reducible refine Below.alloc ?_ (by first | omega | (simp; done) | (simp; omega)) _)⟩

set_option maxRecDepth 100000 in
set_option maxHeartbeats 4000000 in
theorem rw_z (m e n1 s k f g a b : Int) (w : World) (h0 : ¬ 0 ≤ n1) (hm : (m == 0) = true) :
    Calls Tryz.prog 7 #[realV m e, .int .i64 n1] w fun r w' => r = .returned (.agg #[.int .i64 0, .int .i64 0, .int .i64 5]) ∧ Below w.heap.size w w' := by
  go_enter Tryz.func7, Tryz.ntmps7
  go_wp2_with fail
  refine bodyPost_ret (v := .agg #[.int .i64 0, .int .i64 0, .int .i64 5]) (by simp [results, Tryz.results7, go_sem]) rfl ⟨rfl, by repeat (first | with_reducible exact Below.refl _ _ | with_reducible refine Below.drew ?_ | with_reducible refine Below.setCell ?_ (by first | omega | (simp; done) | (simp; omega)) _ | with_reducible refine Below.alloc ?_ (by first | omega | (simp; done) | (simp; omega)) _)⟩

set_option maxRecDepth 100000 in
set_option maxHeartbeats 4000000 in
theorem rw_dp (m e n1 s k f g a b : Int) (w : World) (h0 : ¬ 0 ≤ n1) (hm : (m == 0) = false) (hs : IntKind.i64.wrap (n1 + 1) = s) (hk : IntKind.i64.wrap (-s) = k) (HI : Hid (∀ W : World, Calls Tryz.prog 24 #[realV m e, .int .i64 k, .int .i64 1] W fun r w' => r = .returned (.agg #[.int .i64 0, .int .i64 0, .bool false]) ∧ Below W.heap.size W w')) :
    Calls Tryz.prog 7 #[realV m e, .int .i64 n1] w fun r w' => r = .returned (.agg #[.int .i64 0, .int .i64 0, .int .i64 3]) ∧ Below w.heap.size w w' := by
  go_enter Tryz.func7, Tryz.ntmps7
  go_wp2_with fail
  refine (HI.out _).mono ?_
  rintro e w1 ⟨rfl, hb1⟩
  have r0_1 : w1.cell? ⟨w.heap.size + 1, 0, none⟩ = some (.int .i64 0) := carry hb1 (by go_simp)
  have rf0_1 : w1.frozen? ⟨w.heap.size + 1, 0, none⟩ = false := carryF hb1 (v := .int .i64 0) (by go_simp) (by go_simp)
  have r1_1 : w1.cell? ⟨w.heap.size + 1, 1, none⟩ = some (.int .i64 0) := carry hb1 (by go_simp)
  have rf1_1 : w1.frozen? ⟨w.heap.size + 1, 1, none⟩ = false := carryF hb1 (v := .int .i64 0) (by go_simp) (by go_simp)
  have r2_1 : w1.cell? ⟨w.heap.size + 1, 2, none⟩ = some (.int .i64 0) := carry hb1 (by go_simp)
  have rf2_1 : w1.frozen? ⟨w.heap.size + 1, 2, none⟩ = false := carryF hb1 (v := .int .i64 0) (by go_simp) (by go_simp)
  have rz_1 : w.heap.size + 1 < w1.heap.size := by have := hb1.size; first | omega | (simp at this; omega)
  have HB_1 := Lib.hid ((by repeat (first | exact Below.refl _ _ | refine Below.drew ?_ | refine Below.setCell ?_ (by first | omega | (simp; done) | (simp; omega)) _ | refine Below.alloc ?_ (by first | omega | (simp; done) | (simp; omega)) _) : Below w.heap.size w _).trans (hb1.mono (by first | omega | (simp; done) | (simp; omega))))
  have nz_1 : w.heap.size ≤ w1.heap.size := HB_1.out.size
  clear hb1
  go_upto_region 9 with fail
  generalize hW : w1.alloc _ = w2
  have r0_2 : w2.cell? ⟨w.heap.size + 1, 0, none⟩ = some (.int .i64 0) := by rw [← hW]; clear hW; go_simp
  have rf0_2 : w2.frozen? ⟨w.heap.size + 1, 0, none⟩ = false := by rw [← hW]; clear hW; go_simp
  have r1_2 : w2.cell? ⟨w.heap.size + 1, 1, none⟩ = some (.int .i64 0) := by rw [← hW]; clear hW; go_simp
  have rf1_2 : w2.frozen? ⟨w.heap.size + 1, 1, none⟩ = false := by rw [← hW]; clear hW; go_simp
  have r2_2 : w2.cell? ⟨w.heap.size + 1, 2, none⟩ = some (.int .i64 0) := by rw [← hW]; clear hW; go_simp
  have rf2_2 : w2.frozen? ⟨w.heap.size + 1, 2, none⟩ = false := by rw [← hW]; clear hW; go_simp
  have rz_2 : w.heap.size + 1 < w2.heap.size := by rw [← hW]; clear hW; simp <;> omega
  have y0_2 : w2.cell? ⟨w1.heap.size, 0, none⟩ = some (.int .i64 0) := by rw [← hW]; clear hW; go_simp
  have y1_2 : w2.cell? ⟨w1.heap.size, 1, none⟩ = some (.int .i64 0) := by rw [← hW]; clear hW; go_simp
  have y2_2 : w2.cell? ⟨w1.heap.size, 2, none⟩ = some (.bool false) := by rw [← hW]; clear hW; go_simp
  have yz_2 : w1.heap.size < w2.heap.size := by rw [← hW]; clear hW; simp <;> omega
  have HB_2 := Lib.hid ((by rw [← hW]; clear hW; exact Below.alloc HB_1.out (by have := HB_1.out.size; omega) _) : Below w.heap.size w w2)
  clear hW HB_1 r0_1 rf0_1 r1_1 rf1_1 r2_1 rf2_1
  have nz_2 : w.heap.size ≤ w2.heap.size := HB_2.out.size
  go_wp2_with fail
  refine bodyPost_ret (v := .agg #[.int .i64 0, .int .i64 0, .int .i64 3]) (by simp [results, Tryz.results7, go_sem, r0_2, r1_2, r2_2]) rfl ⟨rfl, by repeat (first | with_reducible exact HB_2.out | with_reducible refine Below.drew ?_ | with_reducible refine Below.setCell ?_ (by first | omega | (simp; done) | (simp; omega)) _ | with_reducible refine Below.alloc ?_ (by first | omega | (simp; done) | (simp; omega)) _)⟩

set_option maxRecDepth 100000 in
set_option maxHeartbeats 4000000 in
theorem rw_dz (m e n1 s k f g a b : Int) (w : World) (h0 : ¬ 0 ≤ n1) (hm : (m == 0) = false) (hs : IntKind.i64.wrap (n1 + 1) = s) (hk : IntKind.i64.wrap (-s) = k) (HI : Hid (∀ W : World, Calls Tryz.prog 24 #[realV m e, .int .i64 k, .int .i64 1] W fun r w' => r = .returned (.agg #[.int .i64 f, .int .i64 g, .bool true]) ∧ Below W.heap.size W w')) (hf : (f == 0) = true) :
    Calls Tryz.prog 7 #[realV m e, .int .i64 n1] w fun r w' => r = .returned (.agg #[.int .i64 0, .int .i64 0, .int .i64 3]) ∧ Below w.heap.size w w' := by
  go_enter Tryz.func7, Tryz.ntmps7
  go_wp2_with fail
  refine (HI.out _).mono ?_
  rintro e w1 ⟨rfl, hb1⟩
  have r0_1 : w1.cell? ⟨w.heap.size + 1, 0, none⟩ = some (.int .i64 0) := carry hb1 (by go_simp)
  have rf0_1 : w1.frozen? ⟨w.heap.size + 1, 0, none⟩ = false := carryF hb1 (v := .int .i64 0) (by go_simp) (by go_simp)
  have r1_1 : w1.cell? ⟨w.heap.size + 1, 1, none⟩ = some (.int .i64 0) := carry hb1 (by go_simp)
  have rf1_1 : w1.frozen? ⟨w.heap.size + 1, 1, none⟩ = false := carryF hb1 (v := .int .i64 0) (by go_simp) (by go_simp)
  have r2_1 : w1.cell? ⟨w.heap.size + 1, 2, none⟩ = some (.int .i64 0) := carry hb1 (by go_simp)
  have rf2_1 : w1.frozen? ⟨w.heap.size + 1, 2, none⟩ = false := carryF hb1 (v := .int .i64 0) (by go_simp) (by go_simp)
  have rz_1 : w.heap.size + 1 < w1.heap.size := by have := hb1.size; first | omega | (simp at this; omega)
  have HB_1 := Lib.hid ((by repeat (first | exact Below.refl _ _ | refine Below.drew ?_ | refine Below.setCell ?_ (by first | omega | (simp; done) | (simp; omega)) _ | refine Below.alloc ?_ (by first | omega | (simp; done) | (simp; omega)) _) : Below w.heap.size w _).trans (hb1.mono (by first | omega | (simp; done) | (simp; omega))))
  have nz_1 : w.heap.size ≤ w1.heap.size := HB_1.out.size
  clear hb1
  go_upto_region 9 with fail
  generalize hW : w1.alloc _ = w2
  have r0_2 : w2.cell? ⟨w.heap.size + 1, 0, none⟩ = some (.int .i64 0) := by rw [← hW]; clear hW; go_simp
  have rf0_2 : w2.frozen? ⟨w.heap.size + 1, 0, none⟩ = false := by rw [← hW]; clear hW; go_simp
  have r1_2 : w2.cell? ⟨w.heap.size + 1, 1, none⟩ = some (.int .i64 0) := by rw [← hW]; clear hW; go_simp
  have rf1_2 : w2.frozen? ⟨w.heap.size + 1, 1, none⟩ = false := by rw [← hW]; clear hW; go_simp
  have r2_2 : w2.cell? ⟨w.heap.size + 1, 2, none⟩ = some (.int .i64 0) := by rw [← hW]; clear hW; go_simp
  have rf2_2 : w2.frozen? ⟨w.heap.size + 1, 2, none⟩ = false := by rw [← hW]; clear hW; go_simp
  have rz_2 : w.heap.size + 1 < w2.heap.size := by rw [← hW]; clear hW; simp <;> omega
  have y0_2 : w2.cell? ⟨w1.heap.size, 0, none⟩ = some (.int .i64 f) := by rw [← hW]; clear hW; go_simp
  have y1_2 : w2.cell? ⟨w1.heap.size, 1, none⟩ = some (.int .i64 g) := by rw [← hW]; clear hW; go_simp
  have y2_2 : w2.cell? ⟨w1.heap.size, 2, none⟩ = some (.bool true) := by rw [← hW]; clear hW; go_simp
  have yz_2 : w1.heap.size < w2.heap.size := by rw [← hW]; clear hW; simp <;> omega
  have HB_2 := Lib.hid ((by rw [← hW]; clear hW; exact Below.alloc HB_1.out (by have := HB_1.out.size; omega) _) : Below w.heap.size w w2)
  clear hW HB_1 r0_1 rf0_1 r1_1 rf1_1 r2_1 rf2_1
  have nz_2 : w.heap.size ≤ w2.heap.size := HB_2.out.size
  go_wp2_with fail
  refine bodyPost_ret (v := .agg #[.int .i64 0, .int .i64 0, .int .i64 3]) (by simp [results, Tryz.results7, go_sem, r0_2, r1_2, r2_2]) rfl ⟨rfl, by repeat (first | with_reducible exact HB_2.out | with_reducible refine Below.drew ?_ | with_reducible refine Below.setCell ?_ (by first | omega | (simp; done) | (simp; omega)) _ | with_reducible refine Below.alloc ?_ (by first | omega | (simp; done) | (simp; omega)) _)⟩

theorem carry3 {wa wq : World} {T : TypeId} (h : Below (wa.alloc (.cells #[.int .i64 0, .int .i64 0, .bool false] T)).drew.heap.size (wa.alloc (.cells #[.int .i64 0, .int .i64 0, .bool false] T)).drew wq) :
    (wq.cell? ⟨wa.heap.size, 0, none⟩ = some (.int .i64 0) ∧ wq.cell? ⟨wa.heap.size, 1, none⟩ = some (.int .i64 0) ∧ wq.cell? ⟨wa.heap.size, 2, none⟩ = some (.bool false)) ∧ (wq.frozen? ⟨wa.heap.size, 0, none⟩ = false ∧ wq.frozen? ⟨wa.heap.size, 1, none⟩ = false ∧ wq.frozen? ⟨wa.heap.size, 2, none⟩ = false) ∧ wa.heap.size < wq.heap.size :=
  ⟨⟨carry h (by go_simp), carry h (by go_simp), carry h (by go_simp)⟩, ⟨carryF h (v := .int .i64 0) (by go_simp) (by go_simp), carryF h (v := .int .i64 0) (by go_simp) (by go_simp), carryF h (v := .bool false) (by go_simp) (by go_simp)⟩, by have := h.size; simp at this; omega⟩

theorem carry3' {wa wq : World} {T : TypeId} (h : Below (wa.alloc (.cells #[.int .i64 0, .int .i64 0, .bool false] T)).heap.size (wa.alloc (.cells #[.int .i64 0, .int .i64 0, .bool false] T)) wq) :
    (wq.cell? ⟨wa.heap.size, 0, none⟩ = some (.int .i64 0) ∧ wq.cell? ⟨wa.heap.size, 1, none⟩ = some (.int .i64 0) ∧ wq.cell? ⟨wa.heap.size, 2, none⟩ = some (.bool false)) ∧ (wq.frozen? ⟨wa.heap.size, 0, none⟩ = false ∧ wq.frozen? ⟨wa.heap.size, 1, none⟩ = false ∧ wq.frozen? ⟨wa.heap.size, 2, none⟩ = false) ∧ wa.heap.size < wq.heap.size :=
  ⟨⟨carry h (by go_simp), carry h (by go_simp), carry h (by go_simp)⟩, ⟨carryF h (v := .int .i64 0) (by go_simp) (by go_simp), carryF h (v := .int .i64 0) (by go_simp) (by go_simp), carryF h (v := .bool false) (by go_simp) (by go_simp)⟩, by have := h.size; simp at this; omega⟩

set_option maxRecDepth 100000 in
set_option maxHeartbeats 4000000 in
theorem rw_dk (m e n1 s k f g a b : Int) (w : World) (h0 : ¬ 0 ≤ n1) (hm : (m == 0) = false) (hs : IntKind.i64.wrap (n1 + 1) = s) (hk : IntKind.i64.wrap (-s) = k) (HI : Hid (∀ W : World, Calls Tryz.prog 24 #[realV m e, .int .i64 k, .int .i64 1] W fun r w' => r = .returned (.agg #[.int .i64 f, .int .i64 g, .bool true]) ∧ Below W.heap.size W w')) (hf : (f == 0) = false) (HO : Hid (∀ W : World, Calls Tryz.prog 26 #[] W fun r w' => r = .returned (realV 8388608 (-23)) ∧ Below W.heap.size W w')) (HDv : Hid (∀ W : World, Calls Tryz.prog 25 #[realV 8388608 (-23), realV f g] W fun r w' => r = .returned (.agg #[.int .i64 a, .int .i64 b, .bool true]) ∧ Below W.heap.size W w')) :
    Calls Tryz.prog 7 #[realV m e, .int .i64 n1] w fun r w' => r = .returned (.agg #[.int .i64 a, .int .i64 b, .int .i64 0]) ∧ Below w.heap.size w w' := by
  go_enter Tryz.func7, Tryz.ntmps7
  go_wp2_with fail
  refine (HI.out _).mono ?_
  rintro e w1 ⟨rfl, hb1⟩
  have r0_1 : w1.cell? ⟨w.heap.size + 1, 0, none⟩ = some (.int .i64 0) := carry hb1 (by go_simp)
  have rf0_1 : w1.frozen? ⟨w.heap.size + 1, 0, none⟩ = false := carryF hb1 (v := .int .i64 0) (by go_simp) (by go_simp)
  have r1_1 : w1.cell? ⟨w.heap.size + 1, 1, none⟩ = some (.int .i64 0) := carry hb1 (by go_simp)
  have rf1_1 : w1.frozen? ⟨w.heap.size + 1, 1, none⟩ = false := carryF hb1 (v := .int .i64 0) (by go_simp) (by go_simp)
  have r2_1 : w1.cell? ⟨w.heap.size + 1, 2, none⟩ = some (.int .i64 0) := carry hb1 (by go_simp)
  have rf2_1 : w1.frozen? ⟨w.heap.size + 1, 2, none⟩ = false := carryF hb1 (v := .int .i64 0) (by go_simp) (by go_simp)
  have rz_1 : w.heap.size + 1 < w1.heap.size := by have := hb1.size; first | omega | (simp at this; omega)
  have HB_1 := Lib.hid ((by repeat (first | exact Below.refl _ _ | refine Below.drew ?_ | refine Below.setCell ?_ (by first | omega | (simp; done) | (simp; omega)) _ | refine Below.alloc ?_ (by first | omega | (simp; done) | (simp; omega)) _) : Below w.heap.size w _).trans (hb1.mono (by first | omega | (simp; done) | (simp; omega))))
  have nz_1 : w.heap.size ≤ w1.heap.size := HB_1.out.size
  clear hb1
  go_upto_region 9 with fail
  generalize hW : w1.alloc _ = w2
  have r0_2 : w2.cell? ⟨w.heap.size + 1, 0, none⟩ = some (.int .i64 0) := by rw [← hW]; clear hW; go_simp
  have rf0_2 : w2.frozen? ⟨w.heap.size + 1, 0, none⟩ = false := by rw [← hW]; clear hW; go_simp
  have r1_2 : w2.cell? ⟨w.heap.size + 1, 1, none⟩ = some (.int .i64 0) := by rw [← hW]; clear hW; go_simp
  have rf1_2 : w2.frozen? ⟨w.heap.size + 1, 1, none⟩ = false := by rw [← hW]; clear hW; go_simp
  have r2_2 : w2.cell? ⟨w.heap.size + 1, 2, none⟩ = some (.int .i64 0) := by rw [← hW]; clear hW; go_simp
  have rf2_2 : w2.frozen? ⟨w.heap.size + 1, 2, none⟩ = false := by rw [← hW]; clear hW; go_simp
  have rz_2 : w.heap.size + 1 < w2.heap.size := by rw [← hW]; clear hW; simp <;> omega
  have y0_2 : w2.cell? ⟨w1.heap.size, 0, none⟩ = some (.int .i64 f) := by rw [← hW]; clear hW; go_simp
  have y1_2 : w2.cell? ⟨w1.heap.size, 1, none⟩ = some (.int .i64 g) := by rw [← hW]; clear hW; go_simp
  have y2_2 : w2.cell? ⟨w1.heap.size, 2, none⟩ = some (.bool true) := by rw [← hW]; clear hW; go_simp
  have yz_2 : w1.heap.size < w2.heap.size := by rw [← hW]; clear hW; simp <;> omega
  have HB_2 := Lib.hid ((by rw [← hW]; clear hW; exact Below.alloc HB_1.out (by have := HB_1.out.size; omega) _) : Below w.heap.size w w2)
  clear hW HB_1 r0_1 rf0_1 r1_1 rf1_1 r2_1 rf2_1
  have nz_2 : w.heap.size ≤ w2.heap.size := HB_2.out.size
  have K0 := Lib.hid (Below.refl w2.heap.size w2)
  have SK := Lib.hid (show ∀ wx, Below w2.heap.size w2 wx → wx.cell? ⟨w1.heap.size, 0, none⟩ = some (.int .i64 f) ∧ wx.cell? ⟨w1.heap.size, 1, none⟩ = some (.int .i64 g) ∧ w1.heap.size < wx.heap.size ∧ w2.heap.size ≤ wx.heap.size ∧ Below w2.heap.size w2 wx from fun wx h => ⟨carry h y0_2, carry h y1_2, Nat.lt_of_lt_of_le yz_2 h.size, h.size, h⟩)
  have RB := Lib.hid (show ∀ wx, Below w2.heap.size w2 wx → wx.cell? ⟨w.heap.size + 1, 0, none⟩ = some (.int .i64 0) ∧ wx.cell? ⟨w.heap.size + 1, 1, none⟩ = some (.int .i64 0) ∧ wx.cell? ⟨w.heap.size + 1, 2, none⟩ = some (.int .i64 0) ∧ wx.frozen? ⟨w.heap.size + 1, 0, none⟩ = false ∧ wx.frozen? ⟨w.heap.size + 1, 1, none⟩ = false ∧ wx.frozen? ⟨w.heap.size + 1, 2, none⟩ = false ∧ w.heap.size + 1 < wx.heap.size from fun wx h => ⟨carry h r0_2, carry h r1_2, carry h r2_2, carryF h r0_2 rf0_2, carryF h r1_2 rf1_2, carryF h r2_2 rf2_2, Nat.lt_of_lt_of_le rz_2 h.size⟩)
  go_wp2_with fail
  go_region_held3 (fun wx => wx.cell? ⟨w1.heap.size, 0, none⟩ = some (.int .i64 f) ∧ wx.cell? ⟨w1.heap.size, 1, none⟩ = some (.int .i64 g) ∧ w1.heap.size < wx.heap.size ∧ w2.heap.size ≤ wx.heap.size ∧ Below w2.heap.size w2 wx) (((try go_split_ands); exact SK.out _ (by repeat (first | with_reducible assumption | with_reducible exact K0.out | with_reducible refine Below.drew ?_ | with_reducible refine Below.setCell ?_ (by first | with_reducible exact Nat.le_refl _ | with_reducible assumption | (simp; done) | (simp <;> omega) | (have := hbq.size; simp at this ⊢; omega)) _ | with_reducible refine Below.alloc ?_ (by first | with_reducible exact Nat.le_refl _ | with_reducible assumption | (simp; done) | (simp <;> omega) | (have := hbq.size; simp at this ⊢; omega)) _))))
  (first
      | (go_at_call 26; ((with_reducible refine (HO.out _).mono ?_); rintro r wF ⟨rfl, hbq⟩; have hbw : Below w2.heap.size w2 wF := (by first | exact K0.out.drew.trans hbq | exact K0.out.trans hbq | exact (K0.out.alloc (Nat.le_refl _) _).drew.trans (hbq.mono (by simp)) | exact (K0.out.drew.alloc (Nat.le_refl _) _).trans (hbq.mono (by simp)) | exact (K0.out.alloc (Nat.le_refl _) _).trans (hbq.mono (by simp))); have hzw : w2.heap.size ≤ wF.heap.size := hbw.size; (try (have qq := carry3 hbq; obtain ⟨⟨q0, q1, q2⟩, ⟨t0, t1, t2⟩, tz⟩ := qq)); (try (have qq := carry3' hbq; obtain ⟨⟨q0, q1, q2⟩, ⟨t0, t1, t2⟩, tz⟩ := qq))))
      | (go_at_call 25; ((with_reducible refine (HDv.out _).mono ?_); rintro r wS ⟨rfl, hbq⟩; have qq := carry3' hbq; obtain ⟨⟨q0, q1, q2⟩, ⟨t0, t1, t2⟩, tz⟩ := qq; have hbv : Below w2.heap.size w2 wS := (hbw.alloc hzw _).trans (hbq.mono (by simp <;> omega)); have hzv : w2.heap.size ≤ wS.heap.size := hbv.size))
      | (go_at_call 25; ((with_reducible refine (HDv.out _).mono ?_); rintro r wS ⟨rfl, hbq⟩; have p0 := carry hbq q0; have p1 := carry hbq q1; have p2 := carry hbq q2; have s0 := carryF hbq q0 t0; have s1 := carryF hbq q1 t1; have s2 := carryF hbq q2 t2; have sz := Nat.lt_of_lt_of_le tz hbq.size; have hbv : Below w2.heap.size w2 wS := hbw.trans (hbq.mono hzw); have hzv : w2.heap.size ≤ wS.heap.size := hbv.size))
      | (go_at_call 25; ((with_reducible refine (HDv.out _).mono ?_); rintro r wS ⟨rfl, hbq⟩; have hbv : Below w2.heap.size w2 wS := hbw.trans (hbq.mono hzw); have hzv : w2.heap.size ≤ wS.heap.size := hbv.size)))
  · obtain ⟨a0, a1, a2, b0, b1, b2, az⟩ := RB.out _ hbv
    have HBS := Lib.hid (HB_2.out.trans (hbv.mono nz_2))
    have hn : w.heap.size + 1 ≠ wS.heap.size := by omega
    go_upto_region 12 with fail
    generalize hW : wS.alloc _ = wz
    have z0 : wz.cell? ⟨wS.heap.size, 0, none⟩ = some (.int .i64 a) := by rw [← hW]; clear hW; go_simp
    have z1 : wz.cell? ⟨wS.heap.size, 1, none⟩ = some (.int .i64 b) := by rw [← hW]; clear hW; go_simp
    have z2 : wz.cell? ⟨wS.heap.size, 2, none⟩ = some (.bool true) := by rw [← hW]; clear hW; go_simp
    have zz : wS.heap.size < wz.heap.size := by rw [← hW]; clear hW; simp <;> omega
    have r0_9 : wz.cell? ⟨w.heap.size + 1, 0, none⟩ = some (.int .i64 0) := by rw [← hW]; clear hW; go_simp
    have rf0_9 : wz.frozen? ⟨w.heap.size + 1, 0, none⟩ = false := by rw [← hW]; clear hW; go_simp
    have r1_9 : wz.cell? ⟨w.heap.size + 1, 1, none⟩ = some (.int .i64 0) := by rw [← hW]; clear hW; go_simp
    have rf1_9 : wz.frozen? ⟨w.heap.size + 1, 1, none⟩ = false := by rw [← hW]; clear hW; go_simp
    have r2_9 : wz.cell? ⟨w.heap.size + 1, 2, none⟩ = some (.int .i64 0) := by rw [← hW]; clear hW; go_simp
    have rf2_9 : wz.frozen? ⟨w.heap.size + 1, 2, none⟩ = false := by rw [← hW]; clear hW; go_simp
    have rz_9 : w.heap.size + 1 < wz.heap.size := by rw [← hW]; clear hW; simp <;> omega
    have HBZ := Lib.hid (show Below w.heap.size w wz by rw [← hW]; clear hW; have hs := HBS.out.size; repeat (first | exact HBS.out | refine Below.drew ?_ | refine Below.setCell ?_ (by first | omega | (simp; done) | (simp; omega)) _ | refine Below.alloc ?_ (by first | omega | (simp; done) | (simp; omega)) _))
    clear hW
    go_wp2_with fail
    refine bodyPost_ret (v := .agg #[.int .i64 a, .int .i64 b, .int .i64 0]) (by simp [results, Tryz.results7, go_sem, r0_9, r1_9, r2_9]) rfl ⟨rfl, by repeat (first | with_reducible exact HBZ.out | with_reducible refine Below.drew ?_ | with_reducible refine Below.setCell ?_ (by first | omega | (simp; done) | (simp; omega)) _ | with_reducible refine Below.alloc ?_ (by first | omega | (simp; done) | (simp; omega)) _)⟩
  · obtain ⟨a0, a1, a2, b0, b1, b2, az⟩ := RB.out _ hbv
    have HBS := Lib.hid (HB_2.out.trans (hbv.mono nz_2))
    have hn : w.heap.size + 1 ≠ wF.heap.size := by have := hbw.size; have := rz_2; omega
    go_upto_region 12 with fail
    generalize hW : ((wS.setCell _ _).setCell _ _).setCell _ _ = wz
    have z0 : wz.cell? ⟨wF.heap.size, 0, none⟩ = some (.int .i64 a) := by rw [← hW]; clear hW; go_simp
    have z1 : wz.cell? ⟨wF.heap.size, 1, none⟩ = some (.int .i64 b) := by rw [← hW]; clear hW; go_simp
    have z2 : wz.cell? ⟨wF.heap.size, 2, none⟩ = some (.bool true) := by rw [← hW]; clear hW; go_simp
    have zz : wF.heap.size < wz.heap.size := by rw [← hW]; clear hW; simp <;> omega
    have r0_9 : wz.cell? ⟨w.heap.size + 1, 0, none⟩ = some (.int .i64 0) := by rw [← hW]; clear hW; go_simp
    have rf0_9 : wz.frozen? ⟨w.heap.size + 1, 0, none⟩ = false := by rw [← hW]; clear hW; go_simp
    have r1_9 : wz.cell? ⟨w.heap.size + 1, 1, none⟩ = some (.int .i64 0) := by rw [← hW]; clear hW; go_simp
    have rf1_9 : wz.frozen? ⟨w.heap.size + 1, 1, none⟩ = false := by rw [← hW]; clear hW; go_simp
    have r2_9 : wz.cell? ⟨w.heap.size + 1, 2, none⟩ = some (.int .i64 0) := by rw [← hW]; clear hW; go_simp
    have rf2_9 : wz.frozen? ⟨w.heap.size + 1, 2, none⟩ = false := by rw [← hW]; clear hW; go_simp
    have rz_9 : w.heap.size + 1 < wz.heap.size := by rw [← hW]; clear hW; simp <;> omega
    have HBZ := Lib.hid (show Below w.heap.size w wz by rw [← hW]; clear hW; have hs := HBS.out.size; repeat (first | exact HBS.out | refine Below.drew ?_ | refine Below.setCell ?_ (by first | omega | (simp; done) | (simp; omega)) _ | refine Below.alloc ?_ (by first | omega | (simp; done) | (simp; omega)) _))
    clear hW
    go_wp2_with fail
    refine bodyPost_ret (v := .agg #[.int .i64 a, .int .i64 b, .int .i64 0]) (by simp [results, Tryz.results7, go_sem, r0_9, r1_9, r2_9]) rfl ⟨rfl, by repeat (first | with_reducible exact HBZ.out | with_reducible refine Below.drew ?_ | with_reducible refine Below.setCell ?_ (by first | omega | (simp; done) | (simp; omega)) _ | with_reducible refine Below.alloc ?_ (by first | omega | (simp; done) | (simp; omega)) _)⟩
  · obtain ⟨a0, a1, a2, b0, b1, b2, az⟩ := RB.out _ hbv
    have HBS := Lib.hid (HB_2.out.trans (hbv.mono nz_2))
    have hn : w.heap.size + 1 ≠ w2.heap.size := by omega
    go_upto_region 12 with fail
    generalize hW : ((wS.setCell _ _).setCell _ _).setCell _ _ = wz
    have z0 : wz.cell? ⟨w2.heap.size, 0, none⟩ = some (.int .i64 a) := by rw [← hW]; clear hW; go_simp
    have z1 : wz.cell? ⟨w2.heap.size, 1, none⟩ = some (.int .i64 b) := by rw [← hW]; clear hW; go_simp
    have z2 : wz.cell? ⟨w2.heap.size, 2, none⟩ = some (.bool true) := by rw [← hW]; clear hW; go_simp
    have zz : w2.heap.size < wz.heap.size := by rw [← hW]; clear hW; simp <;> omega
    have r0_9 : wz.cell? ⟨w.heap.size + 1, 0, none⟩ = some (.int .i64 0) := by rw [← hW]; clear hW; go_simp
    have rf0_9 : wz.frozen? ⟨w.heap.size + 1, 0, none⟩ = false := by rw [← hW]; clear hW; go_simp
    have r1_9 : wz.cell? ⟨w.heap.size + 1, 1, none⟩ = some (.int .i64 0) := by rw [← hW]; clear hW; go_simp
    have rf1_9 : wz.frozen? ⟨w.heap.size + 1, 1, none⟩ = false := by rw [← hW]; clear hW; go_simp
    have r2_9 : wz.cell? ⟨w.heap.size + 1, 2, none⟩ = some (.int .i64 0) := by rw [← hW]; clear hW; go_simp
    have rf2_9 : wz.frozen? ⟨w.heap.size + 1, 2, none⟩ = false := by rw [← hW]; clear hW; go_simp
    have rz_9 : w.heap.size + 1 < wz.heap.size := by rw [← hW]; clear hW; simp <;> omega
    have HBZ := Lib.hid (show Below w.heap.size w wz by rw [← hW]; clear hW; have hs := HBS.out.size; repeat (first | exact HBS.out | refine Below.drew ?_ | refine Below.setCell ?_ (by first | omega | (simp; done) | (simp; omega)) _ | refine Below.alloc ?_ (by first | omega | (simp; done) | (simp; omega)) _))
    clear hW
    go_wp2_with fail
    refine bodyPost_ret (v := .agg #[.int .i64 a, .int .i64 b, .int .i64 0]) (by simp [results, Tryz.results7, go_sem, r0_9, r1_9, r2_9]) rfl ⟨rfl, by repeat (first | with_reducible exact HBZ.out | with_reducible refine Below.drew ?_ | with_reducible refine Below.setCell ?_ (by first | omega | (simp; done) | (simp; omega)) _ | with_reducible refine Below.alloc ?_ (by first | omega | (simp; done) | (simp; omega)) _)⟩

set_option maxRecDepth 100000 in
set_option maxHeartbeats 4000000 in
theorem rw_dq (m e n1 s k f g a b : Int) (w : World) (h0 : ¬ 0 ≤ n1) (hm : (m == 0) = false) (hs : IntKind.i64.wrap (n1 + 1) = s) (hk : IntKind.i64.wrap (-s) = k) (HI : Hid (∀ W : World, Calls Tryz.prog 24 #[realV m e, .int .i64 k, .int .i64 1] W fun r w' => r = .returned (.agg #[.int .i64 f, .int .i64 g, .bool true]) ∧ Below W.heap.size W w')) (hf : (f == 0) = false) (HO : Hid (∀ W : World, Calls Tryz.prog 26 #[] W fun r w' => r = .returned (realV 8388608 (-23)) ∧ Below W.heap.size W w')) (HDv : Hid (∀ W : World, Calls Tryz.prog 25 #[realV 8388608 (-23), realV f g] W fun r w' => r = .returned (.agg #[.int .i64 0, .int .i64 0, .bool false]) ∧ Below W.heap.size W w')) :
    Calls Tryz.prog 7 #[realV m e, .int .i64 n1] w fun r w' => r = .returned (.agg #[.int .i64 0, .int .i64 0, .int .i64 3]) ∧ Below w.heap.size w w' := by
  go_enter Tryz.func7, Tryz.ntmps7
  go_wp2_with fail
  refine (HI.out _).mono ?_
  rintro e w1 ⟨rfl, hb1⟩
  have r0_1 : w1.cell? ⟨w.heap.size + 1, 0, none⟩ = some (.int .i64 0) := carry hb1 (by go_simp)
  have rf0_1 : w1.frozen? ⟨w.heap.size + 1, 0, none⟩ = false := carryF hb1 (v := .int .i64 0) (by go_simp) (by go_simp)
  have r1_1 : w1.cell? ⟨w.heap.size + 1, 1, none⟩ = some (.int .i64 0) := carry hb1 (by go_simp)
  have rf1_1 : w1.frozen? ⟨w.heap.size + 1, 1, none⟩ = false := carryF hb1 (v := .int .i64 0) (by go_simp) (by go_simp)
  have r2_1 : w1.cell? ⟨w.heap.size + 1, 2, none⟩ = some (.int .i64 0) := carry hb1 (by go_simp)
  have rf2_1 : w1.frozen? ⟨w.heap.size + 1, 2, none⟩ = false := carryF hb1 (v := .int .i64 0) (by go_simp) (by go_simp)
  have rz_1 : w.heap.size + 1 < w1.heap.size := by have := hb1.size; first | omega | (simp at this; omega)
  have HB_1 := Lib.hid ((by repeat (first | exact Below.refl _ _ | refine Below.drew ?_ | refine Below.setCell ?_ (by first | omega | (simp; done) | (simp; omega)) _ | refine Below.alloc ?_ (by first | omega | (simp; done) | (simp; omega)) _) : Below w.heap.size w _).trans (hb1.mono (by first | omega | (simp; done) | (simp; omega))))
  have nz_1 : w.heap.size ≤ w1.heap.size := HB_1.out.size
  clear hb1
  go_upto_region 9 with fail
  generalize hW : w1.alloc _ = w2
  have r0_2 : w2.cell? ⟨w.heap.size + 1, 0, none⟩ = some (.int .i64 0) := by rw [← hW]; clear hW; go_simp
  have rf0_2 : w2.frozen? ⟨w.heap.size + 1, 0, none⟩ = false := by rw [← hW]; clear hW; go_simp
  have r1_2 : w2.cell? ⟨w.heap.size + 1, 1, none⟩ = some (.int .i64 0) := by rw [← hW]; clear hW; go_simp
  have rf1_2 : w2.frozen? ⟨w.heap.size + 1, 1, none⟩ = false := by rw [← hW]; clear hW; go_simp
  have r2_2 : w2.cell? ⟨w.heap.size + 1, 2, none⟩ = some (.int .i64 0) := by rw [← hW]; clear hW; go_simp
  have rf2_2 : w2.frozen? ⟨w.heap.size + 1, 2, none⟩ = false := by rw [← hW]; clear hW; go_simp
  have rz_2 : w.heap.size + 1 < w2.heap.size := by rw [← hW]; clear hW; simp <;> omega
  have y0_2 : w2.cell? ⟨w1.heap.size, 0, none⟩ = some (.int .i64 f) := by rw [← hW]; clear hW; go_simp
  have y1_2 : w2.cell? ⟨w1.heap.size, 1, none⟩ = some (.int .i64 g) := by rw [← hW]; clear hW; go_simp
  have y2_2 : w2.cell? ⟨w1.heap.size, 2, none⟩ = some (.bool true) := by rw [← hW]; clear hW; go_simp
  have yz_2 : w1.heap.size < w2.heap.size := by rw [← hW]; clear hW; simp <;> omega
  have HB_2 := Lib.hid ((by rw [← hW]; clear hW; exact Below.alloc HB_1.out (by have := HB_1.out.size; omega) _) : Below w.heap.size w w2)
  clear hW HB_1 r0_1 rf0_1 r1_1 rf1_1 r2_1 rf2_1
  have nz_2 : w.heap.size ≤ w2.heap.size := HB_2.out.size
  have K0 := Lib.hid (Below.refl w2.heap.size w2)
  have SK := Lib.hid (show ∀ wx, Below w2.heap.size w2 wx → wx.cell? ⟨w1.heap.size, 0, none⟩ = some (.int .i64 f) ∧ wx.cell? ⟨w1.heap.size, 1, none⟩ = some (.int .i64 g) ∧ w1.heap.size < wx.heap.size ∧ w2.heap.size ≤ wx.heap.size ∧ Below w2.heap.size w2 wx from fun wx h => ⟨carry h y0_2, carry h y1_2, Nat.lt_of_lt_of_le yz_2 h.size, h.size, h⟩)
  have RB := Lib.hid (show ∀ wx, Below w2.heap.size w2 wx → wx.cell? ⟨w.heap.size + 1, 0, none⟩ = some (.int .i64 0) ∧ wx.cell? ⟨w.heap.size + 1, 1, none⟩ = some (.int .i64 0) ∧ wx.cell? ⟨w.heap.size + 1, 2, none⟩ = some (.int .i64 0) ∧ wx.frozen? ⟨w.heap.size + 1, 0, none⟩ = false ∧ wx.frozen? ⟨w.heap.size + 1, 1, none⟩ = false ∧ wx.frozen? ⟨w.heap.size + 1, 2, none⟩ = false ∧ w.heap.size + 1 < wx.heap.size from fun wx h => ⟨carry h r0_2, carry h r1_2, carry h r2_2, carryF h r0_2 rf0_2, carryF h r1_2 rf1_2, carryF h r2_2 rf2_2, Nat.lt_of_lt_of_le rz_2 h.size⟩)
  go_wp2_with fail
  go_region_held3 (fun wx => wx.cell? ⟨w1.heap.size, 0, none⟩ = some (.int .i64 f) ∧ wx.cell? ⟨w1.heap.size, 1, none⟩ = some (.int .i64 g) ∧ w1.heap.size < wx.heap.size ∧ w2.heap.size ≤ wx.heap.size ∧ Below w2.heap.size w2 wx) (((try go_split_ands); exact SK.out _ (by repeat (first | with_reducible assumption | with_reducible exact K0.out | with_reducible refine Below.drew ?_ | with_reducible refine Below.setCell ?_ (by first | with_reducible exact Nat.le_refl _ | with_reducible assumption | (simp; done) | (simp <;> omega) | (have := hbq.size; simp at this ⊢; omega)) _ | with_reducible refine Below.alloc ?_ (by first | with_reducible exact Nat.le_refl _ | with_reducible assumption | (simp; done) | (simp <;> omega) | (have := hbq.size; simp at this ⊢; omega)) _))))
  (first
      | (go_at_call 26; ((with_reducible refine (HO.out _).mono ?_); rintro r wF ⟨rfl, hbq⟩; have hbw : Below w2.heap.size w2 wF := (by first | exact K0.out.drew.trans hbq | exact K0.out.trans hbq | exact (K0.out.alloc (Nat.le_refl _) _).drew.trans (hbq.mono (by simp)) | exact (K0.out.drew.alloc (Nat.le_refl _) _).trans (hbq.mono (by simp)) | exact (K0.out.alloc (Nat.le_refl _) _).trans (hbq.mono (by simp))); have hzw : w2.heap.size ≤ wF.heap.size := hbw.size; (try (have qq := carry3 hbq; obtain ⟨⟨q0, q1, q2⟩, ⟨t0, t1, t2⟩, tz⟩ := qq)); (try (have qq := carry3' hbq; obtain ⟨⟨q0, q1, q2⟩, ⟨t0, t1, t2⟩, tz⟩ := qq))))
      | (go_at_call 25; ((with_reducible refine (HDv.out _).mono ?_); rintro r wS ⟨rfl, hbq⟩; have qq := carry3' hbq; obtain ⟨⟨q0, q1, q2⟩, ⟨t0, t1, t2⟩, tz⟩ := qq; have hbv : Below w2.heap.size w2 wS := (hbw.alloc hzw _).trans (hbq.mono (by simp <;> omega)); have hzv : w2.heap.size ≤ wS.heap.size := hbv.size))
      | (go_at_call 25; ((with_reducible refine (HDv.out _).mono ?_); rintro r wS ⟨rfl, hbq⟩; have p0 := carry hbq q0; have p1 := carry hbq q1; have p2 := carry hbq q2; have s0 := carryF hbq q0 t0; have s1 := carryF hbq q1 t1; have s2 := carryF hbq q2 t2; have sz := Nat.lt_of_lt_of_le tz hbq.size; have hbv : Below w2.heap.size w2 wS := hbw.trans (hbq.mono hzw); have hzv : w2.heap.size ≤ wS.heap.size := hbv.size))
      | (go_at_call 25; ((with_reducible refine (HDv.out _).mono ?_); rintro r wS ⟨rfl, hbq⟩; have hbv : Below w2.heap.size w2 wS := hbw.trans (hbq.mono hzw); have hzv : w2.heap.size ≤ wS.heap.size := hbv.size)))
  · obtain ⟨a0, a1, a2, b0, b1, b2, az⟩ := RB.out _ hbv
    have HBS := Lib.hid (HB_2.out.trans (hbv.mono nz_2))
    have hn : w.heap.size + 1 ≠ wS.heap.size := by omega
    go_upto_region 12 with fail
    generalize hW : wS.alloc _ = wz
    have z0 : wz.cell? ⟨wS.heap.size, 0, none⟩ = some (.int .i64 0) := by rw [← hW]; clear hW; go_simp
    have z1 : wz.cell? ⟨wS.heap.size, 1, none⟩ = some (.int .i64 0) := by rw [← hW]; clear hW; go_simp
    have z2 : wz.cell? ⟨wS.heap.size, 2, none⟩ = some (.bool false) := by rw [← hW]; clear hW; go_simp
    have zz : wS.heap.size < wz.heap.size := by rw [← hW]; clear hW; simp <;> omega
    have r0_9 : wz.cell? ⟨w.heap.size + 1, 0, none⟩ = some (.int .i64 0) := by rw [← hW]; clear hW; go_simp
    have rf0_9 : wz.frozen? ⟨w.heap.size + 1, 0, none⟩ = false := by rw [← hW]; clear hW; go_simp
    have r1_9 : wz.cell? ⟨w.heap.size + 1, 1, none⟩ = some (.int .i64 0) := by rw [← hW]; clear hW; go_simp
    have rf1_9 : wz.frozen? ⟨w.heap.size + 1, 1, none⟩ = false := by rw [← hW]; clear hW; go_simp
    have r2_9 : wz.cell? ⟨w.heap.size + 1, 2, none⟩ = some (.int .i64 0) := by rw [← hW]; clear hW; go_simp
    have rf2_9 : wz.frozen? ⟨w.heap.size + 1, 2, none⟩ = false := by rw [← hW]; clear hW; go_simp
    have rz_9 : w.heap.size + 1 < wz.heap.size := by rw [← hW]; clear hW; simp <;> omega
    have HBZ := Lib.hid (show Below w.heap.size w wz by rw [← hW]; clear hW; have hs := HBS.out.size; repeat (first | exact HBS.out | refine Below.drew ?_ | refine Below.setCell ?_ (by first | omega | (simp; done) | (simp; omega)) _ | refine Below.alloc ?_ (by first | omega | (simp; done) | (simp; omega)) _))
    clear hW
    go_wp2_with fail
    refine bodyPost_ret (v := .agg #[.int .i64 0, .int .i64 0, .int .i64 3]) (by simp [results, Tryz.results7, go_sem, r0_9, r1_9, r2_9]) rfl ⟨rfl, by repeat (first | with_reducible exact HBZ.out | with_reducible refine Below.drew ?_ | with_reducible refine Below.setCell ?_ (by first | omega | (simp; done) | (simp; omega)) _ | with_reducible refine Below.alloc ?_ (by first | omega | (simp; done) | (simp; omega)) _)⟩
  · obtain ⟨a0, a1, a2, b0, b1, b2, az⟩ := RB.out _ hbv
    have HBS := Lib.hid (HB_2.out.trans (hbv.mono nz_2))
    have hn : w.heap.size + 1 ≠ wF.heap.size := by have := hbw.size; have := rz_2; omega
    go_upto_region 12 with fail
    generalize hW : ((wS.setCell _ _).setCell _ _).setCell _ _ = wz
    have z0 : wz.cell? ⟨wF.heap.size, 0, none⟩ = some (.int .i64 0) := by rw [← hW]; clear hW; go_simp
    have z1 : wz.cell? ⟨wF.heap.size, 1, none⟩ = some (.int .i64 0) := by rw [← hW]; clear hW; go_simp
    have z2 : wz.cell? ⟨wF.heap.size, 2, none⟩ = some (.bool false) := by rw [← hW]; clear hW; go_simp
    have zz : wF.heap.size < wz.heap.size := by rw [← hW]; clear hW; simp <;> omega
    have r0_9 : wz.cell? ⟨w.heap.size + 1, 0, none⟩ = some (.int .i64 0) := by rw [← hW]; clear hW; go_simp
    have rf0_9 : wz.frozen? ⟨w.heap.size + 1, 0, none⟩ = false := by rw [← hW]; clear hW; go_simp
    have r1_9 : wz.cell? ⟨w.heap.size + 1, 1, none⟩ = some (.int .i64 0) := by rw [← hW]; clear hW; go_simp
    have rf1_9 : wz.frozen? ⟨w.heap.size + 1, 1, none⟩ = false := by rw [← hW]; clear hW; go_simp
    have r2_9 : wz.cell? ⟨w.heap.size + 1, 2, none⟩ = some (.int .i64 0) := by rw [← hW]; clear hW; go_simp
    have rf2_9 : wz.frozen? ⟨w.heap.size + 1, 2, none⟩ = false := by rw [← hW]; clear hW; go_simp
    have rz_9 : w.heap.size + 1 < wz.heap.size := by rw [← hW]; clear hW; simp <;> omega
    have HBZ := Lib.hid (show Below w.heap.size w wz by rw [← hW]; clear hW; have hs := HBS.out.size; repeat (first | exact HBS.out | refine Below.drew ?_ | refine Below.setCell ?_ (by first | omega | (simp; done) | (simp; omega)) _ | refine Below.alloc ?_ (by first | omega | (simp; done) | (simp; omega)) _))
    clear hW
    go_wp2_with fail
    refine bodyPost_ret (v := .agg #[.int .i64 0, .int .i64 0, .int .i64 3]) (by simp [results, Tryz.results7, go_sem, r0_9, r1_9, r2_9]) rfl ⟨rfl, by repeat (first | with_reducible exact HBZ.out | with_reducible refine Below.drew ?_ | with_reducible refine Below.setCell ?_ (by first | omega | (simp; done) | (simp; omega)) _ | with_reducible refine Below.alloc ?_ (by first | omega | (simp; done) | (simp; omega)) _)⟩
  · obtain ⟨a0, a1, a2, b0, b1, b2, az⟩ := RB.out _ hbv
    have HBS := Lib.hid (HB_2.out.trans (hbv.mono nz_2))
    have hn : w.heap.size + 1 ≠ w2.heap.size := by omega
    go_upto_region 12 with fail
    generalize hW : ((wS.setCell _ _).setCell _ _).setCell _ _ = wz
    have z0 : wz.cell? ⟨w2.heap.size, 0, none⟩ = some (.int .i64 0) := by rw [← hW]; clear hW; go_simp
    have z1 : wz.cell? ⟨w2.heap.size, 1, none⟩ = some (.int .i64 0) := by rw [← hW]; clear hW; go_simp
    have z2 : wz.cell? ⟨w2.heap.size, 2, none⟩ = some (.bool false) := by rw [← hW]; clear hW; go_simp
    have zz : w2.heap.size < wz.heap.size := by rw [← hW]; clear hW; simp <;> omega
    have r0_9 : wz.cell? ⟨w.heap.size + 1, 0, none⟩ = some (.int .i64 0) := by rw [← hW]; clear hW; go_simp
    have rf0_9 : wz.frozen? ⟨w.heap.size + 1, 0, none⟩ = false := by rw [← hW]; clear hW; go_simp
    have r1_9 : wz.cell? ⟨w.heap.size + 1, 1, none⟩ = some (.int .i64 0) := by rw [← hW]; clear hW; go_simp
    have rf1_9 : wz.frozen? ⟨w.heap.size + 1, 1, none⟩ = false := by rw [← hW]; clear hW; go_simp
    have r2_9 : wz.cell? ⟨w.heap.size + 1, 2, none⟩ = some (.int .i64 0) := by rw [← hW]; clear hW; go_simp
    have rf2_9 : wz.frozen? ⟨w.heap.size + 1, 2, none⟩ = false := by rw [← hW]; clear hW; go_simp
    have rz_9 : w.heap.size + 1 < wz.heap.size := by rw [← hW]; clear hW; simp <;> omega
    have HBZ := Lib.hid (show Below w.heap.size w wz by rw [← hW]; clear hW; have hs := HBS.out.size; repeat (first | exact HBS.out | refine Below.drew ?_ | refine Below.setCell ?_ (by first | omega | (simp; done) | (simp; omega)) _ | refine Below.alloc ?_ (by first | omega | (simp; done) | (simp; omega)) _))
    clear hW
    go_wp2_with fail
    refine bodyPost_ret (v := .agg #[.int .i64 0, .int .i64 0, .int .i64 3]) (by simp [results, Tryz.results7, go_sem, r0_9, r1_9, r2_9]) rfl ⟨rfl, by repeat (first | with_reducible exact HBZ.out | with_reducible refine Below.drew ?_ | with_reducible refine Below.setCell ?_ (by first | omega | (simp; done) | (simp; omega)) _ | with_reducible refine Below.alloc ?_ (by first | omega | (simp; done) | (simp; omega)) _)⟩

end Go.Proofs.YticiabgnegbbmaaGreatDoor

namespace Go.Proofs.YticiabgnegbbmaaGreatDoor
open Go.RowKit
set_option linter.unusedVariables false

set_option maxRecDepth 100000 in
set_option maxHeartbeats 1600000 in
theorem rone_any (w : World) : Calls Tryz.prog 26 #[] w fun r w' => r = .returned (realV 8388608 (-23)) ∧ Below w.heap.size w w' := by
  go_enter Tryz.func26, Tryz.ntmps26
  go_wp2_with fail
  refine bodyPost_ret (v := realV 8388608 (-23)) (by simp [results, Tryz.results26, go_sem]) rfl ⟨rfl, by repeat (first | with_reducible exact Below.refl _ _ | with_reducible refine Below.setCell ?_ (by first | omega | (simp; done) | (simp; omega)) _ | with_reducible refine Below.alloc ?_ (by first | omega | (simp; done) | (simp; omega)) _)⟩

/-- what the reference's power returns -/
def rpE (o : Option Int) : Value := match o with
  | some p => .agg #[.int .i64 (aM p), .int .i64 (aE p), .bool true]
  | none => .agg #[.int .i64 0, .int .i64 0, .bool false]
theorem rpE_form (o : Option Int) : ∃ (a b : Int) (t : Bool), rpE o = .agg #[.int .i64 a, .int .i64 b, .bool t] := by
  cases o with
  | none => exact ⟨_, _, _, rfl⟩
  | some p => exact ⟨_, _, _, rfl⟩
theorem rr_mI (U V : Int) : rrV (RI (U * V) 150) = rpE (mI U V) := by
  unfold rrV mI oM oE
  by_cases h : -2533359615 ≤ RI (U * V) 150 ∧ RI (U * V) 150 ≤ 2533359615
  · rw [if_pos h, if_pos h, if_pos h, decide_eq_true h]; rfl
  · rw [if_neg h, if_neg h, if_neg h, decide_eq_false h]; rfl

theorem wrap_pos (n : Int) (h0 : 0 ≤ n) (h1 : n ≤ 9223372036854775807) : ¬ IntKind.i64.wrap (n + 1) = 0 := by
  by_cases h : n = 9223372036854775807
  · subst h; decide
  · rw [wrap64' _ (by omega) (by omega)]; omega

theorem rpower_any (m e : Int) (h : vr m e = true) (n : Nat) : ∀ (n1 n2 : Int), n1 + n2 = (n : Int) → 0 ≤ n1 → n1 ≤ 9223372036854775807 → (n2 = 0 ∨ n2 = 1) → ∀ w : World,
    Calls Tryz.prog 24 #[realV m e, .int .i64 n1, .int .i64 n2] w fun r w' => r = .returned (rpE (pwO (UU m e) n)) ∧ Below w.heap.size w w' := by
  induction n using Nat.strongRecOn with
  | ind n ih =>
    intro n1 n2 hn h0 h1 h2 w
    have HO := Lib.hid rone_any
    have hmul : ∀ (k f : Int), vr k f = true → ∀ W, Calls Tryz.prog 42 #[realV m e, realV k f] W fun r w' => r = .returned (rpE (mI (UU m e) (UU k f))) ∧ Below W.heap.size W w' := fun k f hv W => by
      have := rmul_any m e k f W h hv
      rwa [rr_mI] at this
    have hmul2 : ∀ (k f : Int), vr k f = true → ∀ W, Calls Tryz.prog 42 #[realV k f, realV k f] W fun r w' => r = .returned (rpE (mI (UU k f) (UU k f))) ∧ Below W.heap.size W w' := fun k f hv W => by
      have := rmul_any k f k f W hv hv
      rwa [rr_mI] at this
    have t2 : n1.tmod 2 = n1 % 2 := Int.tmod_eq_emod_of_nonneg h0
    have d2 : n1.tdiv 2 = n1 / 2 := Int.tdiv_eq_ediv_of_nonneg h0
    by_cases hz : n = 0
    · subst hz
      have e1 : n1 = 0 := by omega
      have e2 : n2 = 0 := by omega
      subst e1 e2
      rw [pwO, if_pos rfl]
      exact rp_zero m e 0 0 0 0 0 0 0 0 false w HO
    · by_cases hp : n % 2 = 1
      · have IH := fun (q1 : Int) (hq : q1 = ((n - 1 : Nat) : Int)) (W : World) => ih (n - 1) (by omega) q1 0 (by omega) (by omega) (by omega) (.inl rfl) W
        rw [pwO, if_neg hz, if_pos hp]
        rcases h2 with rfl | rfl
        · have hI := IH (n1 - 1) (by omega)
          have f1 : IntKind.i64.wrap n1 = n1 := wrap64' _ (by omega) (by omega)
          have f2 : (n1 == 0) = false := by simp; omega
          have f3 : n1.tmod 2 = 1 := by omega
          have f4 : IntKind.i64.wrap (n1 - 1) = n1 - 1 := wrap64' _ (by omega) (by omega)
          cases ho : pwO (UU m e) (n - 1) with
          | none =>
            rw [ho] at hI
            exact rp_Bp m e n1 0 (n1 - 1) 0 0 0 0 0 false w f1 f2 f3 f4 HO (Lib.hid hI)
          | some p =>
            rw [ho] at hI
            have hpi := pwO_in _ _ ho
            have hM := hmul (aM p) (aE p) (at_vr hpi.1 hpi.2)
            show Calls _ _ _ _ fun r w' => r = Ending.returned (rpE (mI (UU m e) (VI p))) ∧ _
            unfold VI
            obtain ⟨a, b, t, hE⟩ := rpE_form (mI (UU m e) (UU (aM p) (aE p)))
            rw [hE] at hM ⊢
            exact rp_Bk m e n1 0 (n1 - 1) 0 (aM p) (aE p) a b t w f1 f2 f3 f4 HO (Lib.hid hI) (Lib.hid hM)
        · have hI := IH n1 (by omega)
          have f3 : n1.tmod 2 = 0 := by omega
          have f2 : (IntKind.i64.wrap (n1 + 1) == 0) = false := by
            have := wrap_pos n1 h0 h1
            simp; exact this
          cases ho : pwO (UU m e) (n - 1) with
          | none =>
            rw [ho] at hI
            exact rp_Ap m e n1 _ 0 0 0 0 0 0 false w rfl f2 f3 HO (Lib.hid hI)
          | some p =>
            rw [ho] at hI
            have hpi := pwO_in _ _ ho
            have hM := hmul (aM p) (aE p) (at_vr hpi.1 hpi.2)
            show Calls _ _ _ _ fun r w' => r = Ending.returned (rpE (mI (UU m e) (VI p))) ∧ _
            unfold VI
            obtain ⟨a, b, t, hE⟩ := rpE_form (mI (UU m e) (UU (aM p) (aE p)))
            rw [hE] at hM ⊢
            exact rp_Ak m e n1 _ 0 0 (aM p) (aE p) a b t w rfl f2 f3 HO (Lib.hid hI) (Lib.hid hM)
      · have IH := fun (q1 : Int) (hq : q1 = ((n / 2 : Nat) : Int)) (W : World) => ih (n / 2) (by omega) q1 0 (by omega) (by omega) (by omega) (.inl rfl) W
        rw [pwO, if_neg hz, if_neg hp]
        rcases h2 with rfl | rfl
        · have hI := IH (n1 / 2) (by omega)
          have f1 : IntKind.i64.wrap n1 = n1 := wrap64' _ (by omega) (by omega)
          have f2 : (n1 == 0) = false := by simp; omega
          have f3 : n1.tmod 2 = 0 := by omega
          have f4 : IntKind.i64.wrap (n1 / 2) = n1 / 2 := wrap64' _ (by omega) (by omega)
          cases ho : pwO (UU m e) (n / 2) with
          | none =>
            rw [ho] at hI
            exact rp_Cp m e n1 0 0 (n1 / 2) 0 0 0 0 false w f1 f2 f3 d2 f4 (Lib.hid hI)
          | some p =>
            rw [ho] at hI
            have hpi := pwO_in _ _ ho
            have hM := hmul2 (aM p) (aE p) (at_vr hpi.1 hpi.2)
            show Calls _ _ _ _ fun r w' => r = Ending.returned (rpE (mI (VI p) (VI p))) ∧ _
            unfold VI
            obtain ⟨a, b, t, hE⟩ := rpE_form (mI (UU (aM p) (aE p)) (UU (aM p) (aE p)))
            rw [hE] at hM ⊢
            exact rp_Ck m e n1 0 0 (n1 / 2) (aM p) (aE p) a b t w f1 f2 f3 d2 f4 (Lib.hid hI) (Lib.hid hM)
        · have hI := IH (n1 / 2 + 1) (by omega)
          have f3 : n1.tmod 2 = 1 := by omega
          have f2 : (IntKind.i64.wrap (n1 + 1) == 0) = false := by
            have := wrap_pos n1 h0 h1
            simp; exact this
          have f4 : IntKind.i64.wrap (n1 / 2) = n1 / 2 := wrap64' _ (by omega) (by omega)
          have f5 : IntKind.i64.wrap (n1 / 2 + 1) = n1 / 2 + 1 := wrap64' _ (by omega) (by omega)
          cases ho : pwO (UU m e) (n / 2) with
          | none =>
            rw [ho] at hI
            exact rp_Dp m e n1 _ (n1 / 2 + 1) (n1 / 2) 0 0 0 0 false w rfl f2 f3 d2 f4 f5 (Lib.hid hI)
          | some p =>
            rw [ho] at hI
            have hpi := pwO_in _ _ ho
            have hM := hmul2 (aM p) (aE p) (at_vr hpi.1 hpi.2)
            show Calls _ _ _ _ fun r w' => r = Ending.returned (rpE (mI (VI p) (VI p))) ∧ _
            unfold VI
            obtain ⟨a, b, t, hE⟩ := rpE_form (mI (UU (aM p) (aE p)) (UU (aM p) (aE p)))
            rw [hE] at hM ⊢
            exact rp_Dk m e n1 _ (n1 / 2 + 1) (n1 / 2) (aM p) (aE p) a b t w rfl f2 f3 d2 f4 f5 (Lib.hid hI) (Lib.hid hM)

/-- what Pow returns, by parts -/
def pwT (m e k : Int) : Int × Int × Int :=
  if 0 ≤ k then (match pwO (UU m e) k.toNat with
    | some p => (aM p, aE p, 0)
    | none => (0, 0, 3))
  else if m = 0 then (0, 0, 5)
  else (match pwO (UU m e) (-k).toNat with
    | some p => if aM p = 0 then (0, 0, 3) else (oM (rI (quM 8388608 (aM p)) (quE 8388608 (-23) (aE p))), oE (rI (quM 8388608 (aM p)) (quE 8388608 (-23) (aE p))), oX (rI (quM 8388608 (aM p)) (quE 8388608 (-23) (aE p))))
    | none => (0, 0, 3))

theorem pwR_T (m e k : Int) : pwR m e k = rE (pwT m e k).1 (pwT m e k).2.1 (pwT m e k).2.2 := by
  unfold pwR pwT
  by_cases hk : 0 ≤ k
  · rw [if_pos hk, if_pos hk]
    cases pwO (UU m e) k.toNat <;> rfl
  · rw [if_neg hk, if_neg hk]
    by_cases hm : m = 0
    · rw [if_pos hm, if_pos hm]
    · rw [if_neg hm, if_neg hm]
      cases pwO (UU m e) (-k).toNat with
      | none => rfl
      | some p =>
        show (if aM p = 0 then rE 0 0 3 else _) = _
        by_cases hf : aM p = 0
        · rw [if_pos hf]; simp only [if_pos hf]
        · rw [if_neg hf]; simp only [if_neg hf]

theorem rpow_any (m e k : Int) (w : World) (h : vr m e = true) (k1 : -9223372036854775808 ≤ k) (k2 : k ≤ 9223372036854775807) :
    Calls Tryz.prog 7 #[realV m e, .int .i64 k] w fun r w' => r = .returned (.agg #[.int .i64 (pwT m e k).1, .int .i64 (pwT m e k).2.1, .int .i64 (pwT m e k).2.2]) ∧ Below w.heap.size w w' := by
  have HO := Lib.hid rone_any
  unfold pwT
  by_cases hk : 0 ≤ k
  · rw [if_pos hk]
    have HP := fun W => rpower_any m e h k.toNat k 0 (by omega) hk k2 (.inl rfl) W
    cases ho : pwO (UU m e) k.toNat with
    | none =>
      rw [ho] at HP
      exact rw_up m e k 0 0 0 0 0 0 w hk (Lib.hid HP)
    | some p =>
      rw [ho] at HP
      exact rw_uk m e k 0 0 (aM p) (aE p) 0 0 w hk (Lib.hid HP)
  · rw [if_neg hk]
    by_cases hm : m = 0
    · rw [if_pos hm]
      exact rw_z m e k 0 0 0 0 0 0 w hk (by simp [hm])
    · rw [if_neg hm]
      have hm2 : (m == 0) = false := by simp [hm]
      have f1 : IntKind.i64.wrap (k + 1) = k + 1 := wrap64' _ (by omega) (by omega)
      have f2 : IntKind.i64.wrap (-(k + 1)) = -(k + 1) := wrap64' _ (by omega) (by omega)
      have HP := fun W => rpower_any m e h (-k).toNat (-(k + 1)) 1 (by omega) (by omega) (by omega) (.inr rfl) W
      cases ho : pwO (UU m e) (-k).toNat with
      | none =>
        rw [ho] at HP
        exact rw_dp m e k (k + 1) (-(k + 1)) 0 0 0 0 w hk hm2 f1 f2 (Lib.hid HP)
      | some p =>
        rw [ho] at HP
        have hpi := pwO_in _ _ ho
        have hv := at_vr hpi.1 hpi.2
        by_cases hf : aM p = 0
        · simp only [if_pos hf]
          exact rw_dz m e k (k + 1) (-(k + 1)) (aM p) (aE p) 0 0 w hk hm2 f1 f2 (Lib.hid HP) (by simp [hf])
        · simp only [if_neg hf]
          have HD := fun W => rdiv_any 8388608 (-23) (aM p) (aE p) W one_vr hv hf
          have hf2 : (aM p == 0) = false := by simp [hf]
          obtain ⟨I, hI⟩ : ∃ I, I = rI (quM 8388608 (aM p)) (quE 8388608 (-23) (aE p)) := ⟨_, rfl⟩
          rw [← hI] at HD ⊢
          by_cases hr : -2533359615 ≤ I ∧ I ≤ 2533359615
          · have e1 : rrV I = .agg #[.int .i64 (oM I), .int .i64 (oE I), .bool true] := by unfold rrV; rw [decide_eq_true hr]
            have e2 : oX I = 0 := by unfold oX; rw [if_pos hr]
            rw [e1] at HD
            rw [e2]
            exact rw_dk m e k (k + 1) (-(k + 1)) (aM p) (aE p) (oM I) (oE I) w hk hm2 f1 f2 (Lib.hid HP) hf2 HO (Lib.hid HD)
          · have e1 : rrV I = .agg #[.int .i64 0, .int .i64 0, .bool false] := by unfold rrV oM oE; rw [if_neg hr, if_neg hr, decide_eq_false hr]
            have e2 : oX I = 3 := by unfold oX; rw [if_neg hr]
            have e3 : oM I = 0 := by unfold oM; rw [if_neg hr]
            have e4 : oE I = 0 := by unfold oE; rw [if_neg hr]
            rw [e1] at HD
            rw [e2, e3, e4]
            exact rw_dq m e k (k + 1) (-(k + 1)) (aM p) (aE p) 0 0 w hk hm2 f1 f2 (Lib.hid HP) hf2 HO (Lib.hid HD)

end Go.Proofs.YticiabgnegbbmaaGreatDoor
