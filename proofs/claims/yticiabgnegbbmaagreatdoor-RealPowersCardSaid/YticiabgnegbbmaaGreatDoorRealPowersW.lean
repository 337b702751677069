/-
  RealPowers: the ways.
-/
import Derived.Test.YticiabgnegbbmaaGreatDoorNatU
import Derived.Test.YticiabgnegbbmaaGreatDoorRefI
import Derived.Test.YticiabgnegbbmaaGreatDoorSanH

namespace Go.Proofs.YticiabgnegbbmaaGreatDoor.realPowers
open Go.RowKit
set_option linter.unusedVariables false

set_option maxRecDepth 100000 in
set_option maxHeartbeats 8000000 in
theorem bad (m e k a b x : Int) (w : World) (HP : Hid (∀ W : World, Calls Tryz.prog 4 #[realV m e, .int .i64 k] W fun r w' => r = .returned (rE 0 0 1) ∧ Below W.heap.size W w')) (HVx : Hid (∀ W : World, Calls Tryz.prog 5 #[realV m e] W fun r w' => r = .returned (.bool false) ∧ Below W.heap.size W w')) (HSan : Hid (∀ W, Below w.heap.size w W → Calls Tryz.prog 6 #[] W fun r W' => r = .returned (.bool true) ∧ Below W.heap.size W W'))  :
    Calls Tryz.prog 3 #[realV m e, .int .i64 k] w fun r w' => r = .returned (.bool true) ∧ Below w.heap.size w w' := by
  go_enter Tryz.func3, Tryz.ntmps3
  go_wp2_with fail
  refine (HP.out _).mono ?_
  rintro e w1 ⟨rfl, hb1⟩
  have x0_1 : w1.cell? ⟨w.heap.size, 0, none⟩ = some (.int .i64 m) := carry hb1 (by go_simp)
  have x1_1 : w1.cell? ⟨w.heap.size, 1, none⟩ = some (.int .i64 e) := carry hb1 (by go_simp)
  have xz_1 : w.heap.size < w1.heap.size := by have := hb1.size; first | omega | (simp at this; omega)
  have HB_1 := Lib.hid ((by repeat (first | exact Below.refl _ _ | refine Below.drew ?_ | refine Below.setCell ?_ (by first | omega | (simp; done) | (simp; omega)) _ | refine Below.alloc ?_ (by first | omega | (simp; done) | (simp; omega)) _) : Below w.heap.size w _).trans (hb1.mono (by first | omega | (simp; done) | (simp; omega))))
  have nz_1 : w.heap.size ≤ w1.heap.size := HB_1.out.size
  clear hb1
  go_wp2_with fail
  refine (HVx.out _).mono ?_
  rintro e w2 ⟨rfl, hb2⟩
  have x0_2 : w2.cell? ⟨w.heap.size, 0, none⟩ = some (.int .i64 m) := carry hb2 (by go_simp)
  have x1_2 : w2.cell? ⟨w.heap.size, 1, none⟩ = some (.int .i64 e) := carry hb2 (by go_simp)
  have xz_2 : w.heap.size < w2.heap.size := by have := hb2.size; first | omega | (simp at this; omega)
  have y0_2 : w2.cell? ⟨w1.heap.size, 0, none⟩ = some (.int .i64 0) := carry hb2 (by go_simp)
  have y1_2 : w2.cell? ⟨w1.heap.size, 1, none⟩ = some (.int .i64 0) := carry hb2 (by go_simp)
  have yz_2 : w1.heap.size < w2.heap.size := by have := hb2.size; first | omega | (simp at this; omega)
  have HB_2 := Lib.hid ((by repeat (first | exact HB_1.out | refine Below.drew ?_ | refine Below.setCell ?_ (by first | omega | (simp; done) | (simp; omega)) _ | refine Below.alloc ?_ (by first | omega | (simp; done) | (simp; omega)) _) : Below w.heap.size w _).trans (hb2.mono (by first | omega | (simp; done) | (simp; omega))))
  have nz_2 : w.heap.size ≤ w2.heap.size := HB_2.out.size
  clear hb2 x0_1 x1_1 HB_1
  go_wp2_with fail
  refine (HSan.out _ (by repeat (first | exact HB_2.out | refine Below.drew ?_ | refine Below.setCell ?_ (by first | omega | (simp; done) | (simp; omega)) _ | refine Below.alloc ?_ (by first | omega | (simp; done) | (simp; omega)) _))).mono ?_
  rintro e w3 ⟨rfl, hb3⟩
  have y0_3 : w3.cell? ⟨w1.heap.size, 0, none⟩ = some (.int .i64 0) := carry hb3 (by go_simp)
  have y1_3 : w3.cell? ⟨w1.heap.size, 1, none⟩ = some (.int .i64 0) := carry hb3 (by go_simp)
  have yz_3 : w1.heap.size < w3.heap.size := by have := hb3.size; first | omega | (simp at this; omega)
  have HB_3 := Lib.hid ((by repeat (first | exact HB_2.out | refine Below.drew ?_ | refine Below.setCell ?_ (by first | omega | (simp; done) | (simp; omega)) _ | refine Below.alloc ?_ (by first | omega | (simp; done) | (simp; omega)) _) : Below w.heap.size w _).trans (hb3.mono (by first | omega | (simp; done) | (simp; omega))))
  have nz_3 : w.heap.size ≤ w3.heap.size := HB_3.out.size
  clear hb3 x0_2 x1_2 y0_2 y1_2 HB_2
  go_wp2_with fail
  go_ret
  exact ⟨rfl, by repeat (first | exact HB_3.out | refine Below.drew ?_ | refine Below.setCell ?_ (by first | omega | (simp; done) | (simp; omega)) _ | refine Below.alloc ?_ (by first | omega | (simp; done) | (simp; omega)) _)⟩

set_option maxRecDepth 100000 in
set_option maxHeartbeats 8000000 in
theorem good (m e k a b x : Int) (w : World) (HP : Hid (∀ W : World, Calls Tryz.prog 4 #[realV m e, .int .i64 k] W fun r w' => r = .returned (rE a b x) ∧ Below W.heap.size W w')) (HVx : Hid (∀ W : World, Calls Tryz.prog 5 #[realV m e] W fun r w' => r = .returned (.bool true) ∧ Below W.heap.size W w')) (HR : Hid (∀ W : World, Calls Tryz.prog 7 #[realV m e, .int .i64 k] W fun r w' => r = .returned (.agg #[.int .i64 a, .int .i64 b, .int .i64 x]) ∧ Below W.heap.size W w')) (HSan : Hid (∀ W, Below w.heap.size w W → Calls Tryz.prog 6 #[] W fun r W' => r = .returned (.bool true) ∧ Below W.heap.size W W'))  :
    Calls Tryz.prog 3 #[realV m e, .int .i64 k] w fun r w' => r = .returned (.bool true) ∧ Below w.heap.size w w' := by
  go_enter Tryz.func3, Tryz.ntmps3
  go_wp2_with fail
  refine (HP.out _).mono ?_
  rintro e w1 ⟨rfl, hb1⟩
  have x0_1 : w1.cell? ⟨w.heap.size, 0, none⟩ = some (.int .i64 m) := carry hb1 (by go_simp)
  have x1_1 : w1.cell? ⟨w.heap.size, 1, none⟩ = some (.int .i64 e) := carry hb1 (by go_simp)
  have xz_1 : w.heap.size < w1.heap.size := by have := hb1.size; first | omega | (simp at this; omega)
  have HB_1 := Lib.hid ((by repeat (first | exact Below.refl _ _ | refine Below.drew ?_ | refine Below.setCell ?_ (by first | omega | (simp; done) | (simp; omega)) _ | refine Below.alloc ?_ (by first | omega | (simp; done) | (simp; omega)) _) : Below w.heap.size w _).trans (hb1.mono (by first | omega | (simp; done) | (simp; omega))))
  have nz_1 : w.heap.size ≤ w1.heap.size := HB_1.out.size
  clear hb1
  go_wp2_with fail
  refine (HVx.out _).mono ?_
  rintro e w2 ⟨rfl, hb2⟩
  have x0_2 : w2.cell? ⟨w.heap.size, 0, none⟩ = some (.int .i64 m) := carry hb2 (by go_simp)
  have x1_2 : w2.cell? ⟨w.heap.size, 1, none⟩ = some (.int .i64 e) := carry hb2 (by go_simp)
  have xz_2 : w.heap.size < w2.heap.size := by have := hb2.size; first | omega | (simp at this; omega)
  have y0_2 : w2.cell? ⟨w1.heap.size, 0, none⟩ = some (.int .i64 a) := carry hb2 (by go_simp)
  have y1_2 : w2.cell? ⟨w1.heap.size, 1, none⟩ = some (.int .i64 b) := carry hb2 (by go_simp)
  have yz_2 : w1.heap.size < w2.heap.size := by have := hb2.size; first | omega | (simp at this; omega)
  have HB_2 := Lib.hid ((by repeat (first | exact HB_1.out | refine Below.drew ?_ | refine Below.setCell ?_ (by first | omega | (simp; done) | (simp; omega)) _ | refine Below.alloc ?_ (by first | omega | (simp; done) | (simp; omega)) _) : Below w.heap.size w _).trans (hb2.mono (by first | omega | (simp; done) | (simp; omega))))
  have nz_2 : w.heap.size ≤ w2.heap.size := HB_2.out.size
  clear hb2 x0_1 x1_1 HB_1
  go_wp2_with fail
  refine (HR.out _).mono ?_
  rintro e w3 ⟨rfl, hb3⟩
  have x0_3 : w3.cell? ⟨w.heap.size, 0, none⟩ = some (.int .i64 m) := carry hb3 (by go_simp)
  have x1_3 : w3.cell? ⟨w.heap.size, 1, none⟩ = some (.int .i64 e) := carry hb3 (by go_simp)
  have xz_3 : w.heap.size < w3.heap.size := by have := hb3.size; first | omega | (simp at this; omega)
  have y0_3 : w3.cell? ⟨w1.heap.size, 0, none⟩ = some (.int .i64 a) := carry hb3 (by go_simp)
  have y1_3 : w3.cell? ⟨w1.heap.size, 1, none⟩ = some (.int .i64 b) := carry hb3 (by go_simp)
  have yz_3 : w1.heap.size < w3.heap.size := by have := hb3.size; first | omega | (simp at this; omega)
  have HB_3 := Lib.hid ((by repeat (first | exact HB_2.out | refine Below.drew ?_ | refine Below.setCell ?_ (by first | omega | (simp; done) | (simp; omega)) _ | refine Below.alloc ?_ (by first | omega | (simp; done) | (simp; omega)) _) : Below w.heap.size w _).trans (hb3.mono (by first | omega | (simp; done) | (simp; omega))))
  have nz_3 : w.heap.size ≤ w3.heap.size := HB_3.out.size
  clear hb3 x0_2 x1_2 y0_2 y1_2 HB_2
  go_wp2_with fail
  refine (HSan.out _ (by repeat (first | exact HB_3.out | refine Below.drew ?_ | refine Below.setCell ?_ (by first | omega | (simp; done) | (simp; omega)) _ | refine Below.alloc ?_ (by first | omega | (simp; done) | (simp; omega)) _))).mono ?_
  rintro e w4 ⟨rfl, hb4⟩
  have y0_4 : w4.cell? ⟨w1.heap.size, 0, none⟩ = some (.int .i64 a) := carry hb4 (by go_simp)
  have y1_4 : w4.cell? ⟨w1.heap.size, 1, none⟩ = some (.int .i64 b) := carry hb4 (by go_simp)
  have yz_4 : w1.heap.size < w4.heap.size := by have := hb4.size; first | omega | (simp at this; omega)
  have z0_4 : w4.cell? ⟨w3.heap.size, 0, none⟩ = some (.int .i64 a) := carry hb4 (by go_simp)
  have z1_4 : w4.cell? ⟨w3.heap.size, 1, none⟩ = some (.int .i64 b) := carry hb4 (by go_simp)
  have z2_4 : w4.cell? ⟨w3.heap.size, 2, none⟩ = some (.int .i64 x) := carry hb4 (by go_simp)
  have zz_4 : w3.heap.size < w4.heap.size := by have := hb4.size; first | omega | (simp at this; omega)
  have HB_4 := Lib.hid ((by repeat (first | exact HB_3.out | refine Below.drew ?_ | refine Below.setCell ?_ (by first | omega | (simp; done) | (simp; omega)) _ | refine Below.alloc ?_ (by first | omega | (simp; done) | (simp; omega)) _) : Below w.heap.size w _).trans (hb4.mono (by first | omega | (simp; done) | (simp; omega))))
  have nz_4 : w.heap.size ≤ w4.heap.size := HB_4.out.size
  clear hb4 x0_3 x1_3 y0_3 y1_3 HB_3
  go_wp2_with fail
  go_ret
  exact ⟨rfl, by repeat (first | exact HB_4.out | refine Below.drew ?_ | refine Below.setCell ?_ (by first | omega | (simp; done) | (simp; omega)) _ | refine Below.alloc ?_ (by first | omega | (simp; done) | (simp; omega)) _)⟩

theorem run (m e k : Int) (w : World) (w0 : (Lit.int .i64 m).wf = true) (w1 : (Lit.int .i64 e).wf = true) (w2 : (Lit.int .i64 k).wf = true) (hP : P10 w) (hQ : TabQ w) :
    Calls Tryz.prog 3 #[realV m e, .int .i64 k] w fun r w' => r = .returned (.bool true) ∧ Below w.heap.size w w' := by
  have HS := hsan w hP hQ
  have hb : -9223372036854775808 ≤ m ∧ m ≤ 9223372036854775807 := by simpa [Lit.wf, IntKind.min, IntKind.max, IntKind.signed, IntKind.bits] using w0
  have hk : -9223372036854775808 ≤ k ∧ k ≤ 9223372036854775807 := by simpa [Lit.wf, IntKind.min, IntKind.max, IntKind.signed, IntKind.bits] using w2
  have HVx : Hid (∀ W : World, Calls Tryz.prog 5 #[realV m e] W fun r w' => r = .returned (.bool (vr m e)) ∧ Below W.heap.size W w') := Lib.hid (fun W => rvalid_any m e W hb.1 hb.2)
  cases hv : vr m e
  · rw [hv] at HVx
    exact bad m e k 0 0 0 w (Lib.hid (fun W => pow_bad m e k W (Lib.hid hv) hb.1 hb.2)) HVx HS
  · rw [hv] at HVx
    have HP : Hid (∀ W : World, Calls Tryz.prog 4 #[realV m e, .int .i64 k] W fun r w' => r = .returned (rE (pwT m e k).1 (pwT m e k).2.1 (pwT m e k).2.2) ∧ Below W.heap.size W w') := Lib.hid (fun W => by
      have h := pow_any m e k W hv hk.1 hk.2
      rwa [pwR_T] at h)
    exact good m e k _ _ _ w HP HVx (Lib.hid (fun W => rpow_any m e k W hv hk.1 hk.2)) HS

end Go.Proofs.YticiabgnegbbmaaGreatDoor.realPowers
