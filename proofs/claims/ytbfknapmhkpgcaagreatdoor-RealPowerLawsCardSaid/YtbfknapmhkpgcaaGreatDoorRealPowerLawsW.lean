/-
  RealPowerLaws: the ways.
-/
import Derived.Test.YtbfknapmhkpgcaaGreatDoorPowP
import Derived.Test.YtbfknapmhkpgcaaGreatDoorSanH
import Derived.Deep.RegionHeld3
import Derived.Deep.CutRange
import Derived.Deep.QuietTactic
import Derived.BigQuiet

namespace Go.Proofs.YtbfknapmhkpgcaaGreatDoor.realPowerLaws
open Go.RowKit
set_option linter.unusedVariables false

set_option maxRecDepth 100000 in
set_option maxHeartbeats 1600000 in
theorem lat_any (i j : Int) (w : World) (hj : i.tmod 2533359616 = j) (h1 : -2533359615 ≤ j) (h2 : j ≤ 2533359615) :
    Calls Tryz.prog 32 #[.int .i64 i] w fun r w' => r = .returned (realV (aM j) (aE j)) ∧ Below w.heap.size w w' := by
  have HA := Lib.hid (at_ok j)
  go_enter Tryz.func32, Tryz.ntmps32
  go_wp2_with fail

  refine (HA.out _ h1 h2).mono ?_
  rintro r w1 ⟨rfl, hb1⟩
  have hz1 : w.heap.size < w1.heap.size := by have := hb1.size; first | omega | (simp at this; omega)
  have f0 : w1.frozen? ⟨w.heap.size, 0, none⟩ = false := carryF hb1 (v := .int .i64 0) (by first | assumption | go_simp) (by first | assumption | go_simp)
  have f1 : w1.frozen? ⟨w.heap.size, 1, none⟩ = false := carryF hb1 (v := .int .i64 0) (by first | assumption | go_simp) (by first | assumption | go_simp)
  have r0 : w1.cell? ⟨w.heap.size, 0, none⟩ = some (.int .i64 0) := carry hb1 (by first | assumption | go_simp)
  have r1 : w1.cell? ⟨w.heap.size, 1, none⟩ = some (.int .i64 0) := carry hb1 (by first | assumption | go_simp)
  have HBB := Lib.hid ((by repeat (first | exact Below.refl _ _ | refine Below.setCell ?_ (by first | omega | (simp; done) | (simp; omega)) _ | refine Below.alloc ?_ (by first | omega | (simp; done) | (simp; omega)) _) : Below w.heap.size w _).trans (hb1.mono (by first | omega | (simp; done) | (simp; omega))))
  clear hb1
  generalize hm : aM j = am
  generalize he : aE j = ae
  have HQ := Lib.hid (And.intro hm he)
  clear hm he hj
  go_wp2_with fail
  refine bodyPost_ret (v := realV am ae) (by simp [results, Tryz.results32, go_sem, r0, r1, hz1]) rfl ⟨by rw [HQ.out.1, HQ.out.2], by repeat (first | with_reducible exact HBB.out | with_reducible exact Below.refl _ _ | with_reducible refine Below.drew ?_ | with_reducible refine belowN ?_ _ | with_reducible refine Below.setCell ?_ (by first | omega | (simp; done) | (simp; omega)) _ | with_reducible refine Below.alloc ?_ (by first | omega | (simp; done) | (simp; omega)) _)⟩

set_option maxRecDepth 100000 in
set_option maxHeartbeats 8000000 in
theorem w_over (i0 k m e sm se pm pe mm am ae ax bm c rm qm qe t : Int) (w : World) (HAt : Hid (∀ W : World, Calls Tryz.prog 32 #[.int .i64 i0] W fun r w' => r = .returned (realV m e) ∧ Below W.heap.size W w')) (HP1 : Hid (∀ W : World, Calls Tryz.prog 37 #[realV m e, .int .i64 1] W fun r w' => r = .returned (rE m e 0) ∧ Below W.heap.size W w')) (HP2 : Hid (∀ W : World, Calls Tryz.prog 37 #[realV m e, .int .i64 2] W fun r w' => r = .returned (rE sm se 3) ∧ Below W.heap.size W w')) (HM : Hid (∀ W : World, Calls Tryz.prog 25 #[realV m e, realV m e] W fun r w' => r = .returned (rE sm se 3) ∧ Below W.heap.size W w')) (HI1 : Hid (∀ W : World, Calls Tryz.prog 8 #[realV m e, .int .i64 0, realV m e] W fun r w' => r = .returned (.bool true) ∧ Below W.heap.size W w')) (HEq : Hid (∀ W : World, Calls Tryz.prog 34 #[realV sm se, .int .i64 3, realV sm se, .int .i64 3] W fun r w' => r = .returned (.bool true) ∧ Below W.heap.size W w')) (HF2 : Hid (∀ W : World, Calls Tryz.prog 10 #[.int .i64 2] W fun r w' => r = .returned (realV 8388608 (-22)) ∧ Below W.heap.size W w')) (HPn : Hid (∀ W : World, Calls Tryz.prog 37 #[realV 8388608 (-22), .int .i64 k] W fun r w' => r = .returned (rE pm pe t) ∧ Below W.heap.size W w')) (HTw : Hid (-126 ≤ k ∧ k ≤ 173 → (∀ W : World, Calls Tryz.prog 36 #[.int .i64 k] W fun r w' => r = .returned (realV pm pe) ∧ Below W.heap.size W w') ∧ (∀ W : World, Calls Tryz.prog 8 #[realV pm pe, .int .i64 t, realV pm pe] W fun r w' => r = .returned (.bool true) ∧ Below W.heap.size W w'))) (HNx : Hid (∀ W : World, Calls Tryz.prog 16 #[realV m e] W fun r w' => r = .returned (rE mm e 0) ∧ Below W.heap.size W w')) (HPx : Hid (∀ W : World, Calls Tryz.prog 37 #[realV m e, .int .i64 k] W fun r w' => r = .returned (rE am ae ax) ∧ Below W.heap.size W w')) (HPm : Hid (∀ W : World, Calls Tryz.prog 37 #[realV mm e, .int .i64 k] W fun r w' => r = .returned (rE bm ae ax) ∧ Below W.heap.size W w')) (HOd : Hid ((k.tmod 2 != 0) = true → ∀ W : World, Calls Tryz.prog 16 #[realV bm ae] W fun r w' => r = .returned (rE am ae 0) ∧ Below W.heap.size W w')) (HEv : Hid ((k.tmod 2 != 0) = false → bm = am)) (HSan : Hid (∀ W, Below w.heap.size w W → Calls Tryz.prog 20 #[] W fun r W' => r = .returned (.bool true) ∧ Below W.heap.size W W'))  :
    Calls Tryz.prog 6 #[.int .i64 i0, .int .i64 k] w fun r w' => r = .returned (.bool true) ∧ Below w.heap.size w w' := by
  go_enter Tryz.func6, Tryz.ntmps6
  go_wp2_with fail
  refine (HAt.out _).mono ?_
  rintro e w1 ⟨rfl, hb1⟩
  have HB_1 := Lib.hid ((by repeat (first | exact Below.refl _ _ | refine Below.drew ?_ | refine Below.setCell ?_ (by first | omega | (simp; done) | (simp; omega)) _ | refine Below.alloc ?_ (by first | omega | (simp; done) | (simp; omega)) _) : Below w.heap.size w _).trans (hb1.mono (by first | omega | (simp; done) | (simp; omega))))
  have nz_1 : w.heap.size ≤ w1.heap.size := HB_1.out.size
  clear hb1
  go_wp2_with fail
  refine (HP1.out _).mono ?_
  rintro e w2 ⟨rfl, hb2⟩
  have x0_2 : w2.cell? ⟨w1.heap.size, 0, none⟩ = some (.int .i64 m) := carry hb2 (by go_simp)
  have x1_2 : w2.cell? ⟨w1.heap.size, 1, none⟩ = some (.int .i64 e) := carry hb2 (by go_simp)
  have xz_2 : w1.heap.size < w2.heap.size := by have := hb2.size; first | omega | (simp at this; omega)
  have HB_2 := Lib.hid ((by repeat (first | exact HB_1.out | refine Below.drew ?_ | refine Below.setCell ?_ (by first | omega | (simp; done) | (simp; omega)) _ | refine Below.alloc ?_ (by first | omega | (simp; done) | (simp; omega)) _) : Below w.heap.size w _).trans (hb2.mono (by first | omega | (simp; done) | (simp; omega))))
  have nz_2 : w.heap.size ≤ w2.heap.size := HB_2.out.size
  clear hb2 HB_1
  go_wp2_with fail
  refine (HP2.out _).mono ?_
  rintro e w3 ⟨rfl, hb3⟩
  have x0_3 : w3.cell? ⟨w1.heap.size, 0, none⟩ = some (.int .i64 m) := carry hb3 (by go_simp)
  have x1_3 : w3.cell? ⟨w1.heap.size, 1, none⟩ = some (.int .i64 e) := carry hb3 (by go_simp)
  have xz_3 : w1.heap.size < w3.heap.size := by have := hb3.size; first | omega | (simp at this; omega)
  have o0_3 : w3.cell? ⟨w2.heap.size, 0, none⟩ = some (.int .i64 m) := carry hb3 (by go_simp)
  have o1_3 : w3.cell? ⟨w2.heap.size, 1, none⟩ = some (.int .i64 e) := carry hb3 (by go_simp)
  have oz_3 : w2.heap.size < w3.heap.size := by have := hb3.size; first | omega | (simp at this; omega)
  have HB_3 := Lib.hid ((by repeat (first | exact HB_2.out | refine Below.drew ?_ | refine Below.setCell ?_ (by first | omega | (simp; done) | (simp; omega)) _ | refine Below.alloc ?_ (by first | omega | (simp; done) | (simp; omega)) _) : Below w.heap.size w _).trans (hb3.mono (by first | omega | (simp; done) | (simp; omega))))
  have nz_3 : w.heap.size ≤ w3.heap.size := HB_3.out.size
  clear hb3 x0_2 x1_2 HB_2
  go_wp2_with fail
  refine (HM.out _).mono ?_
  rintro e w4 ⟨rfl, hb4⟩
  have x0_4 : w4.cell? ⟨w1.heap.size, 0, none⟩ = some (.int .i64 m) := carry hb4 (by go_simp)
  have x1_4 : w4.cell? ⟨w1.heap.size, 1, none⟩ = some (.int .i64 e) := carry hb4 (by go_simp)
  have xz_4 : w1.heap.size < w4.heap.size := by have := hb4.size; first | omega | (simp at this; omega)
  have o0_4 : w4.cell? ⟨w2.heap.size, 0, none⟩ = some (.int .i64 m) := carry hb4 (by go_simp)
  have o1_4 : w4.cell? ⟨w2.heap.size, 1, none⟩ = some (.int .i64 e) := carry hb4 (by go_simp)
  have oz_4 : w2.heap.size < w4.heap.size := by have := hb4.size; first | omega | (simp at this; omega)
  have s0_4 : w4.cell? ⟨w3.heap.size, 0, none⟩ = some (.int .i64 sm) := carry hb4 (by go_simp)
  have s1_4 : w4.cell? ⟨w3.heap.size, 1, none⟩ = some (.int .i64 se) := carry hb4 (by go_simp)
  have sz_4 : w3.heap.size < w4.heap.size := by have := hb4.size; first | omega | (simp at this; omega)
  have HB_4 := Lib.hid ((by repeat (first | exact HB_3.out | refine Below.drew ?_ | refine Below.setCell ?_ (by first | omega | (simp; done) | (simp; omega)) _ | refine Below.alloc ?_ (by first | omega | (simp; done) | (simp; omega)) _) : Below w.heap.size w _).trans (hb4.mono (by first | omega | (simp; done) | (simp; omega))))
  have nz_4 : w.heap.size ≤ w4.heap.size := HB_4.out.size
  clear hb4 x0_3 x1_3 o0_3 o1_3 HB_3
  go_wp2_with fail
  refine (HI1.out _).mono ?_
  rintro e w5 ⟨rfl, hb5⟩
  have x0_5 : w5.cell? ⟨w1.heap.size, 0, none⟩ = some (.int .i64 m) := carry hb5 (by go_simp)
  have x1_5 : w5.cell? ⟨w1.heap.size, 1, none⟩ = some (.int .i64 e) := carry hb5 (by go_simp)
  have xz_5 : w1.heap.size < w5.heap.size := by have := hb5.size; first | omega | (simp at this; omega)
  have o0_5 : w5.cell? ⟨w2.heap.size, 0, none⟩ = some (.int .i64 m) := carry hb5 (by go_simp)
  have o1_5 : w5.cell? ⟨w2.heap.size, 1, none⟩ = some (.int .i64 e) := carry hb5 (by go_simp)
  have oz_5 : w2.heap.size < w5.heap.size := by have := hb5.size; first | omega | (simp at this; omega)
  have s0_5 : w5.cell? ⟨w3.heap.size, 0, none⟩ = some (.int .i64 sm) := carry hb5 (by go_simp)
  have s1_5 : w5.cell? ⟨w3.heap.size, 1, none⟩ = some (.int .i64 se) := carry hb5 (by go_simp)
  have sz_5 : w3.heap.size < w5.heap.size := by have := hb5.size; first | omega | (simp at this; omega)
  have p0_5 : w5.cell? ⟨w4.heap.size, 0, none⟩ = some (.int .i64 sm) := carry hb5 (by go_simp)
  have p1_5 : w5.cell? ⟨w4.heap.size, 1, none⟩ = some (.int .i64 se) := carry hb5 (by go_simp)
  have pz_5 : w4.heap.size < w5.heap.size := by have := hb5.size; first | omega | (simp at this; omega)
  have HB_5 := Lib.hid ((by repeat (first | exact HB_4.out | refine Below.drew ?_ | refine Below.setCell ?_ (by first | omega | (simp; done) | (simp; omega)) _ | refine Below.alloc ?_ (by first | omega | (simp; done) | (simp; omega)) _) : Below w.heap.size w _).trans (hb5.mono (by first | omega | (simp; done) | (simp; omega))))
  have nz_5 : w.heap.size ≤ w5.heap.size := HB_5.out.size
  clear hb5 x0_4 x1_4 o0_4 o1_4 s0_4 s1_4 HB_4
  go_wp2_with fail
  refine (HEq.out _).mono ?_
  rintro e w6 ⟨rfl, hb6⟩
  have x0_6 : w6.cell? ⟨w1.heap.size, 0, none⟩ = some (.int .i64 m) := carry hb6 (by go_simp)
  have x1_6 : w6.cell? ⟨w1.heap.size, 1, none⟩ = some (.int .i64 e) := carry hb6 (by go_simp)
  have xz_6 : w1.heap.size < w6.heap.size := by have := hb6.size; first | omega | (simp at this; omega)
  have o0_6 : w6.cell? ⟨w2.heap.size, 0, none⟩ = some (.int .i64 m) := carry hb6 (by go_simp)
  have o1_6 : w6.cell? ⟨w2.heap.size, 1, none⟩ = some (.int .i64 e) := carry hb6 (by go_simp)
  have oz_6 : w2.heap.size < w6.heap.size := by have := hb6.size; first | omega | (simp at this; omega)
  have s0_6 : w6.cell? ⟨w3.heap.size, 0, none⟩ = some (.int .i64 sm) := carry hb6 (by go_simp)
  have s1_6 : w6.cell? ⟨w3.heap.size, 1, none⟩ = some (.int .i64 se) := carry hb6 (by go_simp)
  have sz_6 : w3.heap.size < w6.heap.size := by have := hb6.size; first | omega | (simp at this; omega)
  have p0_6 : w6.cell? ⟨w4.heap.size, 0, none⟩ = some (.int .i64 sm) := carry hb6 (by go_simp)
  have p1_6 : w6.cell? ⟨w4.heap.size, 1, none⟩ = some (.int .i64 se) := carry hb6 (by go_simp)
  have pz_6 : w4.heap.size < w6.heap.size := by have := hb6.size; first | omega | (simp at this; omega)
  have HB_6 := Lib.hid ((by repeat (first | exact HB_5.out | refine Below.drew ?_ | refine Below.setCell ?_ (by first | omega | (simp; done) | (simp; omega)) _ | refine Below.alloc ?_ (by first | omega | (simp; done) | (simp; omega)) _) : Below w.heap.size w _).trans (hb6.mono (by first | omega | (simp; done) | (simp; omega))))
  have nz_6 : w.heap.size ≤ w6.heap.size := HB_6.out.size
  clear hb6 x0_5 x1_5 o0_5 o1_5 s0_5 s1_5 p0_5 p1_5 HB_5
  go_wp2_with fail
  refine (HF2.out _).mono ?_
  rintro e w7 ⟨rfl, hb7⟩
  have x0_7 : w7.cell? ⟨w1.heap.size, 0, none⟩ = some (.int .i64 m) := carry hb7 (by go_simp)
  have x1_7 : w7.cell? ⟨w1.heap.size, 1, none⟩ = some (.int .i64 e) := carry hb7 (by go_simp)
  have xz_7 : w1.heap.size < w7.heap.size := by have := hb7.size; first | omega | (simp at this; omega)
  have p0_7 : w7.cell? ⟨w4.heap.size, 0, none⟩ = some (.int .i64 sm) := carry hb7 (by go_simp)
  have p1_7 : w7.cell? ⟨w4.heap.size, 1, none⟩ = some (.int .i64 se) := carry hb7 (by go_simp)
  have pz_7 : w4.heap.size < w7.heap.size := by have := hb7.size; first | omega | (simp at this; omega)
  have HB_7 := Lib.hid ((by repeat (first | exact HB_6.out | refine Below.drew ?_ | refine Below.setCell ?_ (by first | omega | (simp; done) | (simp; omega)) _ | refine Below.alloc ?_ (by first | omega | (simp; done) | (simp; omega)) _) : Below w.heap.size w _).trans (hb7.mono (by first | omega | (simp; done) | (simp; omega))))
  have nz_7 : w.heap.size ≤ w7.heap.size := HB_7.out.size
  clear hb7 x0_6 x1_6 o0_6 o1_6 s0_6 s1_6 p0_6 p1_6 HB_6
  go_wp2_with fail
  refine (HPn.out _).mono ?_
  rintro e w8 ⟨rfl, hb8⟩
  have x0_8 : w8.cell? ⟨w1.heap.size, 0, none⟩ = some (.int .i64 m) := carry hb8 (by go_simp)
  have x1_8 : w8.cell? ⟨w1.heap.size, 1, none⟩ = some (.int .i64 e) := carry hb8 (by go_simp)
  have xz_8 : w1.heap.size < w8.heap.size := by have := hb8.size; first | omega | (simp at this; omega)
  have p0_8 : w8.cell? ⟨w4.heap.size, 0, none⟩ = some (.int .i64 sm) := carry hb8 (by go_simp)
  have p1_8 : w8.cell? ⟨w4.heap.size, 1, none⟩ = some (.int .i64 se) := carry hb8 (by go_simp)
  have pz_8 : w4.heap.size < w8.heap.size := by have := hb8.size; first | omega | (simp at this; omega)
  have HB_8 := Lib.hid ((by repeat (first | exact HB_7.out | refine Below.drew ?_ | refine Below.setCell ?_ (by first | omega | (simp; done) | (simp; omega)) _ | refine Below.alloc ?_ (by first | omega | (simp; done) | (simp; omega)) _) : Below w.heap.size w _).trans (hb8.mono (by first | omega | (simp; done) | (simp; omega))))
  have nz_8 : w.heap.size ≤ w8.heap.size := HB_8.out.size
  clear hb8 x0_7 x1_7 p0_7 p1_7 HB_7
  go_upto_region 8 with fail
  generalize hW : w8.alloc _ = w9
  have x0_9 : w9.cell? ⟨w1.heap.size, 0, none⟩ = some (.int .i64 m) := by rw [← hW]; clear hW; go_simp
  have x1_9 : w9.cell? ⟨w1.heap.size, 1, none⟩ = some (.int .i64 e) := by rw [← hW]; clear hW; go_simp
  have xz_9 : w1.heap.size < w9.heap.size := by rw [← hW]; clear hW; simp <;> omega
  have p0_9 : w9.cell? ⟨w4.heap.size, 0, none⟩ = some (.int .i64 sm) := by rw [← hW]; clear hW; go_simp
  have p1_9 : w9.cell? ⟨w4.heap.size, 1, none⟩ = some (.int .i64 se) := by rw [← hW]; clear hW; go_simp
  have pz_9 : w4.heap.size < w9.heap.size := by rw [← hW]; clear hW; simp <;> omega
  have t0_9 : w9.cell? ⟨w8.heap.size, 0, none⟩ = some (.int .i64 pm) := by rw [← hW]; clear hW; go_simp
  have t1_9 : w9.cell? ⟨w8.heap.size, 1, none⟩ = some (.int .i64 pe) := by rw [← hW]; clear hW; go_simp
  have tz_9 : w8.heap.size < w9.heap.size := by rw [← hW]; clear hW; simp <;> omega
  have HB_9 := Lib.hid ((by rw [← hW]; clear hW; exact Below.alloc HB_8.out (by have := HB_8.out.size; omega) _) : Below w.heap.size w w9)
  clear hW HB_8 x0_8 x1_8 p0_8 p1_8
  have nz_9 : w.heap.size ≤ w9.heap.size := HB_9.out.size
  go_cut [70] from 57 to 70 (fun s70 wx => s70 = .bool false ∧ wx.cell? ⟨w1.heap.size, 0, none⟩ = some (.int .i64 m) ∧ wx.cell? ⟨w1.heap.size, 1, none⟩ = some (.int .i64 e) ∧ w1.heap.size < wx.heap.size ∧ wx.cell? ⟨w4.heap.size, 0, none⟩ = some (.int .i64 sm) ∧ wx.cell? ⟨w4.heap.size, 1, none⟩ = some (.int .i64 se) ∧ w4.heap.size < wx.heap.size ∧ Below w.heap.size w wx)
  case first =>
    by_cases h1 : -126 ≤ k
    · by_cases h2 : k ≤ 173
      · have HTx := HTw.out ⟨h1, h2⟩
        have K0 := Lib.hid (Below.refl w9.heap.size w9)
        have SK := Lib.hid (show ∀ wx, Below w9.heap.size w9 wx → wx.cell? ⟨w1.heap.size, 0, none⟩ = some (.int .i64 m) ∧ wx.cell? ⟨w1.heap.size, 1, none⟩ = some (.int .i64 e) ∧ w1.heap.size < wx.heap.size ∧ wx.cell? ⟨w4.heap.size, 0, none⟩ = some (.int .i64 sm) ∧ wx.cell? ⟨w4.heap.size, 1, none⟩ = some (.int .i64 se) ∧ w4.heap.size < wx.heap.size ∧ wx.cell? ⟨w8.heap.size, 0, none⟩ = some (.int .i64 pm) ∧ wx.cell? ⟨w8.heap.size, 1, none⟩ = some (.int .i64 pe) ∧ w8.heap.size < wx.heap.size ∧ Below w9.heap.size w9 wx from fun wx h => ⟨carry h x0_9, carry h x1_9, Nat.lt_of_lt_of_le xz_9 h.size, carry h p0_9, carry h p1_9, Nat.lt_of_lt_of_le pz_9 h.size, carry h t0_9, carry h t1_9, Nat.lt_of_lt_of_le tz_9 h.size, h⟩)
        go_wp2_with fail
        go_region_held3 (fun wx => wx.cell? ⟨w1.heap.size, 0, none⟩ = some (.int .i64 m) ∧ wx.cell? ⟨w1.heap.size, 1, none⟩ = some (.int .i64 e) ∧ w1.heap.size < wx.heap.size ∧ wx.cell? ⟨w4.heap.size, 0, none⟩ = some (.int .i64 sm) ∧ wx.cell? ⟨w4.heap.size, 1, none⟩ = some (.int .i64 se) ∧ w4.heap.size < wx.heap.size ∧ wx.cell? ⟨w8.heap.size, 0, none⟩ = some (.int .i64 pm) ∧ wx.cell? ⟨w8.heap.size, 1, none⟩ = some (.int .i64 pe) ∧ w8.heap.size < wx.heap.size ∧ Below w9.heap.size w9 wx) (first | (go_keep; done) | exact SK.out _ (by first | with_reducible assumption | with_reducible exact K0.out | with_reducible exact K0.out.drew | with_reducible exact Below.drew (by with_reducible assumption)))
          (first
            | (go_at_call 36; ((with_reducible refine (HTx.1 _).mono ?_); rintro r wq ⟨rfl, hbq⟩; have qb : Below w9.heap.size w9 wq := Below.trans (by first | with_reducible assumption | with_reducible exact K0.out | with_reducible exact K0.out.drew | with_reducible exact Below.drew (by with_reducible assumption)) (hbq.mono (Below.size (by first | with_reducible assumption | with_reducible exact K0.out | with_reducible exact K0.out.drew | with_reducible exact Below.drew (by with_reducible assumption))))))
            | (go_at_call 8; ((with_reducible refine (HTx.2 _).mono ?_); rintro r wq ⟨rfl, hbq⟩; have qb : Below w9.heap.size w9 wq := Below.trans (by first | with_reducible assumption | with_reducible exact K0.out | with_reducible exact K0.out.drew | with_reducible exact Below.drew (by with_reducible assumption)) (hbq.mono (Below.size (by first | with_reducible assumption | with_reducible exact K0.out | with_reducible exact K0.out.drew | with_reducible exact Below.drew (by with_reducible assumption)))))))
        rename _ ∧ _ ∧ _ ∧ _ ∧ _ ∧ _ ∧ _ ∧ _ ∧ _ ∧ Below w9.heap.size w9 _ => hS
        obtain ⟨w10, rfl⟩ : ∃ x, x = wq := ⟨_, rfl⟩
        obtain ⟨x0_10, x1_10, xz_10, p0_10, p1_10, pz_10, t0_10, t1_10, tz_10, xb⟩ := hS
        have HB_10 := Lib.hid (HB_9.out.trans (xb.mono HB_9.out.size))
        clear xb HB_9 K0 SK x0_9 x1_9 p0_9 p1_9 t0_9 t1_9
        have nz_10 : w.heap.size ≤ w10.heap.size := HB_10.out.size
        go_wp2_with fail
        go_meet
        case rel => exact ⟨rfl, x0_10, x1_10, xz_10, p0_10, p1_10, pz_10, HB_10.out⟩
      · have h3 : decide (k ≤ 173) = false := by simpa using h2
        go_quiet (fail)
        go_wp2_with fail
        go_meet
        case rel => exact ⟨rfl, x0_9, x1_9, xz_9, p0_9, p1_9, pz_9, belowN HB_9.out _⟩
    · have h3 : decide (-126 ≤ k) = false := by simpa using h1
      go_quiet (fail)
      go_wp2_with fail
      go_meet
      case rel => exact ⟨rfl, x0_9, x1_9, xz_9, p0_9, p1_9, pz_9, belowN HB_9.out _⟩
  case rest =>
  clear HB_9 x0_9 x1_9 p0_9 p1_9 t0_9 t1_9 xz_9 pz_9 tz_9
  obtain ⟨w10, rfl⟩ : ∃ x, x = wc := ⟨_, rfl⟩
  obtain ⟨rfl, x0_10, x1_10, xz_10, p0_10, p1_10, pz_10, hb9⟩ := hcut
  have HB_10 := Lib.hid hb9
  clear hb9
  have nz_10 : w.heap.size ≤ w10.heap.size := HB_10.out.size
  go_wp2_with fail
  refine (HNx.out _).mono ?_
  rintro e w11 ⟨rfl, hb11⟩
  have x0_11 : w11.cell? ⟨w1.heap.size, 0, none⟩ = some (.int .i64 m) := carry hb11 (by go_simp)
  have x1_11 : w11.cell? ⟨w1.heap.size, 1, none⟩ = some (.int .i64 e) := carry hb11 (by go_simp)
  have xz_11 : w1.heap.size < w11.heap.size := by have := hb11.size; first | omega | (simp at this; omega)
  have p0_11 : w11.cell? ⟨w4.heap.size, 0, none⟩ = some (.int .i64 sm) := carry hb11 (by go_simp)
  have p1_11 : w11.cell? ⟨w4.heap.size, 1, none⟩ = some (.int .i64 se) := carry hb11 (by go_simp)
  have pz_11 : w4.heap.size < w11.heap.size := by have := hb11.size; first | omega | (simp at this; omega)
  have HB_11 := Lib.hid ((by repeat (first | exact HB_10.out | refine Below.drew ?_ | refine Below.setCell ?_ (by first | omega | (simp; done) | (simp; omega)) _ | refine Below.alloc ?_ (by first | omega | (simp; done) | (simp; omega)) _) : Below w.heap.size w _).trans (hb11.mono (by first | omega | (simp; done) | (simp; omega))))
  have nz_11 : w.heap.size ≤ w11.heap.size := HB_11.out.size
  clear hb11 x0_10 x1_10 p0_10 p1_10 HB_10
  go_wp2_with fail
  refine (HPx.out _).mono ?_
  rintro e w12 ⟨rfl, hb12⟩
  have x0_12 : w12.cell? ⟨w1.heap.size, 0, none⟩ = some (.int .i64 m) := carry hb12 (by go_simp)
  have x1_12 : w12.cell? ⟨w1.heap.size, 1, none⟩ = some (.int .i64 e) := carry hb12 (by go_simp)
  have xz_12 : w1.heap.size < w12.heap.size := by have := hb12.size; first | omega | (simp at this; omega)
  have p0_12 : w12.cell? ⟨w4.heap.size, 0, none⟩ = some (.int .i64 sm) := carry hb12 (by go_simp)
  have p1_12 : w12.cell? ⟨w4.heap.size, 1, none⟩ = some (.int .i64 se) := carry hb12 (by go_simp)
  have pz_12 : w4.heap.size < w12.heap.size := by have := hb12.size; first | omega | (simp at this; omega)
  have n0_12 : w12.cell? ⟨w11.heap.size, 0, none⟩ = some (.int .i64 mm) := carry hb12 (by go_simp)
  have n1_12 : w12.cell? ⟨w11.heap.size, 1, none⟩ = some (.int .i64 e) := carry hb12 (by go_simp)
  have nz_12 : w11.heap.size < w12.heap.size := by have := hb12.size; first | omega | (simp at this; omega)
  have HB_12 := Lib.hid ((by repeat (first | exact HB_11.out | refine Below.drew ?_ | refine Below.setCell ?_ (by first | omega | (simp; done) | (simp; omega)) _ | refine Below.alloc ?_ (by first | omega | (simp; done) | (simp; omega)) _) : Below w.heap.size w _).trans (hb12.mono (by first | omega | (simp; done) | (simp; omega))))
  have nz_12 : w.heap.size ≤ w12.heap.size := HB_12.out.size
  clear hb12 x0_11 x1_11 p0_11 p1_11 HB_11
  go_wp2_with fail
  refine (HPm.out _).mono ?_
  rintro e w13 ⟨rfl, hb13⟩
  have x0_13 : w13.cell? ⟨w1.heap.size, 0, none⟩ = some (.int .i64 m) := carry hb13 (by go_simp)
  have x1_13 : w13.cell? ⟨w1.heap.size, 1, none⟩ = some (.int .i64 e) := carry hb13 (by go_simp)
  have xz_13 : w1.heap.size < w13.heap.size := by have := hb13.size; first | omega | (simp at this; omega)
  have p0_13 : w13.cell? ⟨w4.heap.size, 0, none⟩ = some (.int .i64 sm) := carry hb13 (by go_simp)
  have p1_13 : w13.cell? ⟨w4.heap.size, 1, none⟩ = some (.int .i64 se) := carry hb13 (by go_simp)
  have pz_13 : w4.heap.size < w13.heap.size := by have := hb13.size; first | omega | (simp at this; omega)
  have n0_13 : w13.cell? ⟨w11.heap.size, 0, none⟩ = some (.int .i64 mm) := carry hb13 (by go_simp)
  have n1_13 : w13.cell? ⟨w11.heap.size, 1, none⟩ = some (.int .i64 e) := carry hb13 (by go_simp)
  have nz_13 : w11.heap.size < w13.heap.size := by have := hb13.size; first | omega | (simp at this; omega)
  have a0_13 : w13.cell? ⟨w12.heap.size, 0, none⟩ = some (.int .i64 am) := carry hb13 (by go_simp)
  have a1_13 : w13.cell? ⟨w12.heap.size, 1, none⟩ = some (.int .i64 ae) := carry hb13 (by go_simp)
  have az_13 : w12.heap.size < w13.heap.size := by have := hb13.size; first | omega | (simp at this; omega)
  have HB_13 := Lib.hid ((by repeat (first | exact HB_12.out | refine Below.drew ?_ | refine Below.setCell ?_ (by first | omega | (simp; done) | (simp; omega)) _ | refine Below.alloc ?_ (by first | omega | (simp; done) | (simp; omega)) _) : Below w.heap.size w _).trans (hb13.mono (by first | omega | (simp; done) | (simp; omega))))
  have nz_13 : w.heap.size ≤ w13.heap.size := HB_13.out.size
  clear hb13 x0_12 x1_12 p0_12 p1_12 n0_12 n1_12 HB_12
  go_upto_if 97 with fail
  generalize hW : w13.alloc _ = w14
  have x0_14 : w14.cell? ⟨w1.heap.size, 0, none⟩ = some (.int .i64 m) := by rw [← hW]; clear hW; go_simp
  have x1_14 : w14.cell? ⟨w1.heap.size, 1, none⟩ = some (.int .i64 e) := by rw [← hW]; clear hW; go_simp
  have xz_14 : w1.heap.size < w14.heap.size := by rw [← hW]; clear hW; simp <;> omega
  have p0_14 : w14.cell? ⟨w4.heap.size, 0, none⟩ = some (.int .i64 sm) := by rw [← hW]; clear hW; go_simp
  have p1_14 : w14.cell? ⟨w4.heap.size, 1, none⟩ = some (.int .i64 se) := by rw [← hW]; clear hW; go_simp
  have pz_14 : w4.heap.size < w14.heap.size := by rw [← hW]; clear hW; simp <;> omega
  have a0_14 : w14.cell? ⟨w12.heap.size, 0, none⟩ = some (.int .i64 am) := by rw [← hW]; clear hW; go_simp
  have a1_14 : w14.cell? ⟨w12.heap.size, 1, none⟩ = some (.int .i64 ae) := by rw [← hW]; clear hW; go_simp
  have az_14 : w12.heap.size < w14.heap.size := by rw [← hW]; clear hW; simp <;> omega
  have b0_14 : w14.cell? ⟨w13.heap.size, 0, none⟩ = some (.int .i64 bm) := by rw [← hW]; clear hW; go_simp
  have bf0_14 : w14.frozen? ⟨w13.heap.size, 0, none⟩ = false := by rw [← hW]; clear hW; go_simp
  have b1_14 : w14.cell? ⟨w13.heap.size, 1, none⟩ = some (.int .i64 ae) := by rw [← hW]; clear hW; go_simp
  have bf1_14 : w14.frozen? ⟨w13.heap.size, 1, none⟩ = false := by rw [← hW]; clear hW; go_simp
  have bz_14 : w13.heap.size < w14.heap.size := by rw [← hW]; clear hW; simp <;> omega
  have HB_14 := Lib.hid ((by rw [← hW]; clear hW; exact Below.alloc HB_13.out (by have := HB_13.out.size; omega) _) : Below w.heap.size w w14)
  clear hW HB_13 x0_13 x1_13 p0_13 p1_13 n0_13 n1_13 a0_13 a1_13
  have nz_14 : w.heap.size ≤ w14.heap.size := HB_14.out.size
  go_cut [7] from 95 to 102 (fun s7 wx => s7 = .int .i64 0 ∧ wx.cell? ⟨w1.heap.size, 0, none⟩ = some (.int .i64 m) ∧ wx.cell? ⟨w1.heap.size, 1, none⟩ = some (.int .i64 e) ∧ w1.heap.size < wx.heap.size ∧ wx.cell? ⟨w4.heap.size, 0, none⟩ = some (.int .i64 sm) ∧ wx.cell? ⟨w4.heap.size, 1, none⟩ = some (.int .i64 se) ∧ w4.heap.size < wx.heap.size ∧ wx.cell? ⟨w12.heap.size, 0, none⟩ = some (.int .i64 am) ∧ wx.cell? ⟨w12.heap.size, 1, none⟩ = some (.int .i64 ae) ∧ w12.heap.size < wx.heap.size ∧ wx.cell? ⟨w13.heap.size, 0, none⟩ = some (.int .i64 am) ∧ wx.cell? ⟨w13.heap.size, 1, none⟩ = some (.int .i64 ae) ∧ w13.heap.size < wx.heap.size ∧ Below w.heap.size w wx)
  case first =>
    by_cases hod : (k.tmod 2 != 0) = true
    · skip
      go_wp2_with fail
      refine (HOd.out hod _).mono ?_
      rintro e w15 ⟨rfl, hb15⟩
      have x0_15 : w15.cell? ⟨w1.heap.size, 0, none⟩ = some (.int .i64 m) := carry hb15 (by go_simp)
      have x1_15 : w15.cell? ⟨w1.heap.size, 1, none⟩ = some (.int .i64 e) := carry hb15 (by go_simp)
      have xz_15 : w1.heap.size < w15.heap.size := by have := hb15.size; first | omega | (simp at this; omega)
      have p0_15 : w15.cell? ⟨w4.heap.size, 0, none⟩ = some (.int .i64 sm) := carry hb15 (by go_simp)
      have p1_15 : w15.cell? ⟨w4.heap.size, 1, none⟩ = some (.int .i64 se) := carry hb15 (by go_simp)
      have pz_15 : w4.heap.size < w15.heap.size := by have := hb15.size; first | omega | (simp at this; omega)
      have a0_15 : w15.cell? ⟨w12.heap.size, 0, none⟩ = some (.int .i64 am) := carry hb15 (by go_simp)
      have a1_15 : w15.cell? ⟨w12.heap.size, 1, none⟩ = some (.int .i64 ae) := carry hb15 (by go_simp)
      have az_15 : w12.heap.size < w15.heap.size := by have := hb15.size; first | omega | (simp at this; omega)
      have b0_15 : w15.cell? ⟨w13.heap.size, 0, none⟩ = some (.int .i64 bm) := carry hb15 (by go_simp)
      have bf0_15 : w15.frozen? ⟨w13.heap.size, 0, none⟩ = false := carryF hb15 (v := .int .i64 bm) (by go_simp) (by go_simp)
      have b1_15 : w15.cell? ⟨w13.heap.size, 1, none⟩ = some (.int .i64 ae) := carry hb15 (by go_simp)
      have bf1_15 : w15.frozen? ⟨w13.heap.size, 1, none⟩ = false := carryF hb15 (v := .int .i64 ae) (by go_simp) (by go_simp)
      have bz_15 : w13.heap.size < w15.heap.size := by have := hb15.size; first | omega | (simp at this; omega)
      have HB_15 := Lib.hid ((by repeat (first | exact HB_14.out | refine Below.drew ?_ | refine Below.setCell ?_ (by first | omega | (simp; done) | (simp; omega)) _ | refine Below.alloc ?_ (by first | omega | (simp; done) | (simp; omega)) _) : Below w.heap.size w _).trans (hb15.mono (by first | omega | (simp; done) | (simp; omega))))
      have nz_15 : w.heap.size ≤ w15.heap.size := HB_15.out.size
      clear hb15 x0_14 x1_14 p0_14 p1_14 a0_14 a1_14 b0_14 bf0_14 b1_14 bf1_14 HB_14
      go_wp2_with fail
      generalize hW : (w15.setCell _ _).setCell _ _ = wy
      go_meet
      case rel => exact ⟨rfl, (show wy.cell? ⟨w1.heap.size, 0, none⟩ = some (.int .i64 m) by rw [← hW]; clear hW; go_simp), (show wy.cell? ⟨w1.heap.size, 1, none⟩ = some (.int .i64 e) by rw [← hW]; clear hW; go_simp), (show w1.heap.size < wy.heap.size by rw [← hW]; clear hW; simp <;> omega), (show wy.cell? ⟨w4.heap.size, 0, none⟩ = some (.int .i64 sm) by rw [← hW]; clear hW; go_simp), (show wy.cell? ⟨w4.heap.size, 1, none⟩ = some (.int .i64 se) by rw [← hW]; clear hW; go_simp), (show w4.heap.size < wy.heap.size by rw [← hW]; clear hW; simp <;> omega), (show wy.cell? ⟨w12.heap.size, 0, none⟩ = some (.int .i64 am) by rw [← hW]; clear hW; go_simp), (show wy.cell? ⟨w12.heap.size, 1, none⟩ = some (.int .i64 ae) by rw [← hW]; clear hW; go_simp), (show w12.heap.size < wy.heap.size by rw [← hW]; clear hW; simp <;> omega), (show wy.cell? ⟨w13.heap.size, 0, none⟩ = some (.int .i64 am) by rw [← hW]; clear hW; go_simp), (show wy.cell? ⟨w13.heap.size, 1, none⟩ = some (.int .i64 ae) by rw [← hW]; clear hW; go_simp), (show w13.heap.size < wy.heap.size by rw [← hW]; clear hW; simp <;> omega), (show Below w.heap.size w wy by rw [← hW]; clear hW; repeat (first | exact HB_15.out | refine Below.setCell ?_ (by first | omega | (simp; done) | (simp; omega)) _))⟩
    · have hev : (k.tmod 2 != 0) = false := by simpa using hod
      obtain rfl := HEv.out hev
      go_wp2_with fail
      go_meet
      case rel => exact ⟨rfl, x0_14, x1_14, xz_14, p0_14, p1_14, pz_14, a0_14, a1_14, az_14, b0_14, b1_14, bz_14, HB_14.out⟩
  case rest =>
  clear HB_14 x0_14 x1_14 p0_14 p1_14 a0_14 a1_14 b0_14 bf0_14 b1_14 bf1_14 xz_14 pz_14 az_14 bz_14
  obtain ⟨w15, rfl⟩ : ∃ x, x = wc := ⟨_, rfl⟩
  obtain ⟨rfl, x0_15, x1_15, xz_15, p0_15, p1_15, pz_15, a0_15, a1_15, az_15, b0_15, b1_15, bz_15, hb9⟩ := hcut
  have HB_15 := Lib.hid hb9
  clear hb9
  have nz_15 : w.heap.size ≤ w15.heap.size := HB_15.out.size
  go_wp2_with fail
  refine (HSan.out _ (by repeat (first | exact HB_15.out | refine Below.drew ?_ | refine Below.setCell ?_ (by first | omega | (simp; done) | (simp; omega)) _ | refine Below.alloc ?_ (by first | omega | (simp; done) | (simp; omega)) _))).mono ?_
  rintro e w16 ⟨rfl, hb16⟩
  have a0_16 : w16.cell? ⟨w12.heap.size, 0, none⟩ = some (.int .i64 am) := carry hb16 (by go_simp)
  have a1_16 : w16.cell? ⟨w12.heap.size, 1, none⟩ = some (.int .i64 ae) := carry hb16 (by go_simp)
  have az_16 : w12.heap.size < w16.heap.size := by have := hb16.size; first | omega | (simp at this; omega)
  have b0_16 : w16.cell? ⟨w13.heap.size, 0, none⟩ = some (.int .i64 am) := carry hb16 (by go_simp)
  have b1_16 : w16.cell? ⟨w13.heap.size, 1, none⟩ = some (.int .i64 ae) := carry hb16 (by go_simp)
  have bz_16 : w13.heap.size < w16.heap.size := by have := hb16.size; first | omega | (simp at this; omega)
  have HB_16 := Lib.hid ((by repeat (first | exact HB_15.out | refine Below.drew ?_ | refine Below.setCell ?_ (by first | omega | (simp; done) | (simp; omega)) _ | refine Below.alloc ?_ (by first | omega | (simp; done) | (simp; omega)) _) : Below w.heap.size w _).trans (hb16.mono (by first | omega | (simp; done) | (simp; omega))))
  have nz_16 : w.heap.size ≤ w16.heap.size := HB_16.out.size
  clear hb16 x0_15 x1_15 p0_15 p1_15 a0_15 a1_15 b0_15 b1_15 HB_15
  go_wp2_with fail
  go_ret
  exact ⟨rfl, by repeat (first | exact HB_16.out | refine Below.drew ?_ | refine Below.setCell ?_ (by first | omega | (simp; done) | (simp; omega)) _ | refine Below.alloc ?_ (by first | omega | (simp; done) | (simp; omega)) _)⟩

set_option maxRecDepth 100000 in
set_option maxHeartbeats 8000000 in
theorem w_small (i0 k m e sm se pm pe mm am ae ax bm c rm qm qe t : Int) (w : World) (HAt : Hid (∀ W : World, Calls Tryz.prog 32 #[.int .i64 i0] W fun r w' => r = .returned (realV m e) ∧ Below W.heap.size W w')) (HP1 : Hid (∀ W : World, Calls Tryz.prog 37 #[realV m e, .int .i64 1] W fun r w' => r = .returned (rE m e 0) ∧ Below W.heap.size W w')) (HP2 : Hid (∀ W : World, Calls Tryz.prog 37 #[realV m e, .int .i64 2] W fun r w' => r = .returned (rE sm se 0) ∧ Below W.heap.size W w')) (HM : Hid (∀ W : World, Calls Tryz.prog 25 #[realV m e, realV m e] W fun r w' => r = .returned (rE sm se 0) ∧ Below W.heap.size W w')) (HI1 : Hid (∀ W : World, Calls Tryz.prog 8 #[realV m e, .int .i64 0, realV m e] W fun r w' => r = .returned (.bool true) ∧ Below W.heap.size W w')) (HEq : Hid (∀ W : World, Calls Tryz.prog 34 #[realV sm se, .int .i64 0, realV sm se, .int .i64 0] W fun r w' => r = .returned (.bool true) ∧ Below W.heap.size W w')) (HF2 : Hid (∀ W : World, Calls Tryz.prog 10 #[.int .i64 2] W fun r w' => r = .returned (realV 8388608 (-22)) ∧ Below W.heap.size W w')) (HPn : Hid (∀ W : World, Calls Tryz.prog 37 #[realV 8388608 (-22), .int .i64 k] W fun r w' => r = .returned (rE pm pe t) ∧ Below W.heap.size W w')) (HTw : Hid (-126 ≤ k ∧ k ≤ 173 → (∀ W : World, Calls Tryz.prog 36 #[.int .i64 k] W fun r w' => r = .returned (realV pm pe) ∧ Below W.heap.size W w') ∧ (∀ W : World, Calls Tryz.prog 8 #[realV pm pe, .int .i64 t, realV pm pe] W fun r w' => r = .returned (.bool true) ∧ Below W.heap.size W w'))) (HNx : Hid (∀ W : World, Calls Tryz.prog 16 #[realV m e] W fun r w' => r = .returned (rE mm e 0) ∧ Below W.heap.size W w')) (HPx : Hid (∀ W : World, Calls Tryz.prog 37 #[realV m e, .int .i64 k] W fun r w' => r = .returned (rE am ae ax) ∧ Below W.heap.size W w')) (HPm : Hid (∀ W : World, Calls Tryz.prog 37 #[realV mm e, .int .i64 k] W fun r w' => r = .returned (rE bm ae ax) ∧ Below W.heap.size W w')) (HOd : Hid ((k.tmod 2 != 0) = true → ∀ W : World, Calls Tryz.prog 16 #[realV bm ae] W fun r w' => r = .returned (rE am ae 0) ∧ Below W.heap.size W w')) (HEv : Hid ((k.tmod 2 != 0) = false → bm = am)) (HSan : Hid (∀ W, Below w.heap.size w W → Calls Tryz.prog 20 #[] W fun r W' => r = .returned (.bool true) ∧ Below W.heap.size W W')) (HT1 : Hid (∀ W : World, Calls Tryz.prog 36 #[.int .i64 (-100)] W fun r w' => r = .returned (realV 8388608 (-123)) ∧ Below W.heap.size W w')) (HC : Hid (∀ W : World, Calls Tryz.prog 19 #[realV sm se, realV 8388608 (-123)] W fun r w' => r = .returned (iE c 0) ∧ Below W.heap.size W w')) (HAb : Hid (∀ W : World, Calls Tryz.prog 17 #[realV m e] W fun r w' => r = .returned (rE rm e 0) ∧ Below W.heap.size W w')) (HSq : Hid (∀ W : World, Calls Tryz.prog 27 #[realV sm se] W fun r w' => r = .returned (rE qm qe 0) ∧ Below W.heap.size W w')) (hc : c < 0)  :
    Calls Tryz.prog 6 #[.int .i64 i0, .int .i64 k] w fun r w' => r = .returned (.bool true) ∧ Below w.heap.size w w' := by
  go_enter Tryz.func6, Tryz.ntmps6
  go_wp2_with fail
  refine (HAt.out _).mono ?_
  rintro e w1 ⟨rfl, hb1⟩
  have HB_1 := Lib.hid ((by repeat (first | exact Below.refl _ _ | refine Below.drew ?_ | refine Below.setCell ?_ (by first | omega | (simp; done) | (simp; omega)) _ | refine Below.alloc ?_ (by first | omega | (simp; done) | (simp; omega)) _) : Below w.heap.size w _).trans (hb1.mono (by first | omega | (simp; done) | (simp; omega))))
  have nz_1 : w.heap.size ≤ w1.heap.size := HB_1.out.size
  clear hb1
  go_wp2_with fail
  refine (HP1.out _).mono ?_
  rintro e w2 ⟨rfl, hb2⟩
  have x0_2 : w2.cell? ⟨w1.heap.size, 0, none⟩ = some (.int .i64 m) := carry hb2 (by go_simp)
  have x1_2 : w2.cell? ⟨w1.heap.size, 1, none⟩ = some (.int .i64 e) := carry hb2 (by go_simp)
  have xz_2 : w1.heap.size < w2.heap.size := by have := hb2.size; first | omega | (simp at this; omega)
  have HB_2 := Lib.hid ((by repeat (first | exact HB_1.out | refine Below.drew ?_ | refine Below.setCell ?_ (by first | omega | (simp; done) | (simp; omega)) _ | refine Below.alloc ?_ (by first | omega | (simp; done) | (simp; omega)) _) : Below w.heap.size w _).trans (hb2.mono (by first | omega | (simp; done) | (simp; omega))))
  have nz_2 : w.heap.size ≤ w2.heap.size := HB_2.out.size
  clear hb2 HB_1
  go_wp2_with fail
  refine (HP2.out _).mono ?_
  rintro e w3 ⟨rfl, hb3⟩
  have x0_3 : w3.cell? ⟨w1.heap.size, 0, none⟩ = some (.int .i64 m) := carry hb3 (by go_simp)
  have x1_3 : w3.cell? ⟨w1.heap.size, 1, none⟩ = some (.int .i64 e) := carry hb3 (by go_simp)
  have xz_3 : w1.heap.size < w3.heap.size := by have := hb3.size; first | omega | (simp at this; omega)
  have o0_3 : w3.cell? ⟨w2.heap.size, 0, none⟩ = some (.int .i64 m) := carry hb3 (by go_simp)
  have o1_3 : w3.cell? ⟨w2.heap.size, 1, none⟩ = some (.int .i64 e) := carry hb3 (by go_simp)
  have oz_3 : w2.heap.size < w3.heap.size := by have := hb3.size; first | omega | (simp at this; omega)
  have HB_3 := Lib.hid ((by repeat (first | exact HB_2.out | refine Below.drew ?_ | refine Below.setCell ?_ (by first | omega | (simp; done) | (simp; omega)) _ | refine Below.alloc ?_ (by first | omega | (simp; done) | (simp; omega)) _) : Below w.heap.size w _).trans (hb3.mono (by first | omega | (simp; done) | (simp; omega))))
  have nz_3 : w.heap.size ≤ w3.heap.size := HB_3.out.size
  clear hb3 x0_2 x1_2 HB_2
  go_wp2_with fail
  refine (HM.out _).mono ?_
  rintro e w4 ⟨rfl, hb4⟩
  have x0_4 : w4.cell? ⟨w1.heap.size, 0, none⟩ = some (.int .i64 m) := carry hb4 (by go_simp)
  have x1_4 : w4.cell? ⟨w1.heap.size, 1, none⟩ = some (.int .i64 e) := carry hb4 (by go_simp)
  have xz_4 : w1.heap.size < w4.heap.size := by have := hb4.size; first | omega | (simp at this; omega)
  have o0_4 : w4.cell? ⟨w2.heap.size, 0, none⟩ = some (.int .i64 m) := carry hb4 (by go_simp)
  have o1_4 : w4.cell? ⟨w2.heap.size, 1, none⟩ = some (.int .i64 e) := carry hb4 (by go_simp)
  have oz_4 : w2.heap.size < w4.heap.size := by have := hb4.size; first | omega | (simp at this; omega)
  have s0_4 : w4.cell? ⟨w3.heap.size, 0, none⟩ = some (.int .i64 sm) := carry hb4 (by go_simp)
  have s1_4 : w4.cell? ⟨w3.heap.size, 1, none⟩ = some (.int .i64 se) := carry hb4 (by go_simp)
  have sz_4 : w3.heap.size < w4.heap.size := by have := hb4.size; first | omega | (simp at this; omega)
  have HB_4 := Lib.hid ((by repeat (first | exact HB_3.out | refine Below.drew ?_ | refine Below.setCell ?_ (by first | omega | (simp; done) | (simp; omega)) _ | refine Below.alloc ?_ (by first | omega | (simp; done) | (simp; omega)) _) : Below w.heap.size w _).trans (hb4.mono (by first | omega | (simp; done) | (simp; omega))))
  have nz_4 : w.heap.size ≤ w4.heap.size := HB_4.out.size
  clear hb4 x0_3 x1_3 o0_3 o1_3 HB_3
  go_wp2_with fail
  refine (HI1.out _).mono ?_
  rintro e w5 ⟨rfl, hb5⟩
  have x0_5 : w5.cell? ⟨w1.heap.size, 0, none⟩ = some (.int .i64 m) := carry hb5 (by go_simp)
  have x1_5 : w5.cell? ⟨w1.heap.size, 1, none⟩ = some (.int .i64 e) := carry hb5 (by go_simp)
  have xz_5 : w1.heap.size < w5.heap.size := by have := hb5.size; first | omega | (simp at this; omega)
  have o0_5 : w5.cell? ⟨w2.heap.size, 0, none⟩ = some (.int .i64 m) := carry hb5 (by go_simp)
  have o1_5 : w5.cell? ⟨w2.heap.size, 1, none⟩ = some (.int .i64 e) := carry hb5 (by go_simp)
  have oz_5 : w2.heap.size < w5.heap.size := by have := hb5.size; first | omega | (simp at this; omega)
  have s0_5 : w5.cell? ⟨w3.heap.size, 0, none⟩ = some (.int .i64 sm) := carry hb5 (by go_simp)
  have s1_5 : w5.cell? ⟨w3.heap.size, 1, none⟩ = some (.int .i64 se) := carry hb5 (by go_simp)
  have sz_5 : w3.heap.size < w5.heap.size := by have := hb5.size; first | omega | (simp at this; omega)
  have p0_5 : w5.cell? ⟨w4.heap.size, 0, none⟩ = some (.int .i64 sm) := carry hb5 (by go_simp)
  have p1_5 : w5.cell? ⟨w4.heap.size, 1, none⟩ = some (.int .i64 se) := carry hb5 (by go_simp)
  have pz_5 : w4.heap.size < w5.heap.size := by have := hb5.size; first | omega | (simp at this; omega)
  have HB_5 := Lib.hid ((by repeat (first | exact HB_4.out | refine Below.drew ?_ | refine Below.setCell ?_ (by first | omega | (simp; done) | (simp; omega)) _ | refine Below.alloc ?_ (by first | omega | (simp; done) | (simp; omega)) _) : Below w.heap.size w _).trans (hb5.mono (by first | omega | (simp; done) | (simp; omega))))
  have nz_5 : w.heap.size ≤ w5.heap.size := HB_5.out.size
  clear hb5 x0_4 x1_4 o0_4 o1_4 s0_4 s1_4 HB_4
  go_wp2_with fail
  refine (HEq.out _).mono ?_
  rintro e w6 ⟨rfl, hb6⟩
  have x0_6 : w6.cell? ⟨w1.heap.size, 0, none⟩ = some (.int .i64 m) := carry hb6 (by go_simp)
  have x1_6 : w6.cell? ⟨w1.heap.size, 1, none⟩ = some (.int .i64 e) := carry hb6 (by go_simp)
  have xz_6 : w1.heap.size < w6.heap.size := by have := hb6.size; first | omega | (simp at this; omega)
  have o0_6 : w6.cell? ⟨w2.heap.size, 0, none⟩ = some (.int .i64 m) := carry hb6 (by go_simp)
  have o1_6 : w6.cell? ⟨w2.heap.size, 1, none⟩ = some (.int .i64 e) := carry hb6 (by go_simp)
  have oz_6 : w2.heap.size < w6.heap.size := by have := hb6.size; first | omega | (simp at this; omega)
  have s0_6 : w6.cell? ⟨w3.heap.size, 0, none⟩ = some (.int .i64 sm) := carry hb6 (by go_simp)
  have s1_6 : w6.cell? ⟨w3.heap.size, 1, none⟩ = some (.int .i64 se) := carry hb6 (by go_simp)
  have sz_6 : w3.heap.size < w6.heap.size := by have := hb6.size; first | omega | (simp at this; omega)
  have p0_6 : w6.cell? ⟨w4.heap.size, 0, none⟩ = some (.int .i64 sm) := carry hb6 (by go_simp)
  have p1_6 : w6.cell? ⟨w4.heap.size, 1, none⟩ = some (.int .i64 se) := carry hb6 (by go_simp)
  have pz_6 : w4.heap.size < w6.heap.size := by have := hb6.size; first | omega | (simp at this; omega)
  have HB_6 := Lib.hid ((by repeat (first | exact HB_5.out | refine Below.drew ?_ | refine Below.setCell ?_ (by first | omega | (simp; done) | (simp; omega)) _ | refine Below.alloc ?_ (by first | omega | (simp; done) | (simp; omega)) _) : Below w.heap.size w _).trans (hb6.mono (by first | omega | (simp; done) | (simp; omega))))
  have nz_6 : w.heap.size ≤ w6.heap.size := HB_6.out.size
  clear hb6 x0_5 x1_5 o0_5 o1_5 s0_5 s1_5 p0_5 p1_5 HB_5
  go_wp2_with fail
  refine (HF2.out _).mono ?_
  rintro e w7 ⟨rfl, hb7⟩
  have x0_7 : w7.cell? ⟨w1.heap.size, 0, none⟩ = some (.int .i64 m) := carry hb7 (by go_simp)
  have x1_7 : w7.cell? ⟨w1.heap.size, 1, none⟩ = some (.int .i64 e) := carry hb7 (by go_simp)
  have xz_7 : w1.heap.size < w7.heap.size := by have := hb7.size; first | omega | (simp at this; omega)
  have p0_7 : w7.cell? ⟨w4.heap.size, 0, none⟩ = some (.int .i64 sm) := carry hb7 (by go_simp)
  have p1_7 : w7.cell? ⟨w4.heap.size, 1, none⟩ = some (.int .i64 se) := carry hb7 (by go_simp)
  have pz_7 : w4.heap.size < w7.heap.size := by have := hb7.size; first | omega | (simp at this; omega)
  have HB_7 := Lib.hid ((by repeat (first | exact HB_6.out | refine Below.drew ?_ | refine Below.setCell ?_ (by first | omega | (simp; done) | (simp; omega)) _ | refine Below.alloc ?_ (by first | omega | (simp; done) | (simp; omega)) _) : Below w.heap.size w _).trans (hb7.mono (by first | omega | (simp; done) | (simp; omega))))
  have nz_7 : w.heap.size ≤ w7.heap.size := HB_7.out.size
  clear hb7 x0_6 x1_6 o0_6 o1_6 s0_6 s1_6 p0_6 p1_6 HB_6
  go_wp2_with fail
  refine (HPn.out _).mono ?_
  rintro e w8 ⟨rfl, hb8⟩
  have x0_8 : w8.cell? ⟨w1.heap.size, 0, none⟩ = some (.int .i64 m) := carry hb8 (by go_simp)
  have x1_8 : w8.cell? ⟨w1.heap.size, 1, none⟩ = some (.int .i64 e) := carry hb8 (by go_simp)
  have xz_8 : w1.heap.size < w8.heap.size := by have := hb8.size; first | omega | (simp at this; omega)
  have p0_8 : w8.cell? ⟨w4.heap.size, 0, none⟩ = some (.int .i64 sm) := carry hb8 (by go_simp)
  have p1_8 : w8.cell? ⟨w4.heap.size, 1, none⟩ = some (.int .i64 se) := carry hb8 (by go_simp)
  have pz_8 : w4.heap.size < w8.heap.size := by have := hb8.size; first | omega | (simp at this; omega)
  have HB_8 := Lib.hid ((by repeat (first | exact HB_7.out | refine Below.drew ?_ | refine Below.setCell ?_ (by first | omega | (simp; done) | (simp; omega)) _ | refine Below.alloc ?_ (by first | omega | (simp; done) | (simp; omega)) _) : Below w.heap.size w _).trans (hb8.mono (by first | omega | (simp; done) | (simp; omega))))
  have nz_8 : w.heap.size ≤ w8.heap.size := HB_8.out.size
  clear hb8 x0_7 x1_7 p0_7 p1_7 HB_7
  go_upto_region 8 with fail
  generalize hW : w8.alloc _ = w9
  have x0_9 : w9.cell? ⟨w1.heap.size, 0, none⟩ = some (.int .i64 m) := by rw [← hW]; clear hW; go_simp
  have x1_9 : w9.cell? ⟨w1.heap.size, 1, none⟩ = some (.int .i64 e) := by rw [← hW]; clear hW; go_simp
  have xz_9 : w1.heap.size < w9.heap.size := by rw [← hW]; clear hW; simp <;> omega
  have p0_9 : w9.cell? ⟨w4.heap.size, 0, none⟩ = some (.int .i64 sm) := by rw [← hW]; clear hW; go_simp
  have p1_9 : w9.cell? ⟨w4.heap.size, 1, none⟩ = some (.int .i64 se) := by rw [← hW]; clear hW; go_simp
  have pz_9 : w4.heap.size < w9.heap.size := by rw [← hW]; clear hW; simp <;> omega
  have t0_9 : w9.cell? ⟨w8.heap.size, 0, none⟩ = some (.int .i64 pm) := by rw [← hW]; clear hW; go_simp
  have t1_9 : w9.cell? ⟨w8.heap.size, 1, none⟩ = some (.int .i64 pe) := by rw [← hW]; clear hW; go_simp
  have tz_9 : w8.heap.size < w9.heap.size := by rw [← hW]; clear hW; simp <;> omega
  have HB_9 := Lib.hid ((by rw [← hW]; clear hW; exact Below.alloc HB_8.out (by have := HB_8.out.size; omega) _) : Below w.heap.size w w9)
  clear hW HB_8 x0_8 x1_8 p0_8 p1_8
  have nz_9 : w.heap.size ≤ w9.heap.size := HB_9.out.size
  go_cut [70] from 57 to 70 (fun s70 wx => s70 = .bool false ∧ wx.cell? ⟨w1.heap.size, 0, none⟩ = some (.int .i64 m) ∧ wx.cell? ⟨w1.heap.size, 1, none⟩ = some (.int .i64 e) ∧ w1.heap.size < wx.heap.size ∧ wx.cell? ⟨w4.heap.size, 0, none⟩ = some (.int .i64 sm) ∧ wx.cell? ⟨w4.heap.size, 1, none⟩ = some (.int .i64 se) ∧ w4.heap.size < wx.heap.size ∧ Below w.heap.size w wx)
  case first =>
    by_cases h1 : -126 ≤ k
    · by_cases h2 : k ≤ 173
      · have HTx := HTw.out ⟨h1, h2⟩
        have K0 := Lib.hid (Below.refl w9.heap.size w9)
        have SK := Lib.hid (show ∀ wx, Below w9.heap.size w9 wx → wx.cell? ⟨w1.heap.size, 0, none⟩ = some (.int .i64 m) ∧ wx.cell? ⟨w1.heap.size, 1, none⟩ = some (.int .i64 e) ∧ w1.heap.size < wx.heap.size ∧ wx.cell? ⟨w4.heap.size, 0, none⟩ = some (.int .i64 sm) ∧ wx.cell? ⟨w4.heap.size, 1, none⟩ = some (.int .i64 se) ∧ w4.heap.size < wx.heap.size ∧ wx.cell? ⟨w8.heap.size, 0, none⟩ = some (.int .i64 pm) ∧ wx.cell? ⟨w8.heap.size, 1, none⟩ = some (.int .i64 pe) ∧ w8.heap.size < wx.heap.size ∧ Below w9.heap.size w9 wx from fun wx h => ⟨carry h x0_9, carry h x1_9, Nat.lt_of_lt_of_le xz_9 h.size, carry h p0_9, carry h p1_9, Nat.lt_of_lt_of_le pz_9 h.size, carry h t0_9, carry h t1_9, Nat.lt_of_lt_of_le tz_9 h.size, h⟩)
        go_wp2_with fail
        go_region_held3 (fun wx => wx.cell? ⟨w1.heap.size, 0, none⟩ = some (.int .i64 m) ∧ wx.cell? ⟨w1.heap.size, 1, none⟩ = some (.int .i64 e) ∧ w1.heap.size < wx.heap.size ∧ wx.cell? ⟨w4.heap.size, 0, none⟩ = some (.int .i64 sm) ∧ wx.cell? ⟨w4.heap.size, 1, none⟩ = some (.int .i64 se) ∧ w4.heap.size < wx.heap.size ∧ wx.cell? ⟨w8.heap.size, 0, none⟩ = some (.int .i64 pm) ∧ wx.cell? ⟨w8.heap.size, 1, none⟩ = some (.int .i64 pe) ∧ w8.heap.size < wx.heap.size ∧ Below w9.heap.size w9 wx) (first | (go_keep; done) | exact SK.out _ (by first | with_reducible assumption | with_reducible exact K0.out | with_reducible exact K0.out.drew | with_reducible exact Below.drew (by with_reducible assumption)))
          (first
            | (go_at_call 36; ((with_reducible refine (HTx.1 _).mono ?_); rintro r wq ⟨rfl, hbq⟩; have qb : Below w9.heap.size w9 wq := Below.trans (by first | with_reducible assumption | with_reducible exact K0.out | with_reducible exact K0.out.drew | with_reducible exact Below.drew (by with_reducible assumption)) (hbq.mono (Below.size (by first | with_reducible assumption | with_reducible exact K0.out | with_reducible exact K0.out.drew | with_reducible exact Below.drew (by with_reducible assumption))))))
            | (go_at_call 8; ((with_reducible refine (HTx.2 _).mono ?_); rintro r wq ⟨rfl, hbq⟩; have qb : Below w9.heap.size w9 wq := Below.trans (by first | with_reducible assumption | with_reducible exact K0.out | with_reducible exact K0.out.drew | with_reducible exact Below.drew (by with_reducible assumption)) (hbq.mono (Below.size (by first | with_reducible assumption | with_reducible exact K0.out | with_reducible exact K0.out.drew | with_reducible exact Below.drew (by with_reducible assumption)))))))
        rename _ ∧ _ ∧ _ ∧ _ ∧ _ ∧ _ ∧ _ ∧ _ ∧ _ ∧ Below w9.heap.size w9 _ => hS
        obtain ⟨w10, rfl⟩ : ∃ x, x = wq := ⟨_, rfl⟩
        obtain ⟨x0_10, x1_10, xz_10, p0_10, p1_10, pz_10, t0_10, t1_10, tz_10, xb⟩ := hS
        have HB_10 := Lib.hid (HB_9.out.trans (xb.mono HB_9.out.size))
        clear xb HB_9 K0 SK x0_9 x1_9 p0_9 p1_9 t0_9 t1_9
        have nz_10 : w.heap.size ≤ w10.heap.size := HB_10.out.size
        go_wp2_with fail
        go_meet
        case rel => exact ⟨rfl, x0_10, x1_10, xz_10, p0_10, p1_10, pz_10, HB_10.out⟩
      · have h3 : decide (k ≤ 173) = false := by simpa using h2
        go_quiet (fail)
        go_wp2_with fail
        go_meet
        case rel => exact ⟨rfl, x0_9, x1_9, xz_9, p0_9, p1_9, pz_9, belowN HB_9.out _⟩
    · have h3 : decide (-126 ≤ k) = false := by simpa using h1
      go_quiet (fail)
      go_wp2_with fail
      go_meet
      case rel => exact ⟨rfl, x0_9, x1_9, xz_9, p0_9, p1_9, pz_9, belowN HB_9.out _⟩
  case rest =>
  clear HB_9 x0_9 x1_9 p0_9 p1_9 t0_9 t1_9 xz_9 pz_9 tz_9
  obtain ⟨w10, rfl⟩ : ∃ x, x = wc := ⟨_, rfl⟩
  obtain ⟨rfl, x0_10, x1_10, xz_10, p0_10, p1_10, pz_10, hb9⟩ := hcut
  have HB_10 := Lib.hid hb9
  clear hb9
  have nz_10 : w.heap.size ≤ w10.heap.size := HB_10.out.size
  go_wp2_with fail
  refine (HNx.out _).mono ?_
  rintro e w11 ⟨rfl, hb11⟩
  have x0_11 : w11.cell? ⟨w1.heap.size, 0, none⟩ = some (.int .i64 m) := carry hb11 (by go_simp)
  have x1_11 : w11.cell? ⟨w1.heap.size, 1, none⟩ = some (.int .i64 e) := carry hb11 (by go_simp)
  have xz_11 : w1.heap.size < w11.heap.size := by have := hb11.size; first | omega | (simp at this; omega)
  have p0_11 : w11.cell? ⟨w4.heap.size, 0, none⟩ = some (.int .i64 sm) := carry hb11 (by go_simp)
  have p1_11 : w11.cell? ⟨w4.heap.size, 1, none⟩ = some (.int .i64 se) := carry hb11 (by go_simp)
  have pz_11 : w4.heap.size < w11.heap.size := by have := hb11.size; first | omega | (simp at this; omega)
  have HB_11 := Lib.hid ((by repeat (first | exact HB_10.out | refine Below.drew ?_ | refine Below.setCell ?_ (by first | omega | (simp; done) | (simp; omega)) _ | refine Below.alloc ?_ (by first | omega | (simp; done) | (simp; omega)) _) : Below w.heap.size w _).trans (hb11.mono (by first | omega | (simp; done) | (simp; omega))))
  have nz_11 : w.heap.size ≤ w11.heap.size := HB_11.out.size
  clear hb11 x0_10 x1_10 p0_10 p1_10 HB_10
  go_wp2_with fail
  refine (HPx.out _).mono ?_
  rintro e w12 ⟨rfl, hb12⟩
  have x0_12 : w12.cell? ⟨w1.heap.size, 0, none⟩ = some (.int .i64 m) := carry hb12 (by go_simp)
  have x1_12 : w12.cell? ⟨w1.heap.size, 1, none⟩ = some (.int .i64 e) := carry hb12 (by go_simp)
  have xz_12 : w1.heap.size < w12.heap.size := by have := hb12.size; first | omega | (simp at this; omega)
  have p0_12 : w12.cell? ⟨w4.heap.size, 0, none⟩ = some (.int .i64 sm) := carry hb12 (by go_simp)
  have p1_12 : w12.cell? ⟨w4.heap.size, 1, none⟩ = some (.int .i64 se) := carry hb12 (by go_simp)
  have pz_12 : w4.heap.size < w12.heap.size := by have := hb12.size; first | omega | (simp at this; omega)
  have n0_12 : w12.cell? ⟨w11.heap.size, 0, none⟩ = some (.int .i64 mm) := carry hb12 (by go_simp)
  have n1_12 : w12.cell? ⟨w11.heap.size, 1, none⟩ = some (.int .i64 e) := carry hb12 (by go_simp)
  have nz_12 : w11.heap.size < w12.heap.size := by have := hb12.size; first | omega | (simp at this; omega)
  have HB_12 := Lib.hid ((by repeat (first | exact HB_11.out | refine Below.drew ?_ | refine Below.setCell ?_ (by first | omega | (simp; done) | (simp; omega)) _ | refine Below.alloc ?_ (by first | omega | (simp; done) | (simp; omega)) _) : Below w.heap.size w _).trans (hb12.mono (by first | omega | (simp; done) | (simp; omega))))
  have nz_12 : w.heap.size ≤ w12.heap.size := HB_12.out.size
  clear hb12 x0_11 x1_11 p0_11 p1_11 HB_11
  go_wp2_with fail
  refine (HPm.out _).mono ?_
  rintro e w13 ⟨rfl, hb13⟩
  have x0_13 : w13.cell? ⟨w1.heap.size, 0, none⟩ = some (.int .i64 m) := carry hb13 (by go_simp)
  have x1_13 : w13.cell? ⟨w1.heap.size, 1, none⟩ = some (.int .i64 e) := carry hb13 (by go_simp)
  have xz_13 : w1.heap.size < w13.heap.size := by have := hb13.size; first | omega | (simp at this; omega)
  have p0_13 : w13.cell? ⟨w4.heap.size, 0, none⟩ = some (.int .i64 sm) := carry hb13 (by go_simp)
  have p1_13 : w13.cell? ⟨w4.heap.size, 1, none⟩ = some (.int .i64 se) := carry hb13 (by go_simp)
  have pz_13 : w4.heap.size < w13.heap.size := by have := hb13.size; first | omega | (simp at this; omega)
  have n0_13 : w13.cell? ⟨w11.heap.size, 0, none⟩ = some (.int .i64 mm) := carry hb13 (by go_simp)
  have n1_13 : w13.cell? ⟨w11.heap.size, 1, none⟩ = some (.int .i64 e) := carry hb13 (by go_simp)
  have nz_13 : w11.heap.size < w13.heap.size := by have := hb13.size; first | omega | (simp at this; omega)
  have a0_13 : w13.cell? ⟨w12.heap.size, 0, none⟩ = some (.int .i64 am) := carry hb13 (by go_simp)
  have a1_13 : w13.cell? ⟨w12.heap.size, 1, none⟩ = some (.int .i64 ae) := carry hb13 (by go_simp)
  have az_13 : w12.heap.size < w13.heap.size := by have := hb13.size; first | omega | (simp at this; omega)
  have HB_13 := Lib.hid ((by repeat (first | exact HB_12.out | refine Below.drew ?_ | refine Below.setCell ?_ (by first | omega | (simp; done) | (simp; omega)) _ | refine Below.alloc ?_ (by first | omega | (simp; done) | (simp; omega)) _) : Below w.heap.size w _).trans (hb13.mono (by first | omega | (simp; done) | (simp; omega))))
  have nz_13 : w.heap.size ≤ w13.heap.size := HB_13.out.size
  clear hb13 x0_12 x1_12 p0_12 p1_12 n0_12 n1_12 HB_12
  go_upto_if 97 with fail
  generalize hW : w13.alloc _ = w14
  have x0_14 : w14.cell? ⟨w1.heap.size, 0, none⟩ = some (.int .i64 m) := by rw [← hW]; clear hW; go_simp
  have x1_14 : w14.cell? ⟨w1.heap.size, 1, none⟩ = some (.int .i64 e) := by rw [← hW]; clear hW; go_simp
  have xz_14 : w1.heap.size < w14.heap.size := by rw [← hW]; clear hW; simp <;> omega
  have p0_14 : w14.cell? ⟨w4.heap.size, 0, none⟩ = some (.int .i64 sm) := by rw [← hW]; clear hW; go_simp
  have p1_14 : w14.cell? ⟨w4.heap.size, 1, none⟩ = some (.int .i64 se) := by rw [← hW]; clear hW; go_simp
  have pz_14 : w4.heap.size < w14.heap.size := by rw [← hW]; clear hW; simp <;> omega
  have a0_14 : w14.cell? ⟨w12.heap.size, 0, none⟩ = some (.int .i64 am) := by rw [← hW]; clear hW; go_simp
  have a1_14 : w14.cell? ⟨w12.heap.size, 1, none⟩ = some (.int .i64 ae) := by rw [← hW]; clear hW; go_simp
  have az_14 : w12.heap.size < w14.heap.size := by rw [← hW]; clear hW; simp <;> omega
  have b0_14 : w14.cell? ⟨w13.heap.size, 0, none⟩ = some (.int .i64 bm) := by rw [← hW]; clear hW; go_simp
  have bf0_14 : w14.frozen? ⟨w13.heap.size, 0, none⟩ = false := by rw [← hW]; clear hW; go_simp
  have b1_14 : w14.cell? ⟨w13.heap.size, 1, none⟩ = some (.int .i64 ae) := by rw [← hW]; clear hW; go_simp
  have bf1_14 : w14.frozen? ⟨w13.heap.size, 1, none⟩ = false := by rw [← hW]; clear hW; go_simp
  have bz_14 : w13.heap.size < w14.heap.size := by rw [← hW]; clear hW; simp <;> omega
  have HB_14 := Lib.hid ((by rw [← hW]; clear hW; exact Below.alloc HB_13.out (by have := HB_13.out.size; omega) _) : Below w.heap.size w w14)
  clear hW HB_13 x0_13 x1_13 p0_13 p1_13 n0_13 n1_13 a0_13 a1_13
  have nz_14 : w.heap.size ≤ w14.heap.size := HB_14.out.size
  go_cut [7] from 95 to 102 (fun s7 wx => s7 = .int .i64 0 ∧ wx.cell? ⟨w1.heap.size, 0, none⟩ = some (.int .i64 m) ∧ wx.cell? ⟨w1.heap.size, 1, none⟩ = some (.int .i64 e) ∧ w1.heap.size < wx.heap.size ∧ wx.cell? ⟨w4.heap.size, 0, none⟩ = some (.int .i64 sm) ∧ wx.cell? ⟨w4.heap.size, 1, none⟩ = some (.int .i64 se) ∧ w4.heap.size < wx.heap.size ∧ wx.cell? ⟨w12.heap.size, 0, none⟩ = some (.int .i64 am) ∧ wx.cell? ⟨w12.heap.size, 1, none⟩ = some (.int .i64 ae) ∧ w12.heap.size < wx.heap.size ∧ wx.cell? ⟨w13.heap.size, 0, none⟩ = some (.int .i64 am) ∧ wx.cell? ⟨w13.heap.size, 1, none⟩ = some (.int .i64 ae) ∧ w13.heap.size < wx.heap.size ∧ Below w.heap.size w wx)
  case first =>
    by_cases hod : (k.tmod 2 != 0) = true
    · skip
      go_wp2_with fail
      refine (HOd.out hod _).mono ?_
      rintro e w15 ⟨rfl, hb15⟩
      have x0_15 : w15.cell? ⟨w1.heap.size, 0, none⟩ = some (.int .i64 m) := carry hb15 (by go_simp)
      have x1_15 : w15.cell? ⟨w1.heap.size, 1, none⟩ = some (.int .i64 e) := carry hb15 (by go_simp)
      have xz_15 : w1.heap.size < w15.heap.size := by have := hb15.size; first | omega | (simp at this; omega)
      have p0_15 : w15.cell? ⟨w4.heap.size, 0, none⟩ = some (.int .i64 sm) := carry hb15 (by go_simp)
      have p1_15 : w15.cell? ⟨w4.heap.size, 1, none⟩ = some (.int .i64 se) := carry hb15 (by go_simp)
      have pz_15 : w4.heap.size < w15.heap.size := by have := hb15.size; first | omega | (simp at this; omega)
      have a0_15 : w15.cell? ⟨w12.heap.size, 0, none⟩ = some (.int .i64 am) := carry hb15 (by go_simp)
      have a1_15 : w15.cell? ⟨w12.heap.size, 1, none⟩ = some (.int .i64 ae) := carry hb15 (by go_simp)
      have az_15 : w12.heap.size < w15.heap.size := by have := hb15.size; first | omega | (simp at this; omega)
      have b0_15 : w15.cell? ⟨w13.heap.size, 0, none⟩ = some (.int .i64 bm) := carry hb15 (by go_simp)
      have bf0_15 : w15.frozen? ⟨w13.heap.size, 0, none⟩ = false := carryF hb15 (v := .int .i64 bm) (by go_simp) (by go_simp)
      have b1_15 : w15.cell? ⟨w13.heap.size, 1, none⟩ = some (.int .i64 ae) := carry hb15 (by go_simp)
      have bf1_15 : w15.frozen? ⟨w13.heap.size, 1, none⟩ = false := carryF hb15 (v := .int .i64 ae) (by go_simp) (by go_simp)
      have bz_15 : w13.heap.size < w15.heap.size := by have := hb15.size; first | omega | (simp at this; omega)
      have HB_15 := Lib.hid ((by repeat (first | exact HB_14.out | refine Below.drew ?_ | refine Below.setCell ?_ (by first | omega | (simp; done) | (simp; omega)) _ | refine Below.alloc ?_ (by first | omega | (simp; done) | (simp; omega)) _) : Below w.heap.size w _).trans (hb15.mono (by first | omega | (simp; done) | (simp; omega))))
      have nz_15 : w.heap.size ≤ w15.heap.size := HB_15.out.size
      clear hb15 x0_14 x1_14 p0_14 p1_14 a0_14 a1_14 b0_14 bf0_14 b1_14 bf1_14 HB_14
      go_wp2_with fail
      generalize hW : (w15.setCell _ _).setCell _ _ = wy
      go_meet
      case rel => exact ⟨rfl, (show wy.cell? ⟨w1.heap.size, 0, none⟩ = some (.int .i64 m) by rw [← hW]; clear hW; go_simp), (show wy.cell? ⟨w1.heap.size, 1, none⟩ = some (.int .i64 e) by rw [← hW]; clear hW; go_simp), (show w1.heap.size < wy.heap.size by rw [← hW]; clear hW; simp <;> omega), (show wy.cell? ⟨w4.heap.size, 0, none⟩ = some (.int .i64 sm) by rw [← hW]; clear hW; go_simp), (show wy.cell? ⟨w4.heap.size, 1, none⟩ = some (.int .i64 se) by rw [← hW]; clear hW; go_simp), (show w4.heap.size < wy.heap.size by rw [← hW]; clear hW; simp <;> omega), (show wy.cell? ⟨w12.heap.size, 0, none⟩ = some (.int .i64 am) by rw [← hW]; clear hW; go_simp), (show wy.cell? ⟨w12.heap.size, 1, none⟩ = some (.int .i64 ae) by rw [← hW]; clear hW; go_simp), (show w12.heap.size < wy.heap.size by rw [← hW]; clear hW; simp <;> omega), (show wy.cell? ⟨w13.heap.size, 0, none⟩ = some (.int .i64 am) by rw [← hW]; clear hW; go_simp), (show wy.cell? ⟨w13.heap.size, 1, none⟩ = some (.int .i64 ae) by rw [← hW]; clear hW; go_simp), (show w13.heap.size < wy.heap.size by rw [← hW]; clear hW; simp <;> omega), (show Below w.heap.size w wy by rw [← hW]; clear hW; repeat (first | exact HB_15.out | refine Below.setCell ?_ (by first | omega | (simp; done) | (simp; omega)) _))⟩
    · have hev : (k.tmod 2 != 0) = false := by simpa using hod
      obtain rfl := HEv.out hev
      go_wp2_with fail
      go_meet
      case rel => exact ⟨rfl, x0_14, x1_14, xz_14, p0_14, p1_14, pz_14, a0_14, a1_14, az_14, b0_14, b1_14, bz_14, HB_14.out⟩
  case rest =>
  clear HB_14 x0_14 x1_14 p0_14 p1_14 a0_14 a1_14 b0_14 bf0_14 b1_14 bf1_14 xz_14 pz_14 az_14 bz_14
  obtain ⟨w15, rfl⟩ : ∃ x, x = wc := ⟨_, rfl⟩
  obtain ⟨rfl, x0_15, x1_15, xz_15, p0_15, p1_15, pz_15, a0_15, a1_15, az_15, b0_15, b1_15, bz_15, hb9⟩ := hcut
  have HB_15 := Lib.hid hb9
  clear hb9
  have nz_15 : w.heap.size ≤ w15.heap.size := HB_15.out.size
  go_wp2_with fail
  have K0 := Lib.hid (Below.refl w15.heap.size w15)
  have SK := Lib.hid (show ∀ wx, Below w15.heap.size w15 wx → wx.cell? ⟨w1.heap.size, 0, none⟩ = some (.int .i64 m) ∧ wx.cell? ⟨w1.heap.size, 1, none⟩ = some (.int .i64 e) ∧ w1.heap.size < wx.heap.size ∧ wx.cell? ⟨w4.heap.size, 0, none⟩ = some (.int .i64 sm) ∧ wx.cell? ⟨w4.heap.size, 1, none⟩ = some (.int .i64 se) ∧ w4.heap.size < wx.heap.size ∧ Below w15.heap.size w15 wx from fun wx h => ⟨carry h x0_15, carry h x1_15, Nat.lt_of_lt_of_le xz_15 h.size, carry h p0_15, carry h p1_15, Nat.lt_of_lt_of_le pz_15 h.size, h⟩)
  go_wp2_with fail
  go_region_held3 (fun wx => wx.cell? ⟨w1.heap.size, 0, none⟩ = some (.int .i64 m) ∧ wx.cell? ⟨w1.heap.size, 1, none⟩ = some (.int .i64 e) ∧ w1.heap.size < wx.heap.size ∧ wx.cell? ⟨w4.heap.size, 0, none⟩ = some (.int .i64 sm) ∧ wx.cell? ⟨w4.heap.size, 1, none⟩ = some (.int .i64 se) ∧ w4.heap.size < wx.heap.size ∧ Below w15.heap.size w15 wx) (first | (go_keep; done) | exact SK.out _ (by first | with_reducible assumption | with_reducible exact K0.out | with_reducible exact K0.out.drew | with_reducible exact Below.drew (by with_reducible assumption)))
    (first
      | (go_at_call 36; ((with_reducible refine (HT1.out _).mono ?_); rintro r wq ⟨rfl, hbq⟩; have qb : Below w15.heap.size w15 wq := Below.trans (by first | with_reducible assumption | with_reducible exact K0.out | with_reducible exact K0.out.drew | with_reducible exact Below.drew (by with_reducible assumption)) (hbq.mono (Below.size (by first | with_reducible assumption | with_reducible exact K0.out | with_reducible exact K0.out.drew | with_reducible exact Below.drew (by with_reducible assumption))))))
      | (go_at_call 19; ((with_reducible refine (HC.out _).mono ?_); rintro r wq ⟨rfl, hbq⟩; have qb : Below w15.heap.size w15 wq := Below.trans (by first | with_reducible assumption | with_reducible exact K0.out | with_reducible exact K0.out.drew | with_reducible exact Below.drew (by with_reducible assumption)) (hbq.mono (Below.size (by first | with_reducible assumption | with_reducible exact K0.out | with_reducible exact K0.out.drew | with_reducible exact Below.drew (by with_reducible assumption)))))))
  rename _ ∧ _ ∧ _ ∧ _ ∧ _ ∧ _ ∧ Below w15.heap.size w15 _ => hS
  obtain ⟨w16, rfl⟩ : ∃ x, x = wq := ⟨_, rfl⟩
  obtain ⟨x0_16, x1_16, xz_16, p0_16, p1_16, pz_16, xb⟩ := hS
  have HB_16 := Lib.hid (HB_15.out.trans (xb.mono HB_15.out.size))
  clear xb HB_15 K0 SK x0_15 x1_15 p0_15 p1_15 a0_15 a1_15 b0_15 b1_15
  have nz_16 : w.heap.size ≤ w16.heap.size := HB_16.out.size
  go_wp2_with fail
  refine (HAb.out _).mono ?_
  rintro e w17 ⟨rfl, hb17⟩
  have x0_17 : w17.cell? ⟨w1.heap.size, 0, none⟩ = some (.int .i64 m) := carry hb17 (by go_simp)
  have x1_17 : w17.cell? ⟨w1.heap.size, 1, none⟩ = some (.int .i64 e) := carry hb17 (by go_simp)
  have xz_17 : w1.heap.size < w17.heap.size := by have := hb17.size; first | omega | (simp at this; omega)
  have p0_17 : w17.cell? ⟨w4.heap.size, 0, none⟩ = some (.int .i64 sm) := carry hb17 (by go_simp)
  have p1_17 : w17.cell? ⟨w4.heap.size, 1, none⟩ = some (.int .i64 se) := carry hb17 (by go_simp)
  have pz_17 : w4.heap.size < w17.heap.size := by have := hb17.size; first | omega | (simp at this; omega)
  have HB_17 := Lib.hid ((by repeat (first | exact HB_16.out | refine Below.drew ?_ | refine Below.setCell ?_ (by first | omega | (simp; done) | (simp; omega)) _ | refine Below.alloc ?_ (by first | omega | (simp; done) | (simp; omega)) _) : Below w.heap.size w _).trans (hb17.mono (by first | omega | (simp; done) | (simp; omega))))
  have nz_17 : w.heap.size ≤ w17.heap.size := HB_17.out.size
  clear hb17 x0_16 x1_16 p0_16 p1_16 HB_16
  go_wp2_with fail
  refine (HSq.out _).mono ?_
  rintro e w18 ⟨rfl, hb18⟩
  have x0_18 : w18.cell? ⟨w1.heap.size, 0, none⟩ = some (.int .i64 m) := carry hb18 (by go_simp)
  have x1_18 : w18.cell? ⟨w1.heap.size, 1, none⟩ = some (.int .i64 e) := carry hb18 (by go_simp)
  have xz_18 : w1.heap.size < w18.heap.size := by have := hb18.size; first | omega | (simp at this; omega)
  have p0_18 : w18.cell? ⟨w4.heap.size, 0, none⟩ = some (.int .i64 sm) := carry hb18 (by go_simp)
  have p1_18 : w18.cell? ⟨w4.heap.size, 1, none⟩ = some (.int .i64 se) := carry hb18 (by go_simp)
  have pz_18 : w4.heap.size < w18.heap.size := by have := hb18.size; first | omega | (simp at this; omega)
  have u0_18 : w18.cell? ⟨w17.heap.size, 0, none⟩ = some (.int .i64 rm) := carry hb18 (by go_simp)
  have u1_18 : w18.cell? ⟨w17.heap.size, 1, none⟩ = some (.int .i64 e) := carry hb18 (by go_simp)
  have uz_18 : w17.heap.size < w18.heap.size := by have := hb18.size; first | omega | (simp at this; omega)
  have HB_18 := Lib.hid ((by repeat (first | exact HB_17.out | refine Below.drew ?_ | refine Below.setCell ?_ (by first | omega | (simp; done) | (simp; omega)) _ | refine Below.alloc ?_ (by first | omega | (simp; done) | (simp; omega)) _) : Below w.heap.size w _).trans (hb18.mono (by first | omega | (simp; done) | (simp; omega))))
  have nz_18 : w.heap.size ≤ w18.heap.size := HB_18.out.size
  clear hb18 x0_17 x1_17 p0_17 p1_17 HB_17
  go_wp2_with fail
  refine (HSan.out _ (by repeat (first | exact HB_18.out | refine Below.drew ?_ | refine Below.setCell ?_ (by first | omega | (simp; done) | (simp; omega)) _ | refine Below.alloc ?_ (by first | omega | (simp; done) | (simp; omega)) _))).mono ?_
  rintro e w19 ⟨rfl, hb19⟩
  have u0_19 : w19.cell? ⟨w17.heap.size, 0, none⟩ = some (.int .i64 rm) := carry hb19 (by go_simp)
  have u1_19 : w19.cell? ⟨w17.heap.size, 1, none⟩ = some (.int .i64 e) := carry hb19 (by go_simp)
  have uz_19 : w17.heap.size < w19.heap.size := by have := hb19.size; first | omega | (simp at this; omega)
  have v0_19 : w19.cell? ⟨w18.heap.size, 0, none⟩ = some (.int .i64 qm) := carry hb19 (by go_simp)
  have v1_19 : w19.cell? ⟨w18.heap.size, 1, none⟩ = some (.int .i64 qe) := carry hb19 (by go_simp)
  have vz_19 : w18.heap.size < w19.heap.size := by have := hb19.size; first | omega | (simp at this; omega)
  have HB_19 := Lib.hid ((by repeat (first | exact HB_18.out | refine Below.drew ?_ | refine Below.setCell ?_ (by first | omega | (simp; done) | (simp; omega)) _ | refine Below.alloc ?_ (by first | omega | (simp; done) | (simp; omega)) _) : Below w.heap.size w _).trans (hb19.mono (by first | omega | (simp; done) | (simp; omega))))
  have nz_19 : w.heap.size ≤ w19.heap.size := HB_19.out.size
  clear hb19 x0_18 x1_18 p0_18 p1_18 u0_18 u1_18 HB_18
  go_wp2_with fail
  go_ret
  exact ⟨rfl, by repeat (first | exact HB_19.out | refine Below.drew ?_ | refine Below.setCell ?_ (by first | omega | (simp; done) | (simp; omega)) _ | refine Below.alloc ?_ (by first | omega | (simp; done) | (simp; omega)) _)⟩

set_option maxRecDepth 100000 in
set_option maxHeartbeats 8000000 in
theorem w_equal (i0 k m e sm se pm pe mm am ae ax bm c rm qm qe t : Int) (w : World) (HAt : Hid (∀ W : World, Calls Tryz.prog 32 #[.int .i64 i0] W fun r w' => r = .returned (realV m e) ∧ Below W.heap.size W w')) (HP1 : Hid (∀ W : World, Calls Tryz.prog 37 #[realV m e, .int .i64 1] W fun r w' => r = .returned (rE m e 0) ∧ Below W.heap.size W w')) (HP2 : Hid (∀ W : World, Calls Tryz.prog 37 #[realV m e, .int .i64 2] W fun r w' => r = .returned (rE sm se 0) ∧ Below W.heap.size W w')) (HM : Hid (∀ W : World, Calls Tryz.prog 25 #[realV m e, realV m e] W fun r w' => r = .returned (rE sm se 0) ∧ Below W.heap.size W w')) (HI1 : Hid (∀ W : World, Calls Tryz.prog 8 #[realV m e, .int .i64 0, realV m e] W fun r w' => r = .returned (.bool true) ∧ Below W.heap.size W w')) (HEq : Hid (∀ W : World, Calls Tryz.prog 34 #[realV sm se, .int .i64 0, realV sm se, .int .i64 0] W fun r w' => r = .returned (.bool true) ∧ Below W.heap.size W w')) (HF2 : Hid (∀ W : World, Calls Tryz.prog 10 #[.int .i64 2] W fun r w' => r = .returned (realV 8388608 (-22)) ∧ Below W.heap.size W w')) (HPn : Hid (∀ W : World, Calls Tryz.prog 37 #[realV 8388608 (-22), .int .i64 k] W fun r w' => r = .returned (rE pm pe t) ∧ Below W.heap.size W w')) (HTw : Hid (-126 ≤ k ∧ k ≤ 173 → (∀ W : World, Calls Tryz.prog 36 #[.int .i64 k] W fun r w' => r = .returned (realV pm pe) ∧ Below W.heap.size W w') ∧ (∀ W : World, Calls Tryz.prog 8 #[realV pm pe, .int .i64 t, realV pm pe] W fun r w' => r = .returned (.bool true) ∧ Below W.heap.size W w'))) (HNx : Hid (∀ W : World, Calls Tryz.prog 16 #[realV m e] W fun r w' => r = .returned (rE mm e 0) ∧ Below W.heap.size W w')) (HPx : Hid (∀ W : World, Calls Tryz.prog 37 #[realV m e, .int .i64 k] W fun r w' => r = .returned (rE am ae ax) ∧ Below W.heap.size W w')) (HPm : Hid (∀ W : World, Calls Tryz.prog 37 #[realV mm e, .int .i64 k] W fun r w' => r = .returned (rE bm ae ax) ∧ Below W.heap.size W w')) (HOd : Hid ((k.tmod 2 != 0) = true → ∀ W : World, Calls Tryz.prog 16 #[realV bm ae] W fun r w' => r = .returned (rE am ae 0) ∧ Below W.heap.size W w')) (HEv : Hid ((k.tmod 2 != 0) = false → bm = am)) (HSan : Hid (∀ W, Below w.heap.size w W → Calls Tryz.prog 20 #[] W fun r W' => r = .returned (.bool true) ∧ Below W.heap.size W W')) (HT1 : Hid (∀ W : World, Calls Tryz.prog 36 #[.int .i64 (-100)] W fun r w' => r = .returned (realV 8388608 (-123)) ∧ Below W.heap.size W w')) (HC : Hid (∀ W : World, Calls Tryz.prog 19 #[realV sm se, realV 8388608 (-123)] W fun r w' => r = .returned (iE c 0) ∧ Below W.heap.size W w')) (HAb : Hid (∀ W : World, Calls Tryz.prog 17 #[realV m e] W fun r w' => r = .returned (rE rm e 0) ∧ Below W.heap.size W w')) (HSq : Hid (∀ W : World, Calls Tryz.prog 27 #[realV sm se] W fun r w' => r = .returned (rE rm e 0) ∧ Below W.heap.size W w')) (hc : ¬ c < 0)  :
    Calls Tryz.prog 6 #[.int .i64 i0, .int .i64 k] w fun r w' => r = .returned (.bool true) ∧ Below w.heap.size w w' := by
  go_enter Tryz.func6, Tryz.ntmps6
  go_wp2_with fail
  refine (HAt.out _).mono ?_
  rintro e w1 ⟨rfl, hb1⟩
  have HB_1 := Lib.hid ((by repeat (first | exact Below.refl _ _ | refine Below.drew ?_ | refine Below.setCell ?_ (by first | omega | (simp; done) | (simp; omega)) _ | refine Below.alloc ?_ (by first | omega | (simp; done) | (simp; omega)) _) : Below w.heap.size w _).trans (hb1.mono (by first | omega | (simp; done) | (simp; omega))))
  have nz_1 : w.heap.size ≤ w1.heap.size := HB_1.out.size
  clear hb1
  go_wp2_with fail
  refine (HP1.out _).mono ?_
  rintro e w2 ⟨rfl, hb2⟩
  have x0_2 : w2.cell? ⟨w1.heap.size, 0, none⟩ = some (.int .i64 m) := carry hb2 (by go_simp)
  have x1_2 : w2.cell? ⟨w1.heap.size, 1, none⟩ = some (.int .i64 e) := carry hb2 (by go_simp)
  have xz_2 : w1.heap.size < w2.heap.size := by have := hb2.size; first | omega | (simp at this; omega)
  have HB_2 := Lib.hid ((by repeat (first | exact HB_1.out | refine Below.drew ?_ | refine Below.setCell ?_ (by first | omega | (simp; done) | (simp; omega)) _ | refine Below.alloc ?_ (by first | omega | (simp; done) | (simp; omega)) _) : Below w.heap.size w _).trans (hb2.mono (by first | omega | (simp; done) | (simp; omega))))
  have nz_2 : w.heap.size ≤ w2.heap.size := HB_2.out.size
  clear hb2 HB_1
  go_wp2_with fail
  refine (HP2.out _).mono ?_
  rintro e w3 ⟨rfl, hb3⟩
  have x0_3 : w3.cell? ⟨w1.heap.size, 0, none⟩ = some (.int .i64 m) := carry hb3 (by go_simp)
  have x1_3 : w3.cell? ⟨w1.heap.size, 1, none⟩ = some (.int .i64 e) := carry hb3 (by go_simp)
  have xz_3 : w1.heap.size < w3.heap.size := by have := hb3.size; first | omega | (simp at this; omega)
  have o0_3 : w3.cell? ⟨w2.heap.size, 0, none⟩ = some (.int .i64 m) := carry hb3 (by go_simp)
  have o1_3 : w3.cell? ⟨w2.heap.size, 1, none⟩ = some (.int .i64 e) := carry hb3 (by go_simp)
  have oz_3 : w2.heap.size < w3.heap.size := by have := hb3.size; first | omega | (simp at this; omega)
  have HB_3 := Lib.hid ((by repeat (first | exact HB_2.out | refine Below.drew ?_ | refine Below.setCell ?_ (by first | omega | (simp; done) | (simp; omega)) _ | refine Below.alloc ?_ (by first | omega | (simp; done) | (simp; omega)) _) : Below w.heap.size w _).trans (hb3.mono (by first | omega | (simp; done) | (simp; omega))))
  have nz_3 : w.heap.size ≤ w3.heap.size := HB_3.out.size
  clear hb3 x0_2 x1_2 HB_2
  go_wp2_with fail
  refine (HM.out _).mono ?_
  rintro e w4 ⟨rfl, hb4⟩
  have x0_4 : w4.cell? ⟨w1.heap.size, 0, none⟩ = some (.int .i64 m) := carry hb4 (by go_simp)
  have x1_4 : w4.cell? ⟨w1.heap.size, 1, none⟩ = some (.int .i64 e) := carry hb4 (by go_simp)
  have xz_4 : w1.heap.size < w4.heap.size := by have := hb4.size; first | omega | (simp at this; omega)
  have o0_4 : w4.cell? ⟨w2.heap.size, 0, none⟩ = some (.int .i64 m) := carry hb4 (by go_simp)
  have o1_4 : w4.cell? ⟨w2.heap.size, 1, none⟩ = some (.int .i64 e) := carry hb4 (by go_simp)
  have oz_4 : w2.heap.size < w4.heap.size := by have := hb4.size; first | omega | (simp at this; omega)
  have s0_4 : w4.cell? ⟨w3.heap.size, 0, none⟩ = some (.int .i64 sm) := carry hb4 (by go_simp)
  have s1_4 : w4.cell? ⟨w3.heap.size, 1, none⟩ = some (.int .i64 se) := carry hb4 (by go_simp)
  have sz_4 : w3.heap.size < w4.heap.size := by have := hb4.size; first | omega | (simp at this; omega)
  have HB_4 := Lib.hid ((by repeat (first | exact HB_3.out | refine Below.drew ?_ | refine Below.setCell ?_ (by first | omega | (simp; done) | (simp; omega)) _ | refine Below.alloc ?_ (by first | omega | (simp; done) | (simp; omega)) _) : Below w.heap.size w _).trans (hb4.mono (by first | omega | (simp; done) | (simp; omega))))
  have nz_4 : w.heap.size ≤ w4.heap.size := HB_4.out.size
  clear hb4 x0_3 x1_3 o0_3 o1_3 HB_3
  go_wp2_with fail
  refine (HI1.out _).mono ?_
  rintro e w5 ⟨rfl, hb5⟩
  have x0_5 : w5.cell? ⟨w1.heap.size, 0, none⟩ = some (.int .i64 m) := carry hb5 (by go_simp)
  have x1_5 : w5.cell? ⟨w1.heap.size, 1, none⟩ = some (.int .i64 e) := carry hb5 (by go_simp)
  have xz_5 : w1.heap.size < w5.heap.size := by have := hb5.size; first | omega | (simp at this; omega)
  have o0_5 : w5.cell? ⟨w2.heap.size, 0, none⟩ = some (.int .i64 m) := carry hb5 (by go_simp)
  have o1_5 : w5.cell? ⟨w2.heap.size, 1, none⟩ = some (.int .i64 e) := carry hb5 (by go_simp)
  have oz_5 : w2.heap.size < w5.heap.size := by have := hb5.size; first | omega | (simp at this; omega)
  have s0_5 : w5.cell? ⟨w3.heap.size, 0, none⟩ = some (.int .i64 sm) := carry hb5 (by go_simp)
  have s1_5 : w5.cell? ⟨w3.heap.size, 1, none⟩ = some (.int .i64 se) := carry hb5 (by go_simp)
  have sz_5 : w3.heap.size < w5.heap.size := by have := hb5.size; first | omega | (simp at this; omega)
  have p0_5 : w5.cell? ⟨w4.heap.size, 0, none⟩ = some (.int .i64 sm) := carry hb5 (by go_simp)
  have p1_5 : w5.cell? ⟨w4.heap.size, 1, none⟩ = some (.int .i64 se) := carry hb5 (by go_simp)
  have pz_5 : w4.heap.size < w5.heap.size := by have := hb5.size; first | omega | (simp at this; omega)
  have HB_5 := Lib.hid ((by repeat (first | exact HB_4.out | refine Below.drew ?_ | refine Below.setCell ?_ (by first | omega | (simp; done) | (simp; omega)) _ | refine Below.alloc ?_ (by first | omega | (simp; done) | (simp; omega)) _) : Below w.heap.size w _).trans (hb5.mono (by first | omega | (simp; done) | (simp; omega))))
  have nz_5 : w.heap.size ≤ w5.heap.size := HB_5.out.size
  clear hb5 x0_4 x1_4 o0_4 o1_4 s0_4 s1_4 HB_4
  go_wp2_with fail
  refine (HEq.out _).mono ?_
  rintro e w6 ⟨rfl, hb6⟩
  have x0_6 : w6.cell? ⟨w1.heap.size, 0, none⟩ = some (.int .i64 m) := carry hb6 (by go_simp)
  have x1_6 : w6.cell? ⟨w1.heap.size, 1, none⟩ = some (.int .i64 e) := carry hb6 (by go_simp)
  have xz_6 : w1.heap.size < w6.heap.size := by have := hb6.size; first | omega | (simp at this; omega)
  have o0_6 : w6.cell? ⟨w2.heap.size, 0, none⟩ = some (.int .i64 m) := carry hb6 (by go_simp)
  have o1_6 : w6.cell? ⟨w2.heap.size, 1, none⟩ = some (.int .i64 e) := carry hb6 (by go_simp)
  have oz_6 : w2.heap.size < w6.heap.size := by have := hb6.size; first | omega | (simp at this; omega)
  have s0_6 : w6.cell? ⟨w3.heap.size, 0, none⟩ = some (.int .i64 sm) := carry hb6 (by go_simp)
  have s1_6 : w6.cell? ⟨w3.heap.size, 1, none⟩ = some (.int .i64 se) := carry hb6 (by go_simp)
  have sz_6 : w3.heap.size < w6.heap.size := by have := hb6.size; first | omega | (simp at this; omega)
  have p0_6 : w6.cell? ⟨w4.heap.size, 0, none⟩ = some (.int .i64 sm) := carry hb6 (by go_simp)
  have p1_6 : w6.cell? ⟨w4.heap.size, 1, none⟩ = some (.int .i64 se) := carry hb6 (by go_simp)
  have pz_6 : w4.heap.size < w6.heap.size := by have := hb6.size; first | omega | (simp at this; omega)
  have HB_6 := Lib.hid ((by repeat (first | exact HB_5.out | refine Below.drew ?_ | refine Below.setCell ?_ (by first | omega | (simp; done) | (simp; omega)) _ | refine Below.alloc ?_ (by first | omega | (simp; done) | (simp; omega)) _) : Below w.heap.size w _).trans (hb6.mono (by first | omega | (simp; done) | (simp; omega))))
  have nz_6 : w.heap.size ≤ w6.heap.size := HB_6.out.size
  clear hb6 x0_5 x1_5 o0_5 o1_5 s0_5 s1_5 p0_5 p1_5 HB_5
  go_wp2_with fail
  refine (HF2.out _).mono ?_
  rintro e w7 ⟨rfl, hb7⟩
  have x0_7 : w7.cell? ⟨w1.heap.size, 0, none⟩ = some (.int .i64 m) := carry hb7 (by go_simp)
  have x1_7 : w7.cell? ⟨w1.heap.size, 1, none⟩ = some (.int .i64 e) := carry hb7 (by go_simp)
  have xz_7 : w1.heap.size < w7.heap.size := by have := hb7.size; first | omega | (simp at this; omega)
  have p0_7 : w7.cell? ⟨w4.heap.size, 0, none⟩ = some (.int .i64 sm) := carry hb7 (by go_simp)
  have p1_7 : w7.cell? ⟨w4.heap.size, 1, none⟩ = some (.int .i64 se) := carry hb7 (by go_simp)
  have pz_7 : w4.heap.size < w7.heap.size := by have := hb7.size; first | omega | (simp at this; omega)
  have HB_7 := Lib.hid ((by repeat (first | exact HB_6.out | refine Below.drew ?_ | refine Below.setCell ?_ (by first | omega | (simp; done) | (simp; omega)) _ | refine Below.alloc ?_ (by first | omega | (simp; done) | (simp; omega)) _) : Below w.heap.size w _).trans (hb7.mono (by first | omega | (simp; done) | (simp; omega))))
  have nz_7 : w.heap.size ≤ w7.heap.size := HB_7.out.size
  clear hb7 x0_6 x1_6 o0_6 o1_6 s0_6 s1_6 p0_6 p1_6 HB_6
  go_wp2_with fail
  refine (HPn.out _).mono ?_
  rintro e w8 ⟨rfl, hb8⟩
  have x0_8 : w8.cell? ⟨w1.heap.size, 0, none⟩ = some (.int .i64 m) := carry hb8 (by go_simp)
  have x1_8 : w8.cell? ⟨w1.heap.size, 1, none⟩ = some (.int .i64 e) := carry hb8 (by go_simp)
  have xz_8 : w1.heap.size < w8.heap.size := by have := hb8.size; first | omega | (simp at this; omega)
  have p0_8 : w8.cell? ⟨w4.heap.size, 0, none⟩ = some (.int .i64 sm) := carry hb8 (by go_simp)
  have p1_8 : w8.cell? ⟨w4.heap.size, 1, none⟩ = some (.int .i64 se) := carry hb8 (by go_simp)
  have pz_8 : w4.heap.size < w8.heap.size := by have := hb8.size; first | omega | (simp at this; omega)
  have HB_8 := Lib.hid ((by repeat (first | exact HB_7.out | refine Below.drew ?_ | refine Below.setCell ?_ (by first | omega | (simp; done) | (simp; omega)) _ | refine Below.alloc ?_ (by first | omega | (simp; done) | (simp; omega)) _) : Below w.heap.size w _).trans (hb8.mono (by first | omega | (simp; done) | (simp; omega))))
  have nz_8 : w.heap.size ≤ w8.heap.size := HB_8.out.size
  clear hb8 x0_7 x1_7 p0_7 p1_7 HB_7
  go_upto_region 8 with fail
  generalize hW : w8.alloc _ = w9
  have x0_9 : w9.cell? ⟨w1.heap.size, 0, none⟩ = some (.int .i64 m) := by rw [← hW]; clear hW; go_simp
  have x1_9 : w9.cell? ⟨w1.heap.size, 1, none⟩ = some (.int .i64 e) := by rw [← hW]; clear hW; go_simp
  have xz_9 : w1.heap.size < w9.heap.size := by rw [← hW]; clear hW; simp <;> omega
  have p0_9 : w9.cell? ⟨w4.heap.size, 0, none⟩ = some (.int .i64 sm) := by rw [← hW]; clear hW; go_simp
  have p1_9 : w9.cell? ⟨w4.heap.size, 1, none⟩ = some (.int .i64 se) := by rw [← hW]; clear hW; go_simp
  have pz_9 : w4.heap.size < w9.heap.size := by rw [← hW]; clear hW; simp <;> omega
  have t0_9 : w9.cell? ⟨w8.heap.size, 0, none⟩ = some (.int .i64 pm) := by rw [← hW]; clear hW; go_simp
  have t1_9 : w9.cell? ⟨w8.heap.size, 1, none⟩ = some (.int .i64 pe) := by rw [← hW]; clear hW; go_simp
  have tz_9 : w8.heap.size < w9.heap.size := by rw [← hW]; clear hW; simp <;> omega
  have HB_9 := Lib.hid ((by rw [← hW]; clear hW; exact Below.alloc HB_8.out (by have := HB_8.out.size; omega) _) : Below w.heap.size w w9)
  clear hW HB_8 x0_8 x1_8 p0_8 p1_8
  have nz_9 : w.heap.size ≤ w9.heap.size := HB_9.out.size
  go_cut [70] from 57 to 70 (fun s70 wx => s70 = .bool false ∧ wx.cell? ⟨w1.heap.size, 0, none⟩ = some (.int .i64 m) ∧ wx.cell? ⟨w1.heap.size, 1, none⟩ = some (.int .i64 e) ∧ w1.heap.size < wx.heap.size ∧ wx.cell? ⟨w4.heap.size, 0, none⟩ = some (.int .i64 sm) ∧ wx.cell? ⟨w4.heap.size, 1, none⟩ = some (.int .i64 se) ∧ w4.heap.size < wx.heap.size ∧ Below w.heap.size w wx)
  case first =>
    by_cases h1 : -126 ≤ k
    · by_cases h2 : k ≤ 173
      · have HTx := HTw.out ⟨h1, h2⟩
        have K0 := Lib.hid (Below.refl w9.heap.size w9)
        have SK := Lib.hid (show ∀ wx, Below w9.heap.size w9 wx → wx.cell? ⟨w1.heap.size, 0, none⟩ = some (.int .i64 m) ∧ wx.cell? ⟨w1.heap.size, 1, none⟩ = some (.int .i64 e) ∧ w1.heap.size < wx.heap.size ∧ wx.cell? ⟨w4.heap.size, 0, none⟩ = some (.int .i64 sm) ∧ wx.cell? ⟨w4.heap.size, 1, none⟩ = some (.int .i64 se) ∧ w4.heap.size < wx.heap.size ∧ wx.cell? ⟨w8.heap.size, 0, none⟩ = some (.int .i64 pm) ∧ wx.cell? ⟨w8.heap.size, 1, none⟩ = some (.int .i64 pe) ∧ w8.heap.size < wx.heap.size ∧ Below w9.heap.size w9 wx from fun wx h => ⟨carry h x0_9, carry h x1_9, Nat.lt_of_lt_of_le xz_9 h.size, carry h p0_9, carry h p1_9, Nat.lt_of_lt_of_le pz_9 h.size, carry h t0_9, carry h t1_9, Nat.lt_of_lt_of_le tz_9 h.size, h⟩)
        go_wp2_with fail
        go_region_held3 (fun wx => wx.cell? ⟨w1.heap.size, 0, none⟩ = some (.int .i64 m) ∧ wx.cell? ⟨w1.heap.size, 1, none⟩ = some (.int .i64 e) ∧ w1.heap.size < wx.heap.size ∧ wx.cell? ⟨w4.heap.size, 0, none⟩ = some (.int .i64 sm) ∧ wx.cell? ⟨w4.heap.size, 1, none⟩ = some (.int .i64 se) ∧ w4.heap.size < wx.heap.size ∧ wx.cell? ⟨w8.heap.size, 0, none⟩ = some (.int .i64 pm) ∧ wx.cell? ⟨w8.heap.size, 1, none⟩ = some (.int .i64 pe) ∧ w8.heap.size < wx.heap.size ∧ Below w9.heap.size w9 wx) (first | (go_keep; done) | exact SK.out _ (by first | with_reducible assumption | with_reducible exact K0.out | with_reducible exact K0.out.drew | with_reducible exact Below.drew (by with_reducible assumption)))
          (first
            | (go_at_call 36; ((with_reducible refine (HTx.1 _).mono ?_); rintro r wq ⟨rfl, hbq⟩; have qb : Below w9.heap.size w9 wq := Below.trans (by first | with_reducible assumption | with_reducible exact K0.out | with_reducible exact K0.out.drew | with_reducible exact Below.drew (by with_reducible assumption)) (hbq.mono (Below.size (by first | with_reducible assumption | with_reducible exact K0.out | with_reducible exact K0.out.drew | with_reducible exact Below.drew (by with_reducible assumption))))))
            | (go_at_call 8; ((with_reducible refine (HTx.2 _).mono ?_); rintro r wq ⟨rfl, hbq⟩; have qb : Below w9.heap.size w9 wq := Below.trans (by first | with_reducible assumption | with_reducible exact K0.out | with_reducible exact K0.out.drew | with_reducible exact Below.drew (by with_reducible assumption)) (hbq.mono (Below.size (by first | with_reducible assumption | with_reducible exact K0.out | with_reducible exact K0.out.drew | with_reducible exact Below.drew (by with_reducible assumption)))))))
        rename _ ∧ _ ∧ _ ∧ _ ∧ _ ∧ _ ∧ _ ∧ _ ∧ _ ∧ Below w9.heap.size w9 _ => hS
        obtain ⟨w10, rfl⟩ : ∃ x, x = wq := ⟨_, rfl⟩
        obtain ⟨x0_10, x1_10, xz_10, p0_10, p1_10, pz_10, t0_10, t1_10, tz_10, xb⟩ := hS
        have HB_10 := Lib.hid (HB_9.out.trans (xb.mono HB_9.out.size))
        clear xb HB_9 K0 SK x0_9 x1_9 p0_9 p1_9 t0_9 t1_9
        have nz_10 : w.heap.size ≤ w10.heap.size := HB_10.out.size
        go_wp2_with fail
        go_meet
        case rel => exact ⟨rfl, x0_10, x1_10, xz_10, p0_10, p1_10, pz_10, HB_10.out⟩
      · have h3 : decide (k ≤ 173) = false := by simpa using h2
        go_quiet (fail)
        go_wp2_with fail
        go_meet
        case rel => exact ⟨rfl, x0_9, x1_9, xz_9, p0_9, p1_9, pz_9, belowN HB_9.out _⟩
    · have h3 : decide (-126 ≤ k) = false := by simpa using h1
      go_quiet (fail)
      go_wp2_with fail
      go_meet
      case rel => exact ⟨rfl, x0_9, x1_9, xz_9, p0_9, p1_9, pz_9, belowN HB_9.out _⟩
  case rest =>
  clear HB_9 x0_9 x1_9 p0_9 p1_9 t0_9 t1_9 xz_9 pz_9 tz_9
  obtain ⟨w10, rfl⟩ : ∃ x, x = wc := ⟨_, rfl⟩
  obtain ⟨rfl, x0_10, x1_10, xz_10, p0_10, p1_10, pz_10, hb9⟩ := hcut
  have HB_10 := Lib.hid hb9
  clear hb9
  have nz_10 : w.heap.size ≤ w10.heap.size := HB_10.out.size
  go_wp2_with fail
  refine (HNx.out _).mono ?_
  rintro e w11 ⟨rfl, hb11⟩
  have x0_11 : w11.cell? ⟨w1.heap.size, 0, none⟩ = some (.int .i64 m) := carry hb11 (by go_simp)
  have x1_11 : w11.cell? ⟨w1.heap.size, 1, none⟩ = some (.int .i64 e) := carry hb11 (by go_simp)
  have xz_11 : w1.heap.size < w11.heap.size := by have := hb11.size; first | omega | (simp at this; omega)
  have p0_11 : w11.cell? ⟨w4.heap.size, 0, none⟩ = some (.int .i64 sm) := carry hb11 (by go_simp)
  have p1_11 : w11.cell? ⟨w4.heap.size, 1, none⟩ = some (.int .i64 se) := carry hb11 (by go_simp)
  have pz_11 : w4.heap.size < w11.heap.size := by have := hb11.size; first | omega | (simp at this; omega)
  have HB_11 := Lib.hid ((by repeat (first | exact HB_10.out | refine Below.drew ?_ | refine Below.setCell ?_ (by first | omega | (simp; done) | (simp; omega)) _ | refine Below.alloc ?_ (by first | omega | (simp; done) | (simp; omega)) _) : Below w.heap.size w _).trans (hb11.mono (by first | omega | (simp; done) | (simp; omega))))
  have nz_11 : w.heap.size ≤ w11.heap.size := HB_11.out.size
  clear hb11 x0_10 x1_10 p0_10 p1_10 HB_10
  go_wp2_with fail
  refine (HPx.out _).mono ?_
  rintro e w12 ⟨rfl, hb12⟩
  have x0_12 : w12.cell? ⟨w1.heap.size, 0, none⟩ = some (.int .i64 m) := carry hb12 (by go_simp)
  have x1_12 : w12.cell? ⟨w1.heap.size, 1, none⟩ = some (.int .i64 e) := carry hb12 (by go_simp)
  have xz_12 : w1.heap.size < w12.heap.size := by have := hb12.size; first | omega | (simp at this; omega)
  have p0_12 : w12.cell? ⟨w4.heap.size, 0, none⟩ = some (.int .i64 sm) := carry hb12 (by go_simp)
  have p1_12 : w12.cell? ⟨w4.heap.size, 1, none⟩ = some (.int .i64 se) := carry hb12 (by go_simp)
  have pz_12 : w4.heap.size < w12.heap.size := by have := hb12.size; first | omega | (simp at this; omega)
  have n0_12 : w12.cell? ⟨w11.heap.size, 0, none⟩ = some (.int .i64 mm) := carry hb12 (by go_simp)
  have n1_12 : w12.cell? ⟨w11.heap.size, 1, none⟩ = some (.int .i64 e) := carry hb12 (by go_simp)
  have nz_12 : w11.heap.size < w12.heap.size := by have := hb12.size; first | omega | (simp at this; omega)
  have HB_12 := Lib.hid ((by repeat (first | exact HB_11.out | refine Below.drew ?_ | refine Below.setCell ?_ (by first | omega | (simp; done) | (simp; omega)) _ | refine Below.alloc ?_ (by first | omega | (simp; done) | (simp; omega)) _) : Below w.heap.size w _).trans (hb12.mono (by first | omega | (simp; done) | (simp; omega))))
  have nz_12 : w.heap.size ≤ w12.heap.size := HB_12.out.size
  clear hb12 x0_11 x1_11 p0_11 p1_11 HB_11
  go_wp2_with fail
  refine (HPm.out _).mono ?_
  rintro e w13 ⟨rfl, hb13⟩
  have x0_13 : w13.cell? ⟨w1.heap.size, 0, none⟩ = some (.int .i64 m) := carry hb13 (by go_simp)
  have x1_13 : w13.cell? ⟨w1.heap.size, 1, none⟩ = some (.int .i64 e) := carry hb13 (by go_simp)
  have xz_13 : w1.heap.size < w13.heap.size := by have := hb13.size; first | omega | (simp at this; omega)
  have p0_13 : w13.cell? ⟨w4.heap.size, 0, none⟩ = some (.int .i64 sm) := carry hb13 (by go_simp)
  have p1_13 : w13.cell? ⟨w4.heap.size, 1, none⟩ = some (.int .i64 se) := carry hb13 (by go_simp)
  have pz_13 : w4.heap.size < w13.heap.size := by have := hb13.size; first | omega | (simp at this; omega)
  have n0_13 : w13.cell? ⟨w11.heap.size, 0, none⟩ = some (.int .i64 mm) := carry hb13 (by go_simp)
  have n1_13 : w13.cell? ⟨w11.heap.size, 1, none⟩ = some (.int .i64 e) := carry hb13 (by go_simp)
  have nz_13 : w11.heap.size < w13.heap.size := by have := hb13.size; first | omega | (simp at this; omega)
  have a0_13 : w13.cell? ⟨w12.heap.size, 0, none⟩ = some (.int .i64 am) := carry hb13 (by go_simp)
  have a1_13 : w13.cell? ⟨w12.heap.size, 1, none⟩ = some (.int .i64 ae) := carry hb13 (by go_simp)
  have az_13 : w12.heap.size < w13.heap.size := by have := hb13.size; first | omega | (simp at this; omega)
  have HB_13 := Lib.hid ((by repeat (first | exact HB_12.out | refine Below.drew ?_ | refine Below.setCell ?_ (by first | omega | (simp; done) | (simp; omega)) _ | refine Below.alloc ?_ (by first | omega | (simp; done) | (simp; omega)) _) : Below w.heap.size w _).trans (hb13.mono (by first | omega | (simp; done) | (simp; omega))))
  have nz_13 : w.heap.size ≤ w13.heap.size := HB_13.out.size
  clear hb13 x0_12 x1_12 p0_12 p1_12 n0_12 n1_12 HB_12
  go_upto_if 97 with fail
  generalize hW : w13.alloc _ = w14
  have x0_14 : w14.cell? ⟨w1.heap.size, 0, none⟩ = some (.int .i64 m) := by rw [← hW]; clear hW; go_simp
  have x1_14 : w14.cell? ⟨w1.heap.size, 1, none⟩ = some (.int .i64 e) := by rw [← hW]; clear hW; go_simp
  have xz_14 : w1.heap.size < w14.heap.size := by rw [← hW]; clear hW; simp <;> omega
  have p0_14 : w14.cell? ⟨w4.heap.size, 0, none⟩ = some (.int .i64 sm) := by rw [← hW]; clear hW; go_simp
  have p1_14 : w14.cell? ⟨w4.heap.size, 1, none⟩ = some (.int .i64 se) := by rw [← hW]; clear hW; go_simp
  have pz_14 : w4.heap.size < w14.heap.size := by rw [← hW]; clear hW; simp <;> omega
  have a0_14 : w14.cell? ⟨w12.heap.size, 0, none⟩ = some (.int .i64 am) := by rw [← hW]; clear hW; go_simp
  have a1_14 : w14.cell? ⟨w12.heap.size, 1, none⟩ = some (.int .i64 ae) := by rw [← hW]; clear hW; go_simp
  have az_14 : w12.heap.size < w14.heap.size := by rw [← hW]; clear hW; simp <;> omega
  have b0_14 : w14.cell? ⟨w13.heap.size, 0, none⟩ = some (.int .i64 bm) := by rw [← hW]; clear hW; go_simp
  have bf0_14 : w14.frozen? ⟨w13.heap.size, 0, none⟩ = false := by rw [← hW]; clear hW; go_simp
  have b1_14 : w14.cell? ⟨w13.heap.size, 1, none⟩ = some (.int .i64 ae) := by rw [← hW]; clear hW; go_simp
  have bf1_14 : w14.frozen? ⟨w13.heap.size, 1, none⟩ = false := by rw [← hW]; clear hW; go_simp
  have bz_14 : w13.heap.size < w14.heap.size := by rw [← hW]; clear hW; simp <;> omega
  have HB_14 := Lib.hid ((by rw [← hW]; clear hW; exact Below.alloc HB_13.out (by have := HB_13.out.size; omega) _) : Below w.heap.size w w14)
  clear hW HB_13 x0_13 x1_13 p0_13 p1_13 n0_13 n1_13 a0_13 a1_13
  have nz_14 : w.heap.size ≤ w14.heap.size := HB_14.out.size
  go_cut [7] from 95 to 102 (fun s7 wx => s7 = .int .i64 0 ∧ wx.cell? ⟨w1.heap.size, 0, none⟩ = some (.int .i64 m) ∧ wx.cell? ⟨w1.heap.size, 1, none⟩ = some (.int .i64 e) ∧ w1.heap.size < wx.heap.size ∧ wx.cell? ⟨w4.heap.size, 0, none⟩ = some (.int .i64 sm) ∧ wx.cell? ⟨w4.heap.size, 1, none⟩ = some (.int .i64 se) ∧ w4.heap.size < wx.heap.size ∧ wx.cell? ⟨w12.heap.size, 0, none⟩ = some (.int .i64 am) ∧ wx.cell? ⟨w12.heap.size, 1, none⟩ = some (.int .i64 ae) ∧ w12.heap.size < wx.heap.size ∧ wx.cell? ⟨w13.heap.size, 0, none⟩ = some (.int .i64 am) ∧ wx.cell? ⟨w13.heap.size, 1, none⟩ = some (.int .i64 ae) ∧ w13.heap.size < wx.heap.size ∧ Below w.heap.size w wx)
  case first =>
    by_cases hod : (k.tmod 2 != 0) = true
    · skip
      go_wp2_with fail
      refine (HOd.out hod _).mono ?_
      rintro e w15 ⟨rfl, hb15⟩
      have x0_15 : w15.cell? ⟨w1.heap.size, 0, none⟩ = some (.int .i64 m) := carry hb15 (by go_simp)
      have x1_15 : w15.cell? ⟨w1.heap.size, 1, none⟩ = some (.int .i64 e) := carry hb15 (by go_simp)
      have xz_15 : w1.heap.size < w15.heap.size := by have := hb15.size; first | omega | (simp at this; omega)
      have p0_15 : w15.cell? ⟨w4.heap.size, 0, none⟩ = some (.int .i64 sm) := carry hb15 (by go_simp)
      have p1_15 : w15.cell? ⟨w4.heap.size, 1, none⟩ = some (.int .i64 se) := carry hb15 (by go_simp)
      have pz_15 : w4.heap.size < w15.heap.size := by have := hb15.size; first | omega | (simp at this; omega)
      have a0_15 : w15.cell? ⟨w12.heap.size, 0, none⟩ = some (.int .i64 am) := carry hb15 (by go_simp)
      have a1_15 : w15.cell? ⟨w12.heap.size, 1, none⟩ = some (.int .i64 ae) := carry hb15 (by go_simp)
      have az_15 : w12.heap.size < w15.heap.size := by have := hb15.size; first | omega | (simp at this; omega)
      have b0_15 : w15.cell? ⟨w13.heap.size, 0, none⟩ = some (.int .i64 bm) := carry hb15 (by go_simp)
      have bf0_15 : w15.frozen? ⟨w13.heap.size, 0, none⟩ = false := carryF hb15 (v := .int .i64 bm) (by go_simp) (by go_simp)
      have b1_15 : w15.cell? ⟨w13.heap.size, 1, none⟩ = some (.int .i64 ae) := carry hb15 (by go_simp)
      have bf1_15 : w15.frozen? ⟨w13.heap.size, 1, none⟩ = false := carryF hb15 (v := .int .i64 ae) (by go_simp) (by go_simp)
      have bz_15 : w13.heap.size < w15.heap.size := by have := hb15.size; first | omega | (simp at this; omega)
      have HB_15 := Lib.hid ((by repeat (first | exact HB_14.out | refine Below.drew ?_ | refine Below.setCell ?_ (by first | omega | (simp; done) | (simp; omega)) _ | refine Below.alloc ?_ (by first | omega | (simp; done) | (simp; omega)) _) : Below w.heap.size w _).trans (hb15.mono (by first | omega | (simp; done) | (simp; omega))))
      have nz_15 : w.heap.size ≤ w15.heap.size := HB_15.out.size
      clear hb15 x0_14 x1_14 p0_14 p1_14 a0_14 a1_14 b0_14 bf0_14 b1_14 bf1_14 HB_14
      go_wp2_with fail
      generalize hW : (w15.setCell _ _).setCell _ _ = wy
      go_meet
      case rel => exact ⟨rfl, (show wy.cell? ⟨w1.heap.size, 0, none⟩ = some (.int .i64 m) by rw [← hW]; clear hW; go_simp), (show wy.cell? ⟨w1.heap.size, 1, none⟩ = some (.int .i64 e) by rw [← hW]; clear hW; go_simp), (show w1.heap.size < wy.heap.size by rw [← hW]; clear hW; simp <;> omega), (show wy.cell? ⟨w4.heap.size, 0, none⟩ = some (.int .i64 sm) by rw [← hW]; clear hW; go_simp), (show wy.cell? ⟨w4.heap.size, 1, none⟩ = some (.int .i64 se) by rw [← hW]; clear hW; go_simp), (show w4.heap.size < wy.heap.size by rw [← hW]; clear hW; simp <;> omega), (show wy.cell? ⟨w12.heap.size, 0, none⟩ = some (.int .i64 am) by rw [← hW]; clear hW; go_simp), (show wy.cell? ⟨w12.heap.size, 1, none⟩ = some (.int .i64 ae) by rw [← hW]; clear hW; go_simp), (show w12.heap.size < wy.heap.size by rw [← hW]; clear hW; simp <;> omega), (show wy.cell? ⟨w13.heap.size, 0, none⟩ = some (.int .i64 am) by rw [← hW]; clear hW; go_simp), (show wy.cell? ⟨w13.heap.size, 1, none⟩ = some (.int .i64 ae) by rw [← hW]; clear hW; go_simp), (show w13.heap.size < wy.heap.size by rw [← hW]; clear hW; simp <;> omega), (show Below w.heap.size w wy by rw [← hW]; clear hW; repeat (first | exact HB_15.out | refine Below.setCell ?_ (by first | omega | (simp; done) | (simp; omega)) _))⟩
    · have hev : (k.tmod 2 != 0) = false := by simpa using hod
      obtain rfl := HEv.out hev
      go_wp2_with fail
      go_meet
      case rel => exact ⟨rfl, x0_14, x1_14, xz_14, p0_14, p1_14, pz_14, a0_14, a1_14, az_14, b0_14, b1_14, bz_14, HB_14.out⟩
  case rest =>
  clear HB_14 x0_14 x1_14 p0_14 p1_14 a0_14 a1_14 b0_14 bf0_14 b1_14 bf1_14 xz_14 pz_14 az_14 bz_14
  obtain ⟨w15, rfl⟩ : ∃ x, x = wc := ⟨_, rfl⟩
  obtain ⟨rfl, x0_15, x1_15, xz_15, p0_15, p1_15, pz_15, a0_15, a1_15, az_15, b0_15, b1_15, bz_15, hb9⟩ := hcut
  have HB_15 := Lib.hid hb9
  clear hb9
  have nz_15 : w.heap.size ≤ w15.heap.size := HB_15.out.size
  go_wp2_with fail
  have K0 := Lib.hid (Below.refl w15.heap.size w15)
  have SK := Lib.hid (show ∀ wx, Below w15.heap.size w15 wx → wx.cell? ⟨w1.heap.size, 0, none⟩ = some (.int .i64 m) ∧ wx.cell? ⟨w1.heap.size, 1, none⟩ = some (.int .i64 e) ∧ w1.heap.size < wx.heap.size ∧ wx.cell? ⟨w4.heap.size, 0, none⟩ = some (.int .i64 sm) ∧ wx.cell? ⟨w4.heap.size, 1, none⟩ = some (.int .i64 se) ∧ w4.heap.size < wx.heap.size ∧ Below w15.heap.size w15 wx from fun wx h => ⟨carry h x0_15, carry h x1_15, Nat.lt_of_lt_of_le xz_15 h.size, carry h p0_15, carry h p1_15, Nat.lt_of_lt_of_le pz_15 h.size, h⟩)
  go_wp2_with fail
  go_region_held3 (fun wx => wx.cell? ⟨w1.heap.size, 0, none⟩ = some (.int .i64 m) ∧ wx.cell? ⟨w1.heap.size, 1, none⟩ = some (.int .i64 e) ∧ w1.heap.size < wx.heap.size ∧ wx.cell? ⟨w4.heap.size, 0, none⟩ = some (.int .i64 sm) ∧ wx.cell? ⟨w4.heap.size, 1, none⟩ = some (.int .i64 se) ∧ w4.heap.size < wx.heap.size ∧ Below w15.heap.size w15 wx) (first | (go_keep; done) | exact SK.out _ (by first | with_reducible assumption | with_reducible exact K0.out | with_reducible exact K0.out.drew | with_reducible exact Below.drew (by with_reducible assumption)))
    (first
      | (go_at_call 36; ((with_reducible refine (HT1.out _).mono ?_); rintro r wq ⟨rfl, hbq⟩; have qb : Below w15.heap.size w15 wq := Below.trans (by first | with_reducible assumption | with_reducible exact K0.out | with_reducible exact K0.out.drew | with_reducible exact Below.drew (by with_reducible assumption)) (hbq.mono (Below.size (by first | with_reducible assumption | with_reducible exact K0.out | with_reducible exact K0.out.drew | with_reducible exact Below.drew (by with_reducible assumption))))))
      | (go_at_call 19; ((with_reducible refine (HC.out _).mono ?_); rintro r wq ⟨rfl, hbq⟩; have qb : Below w15.heap.size w15 wq := Below.trans (by first | with_reducible assumption | with_reducible exact K0.out | with_reducible exact K0.out.drew | with_reducible exact Below.drew (by with_reducible assumption)) (hbq.mono (Below.size (by first | with_reducible assumption | with_reducible exact K0.out | with_reducible exact K0.out.drew | with_reducible exact Below.drew (by with_reducible assumption)))))))
  rename _ ∧ _ ∧ _ ∧ _ ∧ _ ∧ _ ∧ Below w15.heap.size w15 _ => hS
  obtain ⟨w16, rfl⟩ : ∃ x, x = wq := ⟨_, rfl⟩
  obtain ⟨x0_16, x1_16, xz_16, p0_16, p1_16, pz_16, xb⟩ := hS
  have HB_16 := Lib.hid (HB_15.out.trans (xb.mono HB_15.out.size))
  clear xb HB_15 K0 SK x0_15 x1_15 p0_15 p1_15 a0_15 a1_15 b0_15 b1_15
  have nz_16 : w.heap.size ≤ w16.heap.size := HB_16.out.size
  go_wp2_with fail
  refine (HAb.out _).mono ?_
  rintro e w17 ⟨rfl, hb17⟩
  have x0_17 : w17.cell? ⟨w1.heap.size, 0, none⟩ = some (.int .i64 m) := carry hb17 (by go_simp)
  have x1_17 : w17.cell? ⟨w1.heap.size, 1, none⟩ = some (.int .i64 e) := carry hb17 (by go_simp)
  have xz_17 : w1.heap.size < w17.heap.size := by have := hb17.size; first | omega | (simp at this; omega)
  have p0_17 : w17.cell? ⟨w4.heap.size, 0, none⟩ = some (.int .i64 sm) := carry hb17 (by go_simp)
  have p1_17 : w17.cell? ⟨w4.heap.size, 1, none⟩ = some (.int .i64 se) := carry hb17 (by go_simp)
  have pz_17 : w4.heap.size < w17.heap.size := by have := hb17.size; first | omega | (simp at this; omega)
  have HB_17 := Lib.hid ((by repeat (first | exact HB_16.out | refine Below.drew ?_ | refine Below.setCell ?_ (by first | omega | (simp; done) | (simp; omega)) _ | refine Below.alloc ?_ (by first | omega | (simp; done) | (simp; omega)) _) : Below w.heap.size w _).trans (hb17.mono (by first | omega | (simp; done) | (simp; omega))))
  have nz_17 : w.heap.size ≤ w17.heap.size := HB_17.out.size
  clear hb17 x0_16 x1_16 p0_16 p1_16 HB_16
  go_wp2_with fail
  refine (HSq.out _).mono ?_
  rintro e w18 ⟨rfl, hb18⟩
  have x0_18 : w18.cell? ⟨w1.heap.size, 0, none⟩ = some (.int .i64 m) := carry hb18 (by go_simp)
  have x1_18 : w18.cell? ⟨w1.heap.size, 1, none⟩ = some (.int .i64 e) := carry hb18 (by go_simp)
  have xz_18 : w1.heap.size < w18.heap.size := by have := hb18.size; first | omega | (simp at this; omega)
  have p0_18 : w18.cell? ⟨w4.heap.size, 0, none⟩ = some (.int .i64 sm) := carry hb18 (by go_simp)
  have p1_18 : w18.cell? ⟨w4.heap.size, 1, none⟩ = some (.int .i64 se) := carry hb18 (by go_simp)
  have pz_18 : w4.heap.size < w18.heap.size := by have := hb18.size; first | omega | (simp at this; omega)
  have u0_18 : w18.cell? ⟨w17.heap.size, 0, none⟩ = some (.int .i64 rm) := carry hb18 (by go_simp)
  have u1_18 : w18.cell? ⟨w17.heap.size, 1, none⟩ = some (.int .i64 e) := carry hb18 (by go_simp)
  have uz_18 : w17.heap.size < w18.heap.size := by have := hb18.size; first | omega | (simp at this; omega)
  have HB_18 := Lib.hid ((by repeat (first | exact HB_17.out | refine Below.drew ?_ | refine Below.setCell ?_ (by first | omega | (simp; done) | (simp; omega)) _ | refine Below.alloc ?_ (by first | omega | (simp; done) | (simp; omega)) _) : Below w.heap.size w _).trans (hb18.mono (by first | omega | (simp; done) | (simp; omega))))
  have nz_18 : w.heap.size ≤ w18.heap.size := HB_18.out.size
  clear hb18 x0_17 x1_17 p0_17 p1_17 HB_17
  go_wp2_with fail
  refine (HSan.out _ (by repeat (first | exact HB_18.out | refine Below.drew ?_ | refine Below.setCell ?_ (by first | omega | (simp; done) | (simp; omega)) _ | refine Below.alloc ?_ (by first | omega | (simp; done) | (simp; omega)) _))).mono ?_
  rintro e w19 ⟨rfl, hb19⟩
  have u0_19 : w19.cell? ⟨w17.heap.size, 0, none⟩ = some (.int .i64 rm) := carry hb19 (by go_simp)
  have u1_19 : w19.cell? ⟨w17.heap.size, 1, none⟩ = some (.int .i64 e) := carry hb19 (by go_simp)
  have uz_19 : w17.heap.size < w19.heap.size := by have := hb19.size; first | omega | (simp at this; omega)
  have v0_19 : w19.cell? ⟨w18.heap.size, 0, none⟩ = some (.int .i64 rm) := carry hb19 (by go_simp)
  have v1_19 : w19.cell? ⟨w18.heap.size, 1, none⟩ = some (.int .i64 e) := carry hb19 (by go_simp)
  have vz_19 : w18.heap.size < w19.heap.size := by have := hb19.size; first | omega | (simp at this; omega)
  have HB_19 := Lib.hid ((by repeat (first | exact HB_18.out | refine Below.drew ?_ | refine Below.setCell ?_ (by first | omega | (simp; done) | (simp; omega)) _ | refine Below.alloc ?_ (by first | omega | (simp; done) | (simp; omega)) _) : Below w.heap.size w _).trans (hb19.mono (by first | omega | (simp; done) | (simp; omega))))
  have nz_19 : w.heap.size ≤ w19.heap.size := HB_19.out.size
  clear hb19 x0_18 x1_18 p0_18 p1_18 u0_18 u1_18 HB_18
  go_wp2_with fail
  go_ret
  exact ⟨rfl, by repeat (first | exact HB_19.out | refine Below.drew ?_ | refine Below.setCell ?_ (by first | omega | (simp; done) | (simp; omega)) _ | refine Below.alloc ?_ (by first | omega | (simp; done) | (simp; omega)) _)⟩

set_option maxRecDepth 100000 in
set_option maxHeartbeats 1600000 in
theorem eq_yes (a b x : Int) (w : World) :
    Calls Tryz.prog 34 #[realV a b, .int .i64 x, realV a b, .int .i64 x] w fun r w' => r = .returned (.bool true) ∧ Below w.heap.size w w' := by
  go_enter Tryz.func34, Tryz.ntmps34
  go_wp2_with fail
  go_ret
  exact ⟨rfl, by repeat (first | exact Below.refl _ _ | refine Below.drew ?_ | refine Below.alloc ?_ (by first | omega | (simp; done) | (simp; omega)) _)⟩

theorem ifn (c : Prop) [Decidable c] : (if c then (none : Option Int).map (fun p => -p) else none) = none := by split <;> rfl

theorem pwR_form (m e k : Int) : ∃ a b x : Int, pwR m e k = rE a b x := by
  unfold pwR
  by_cases hk : 0 ≤ k
  · rw [if_pos hk]
    cases pwO (UU m e) k.toNat with
    | none => exact ⟨_, _, _, rfl⟩
    | some p => exact ⟨_, _, _, rfl⟩
  · rw [if_neg hk]
    by_cases hm : m = 0
    · rw [if_pos hm]; exact ⟨_, _, _, rfl⟩
    · rw [if_neg hm]
      cases pwO (UU m e) (-k).toNat with
      | none => exact ⟨_, _, _, rfl⟩
      | some p =>
        show ∃ a b x : Int, (if aM p = 0 then rE 0 0 3 else oR (rI (quM 8388608 (aM p)) (quE 8388608 (-23) (aE p)))) = rE a b x
        by_cases hf : aM p = 0
        · rw [if_pos hf]; exact ⟨_, _, _, rfl⟩
        · rw [if_neg hf]; exact ⟨_, _, _, rfl⟩

theorem oR_mI (U V : Int) : (∃ p, mI U V = some p ∧ oR (RI (U * V) 150) = rE (aM p) (aE p) 0 ∧ p = RI (U * V) 150) ∨ (mI U V = none ∧ oR (RI (U * V) 150) = rE 0 0 3) := by
  unfold mI
  by_cases h : -2533359615 ≤ RI (U * V) 150 ∧ RI (U * V) 150 ≤ 2533359615
  · left
    refine ⟨_, if_pos h, ?_, rfl⟩
    show rE (oM _) (oE _) (oX _) = _
    unfold oM oE oX
    rw [if_pos h, if_pos h, if_pos h]
  · right
    refine ⟨if_neg h, ?_⟩
    show rE (oM _) (oE _) (oX _) = _
    unfold oM oE oX
    rw [if_neg h, if_neg h, if_neg h]

theorem pwR_1 {m e : Int} (h : vr m e = true) : pwR m e 1 = rE m e 0 := by
  unfold pwR
  rw [if_pos (by decide), show (1 : Int).toNat = 1 from rfl, pw_1 h]
  show rE (aM (ix m e)) (aE (ix m e)) 0 = _
  rw [(at_ix h).1, (at_ix h).2]

theorem pwR_2 {m e : Int} (h : vr m e = true) : pwR m e 2 = oR (RI (UU m e * UU m e) 150) := by
  unfold pwR
  rw [if_pos (by decide), show (2 : Int).toNat = 2 from rfl, pw_2 h]
  rcases oR_mI (UU m e) (UU m e) with ⟨p, h1, h2, _⟩ | ⟨h1, h2⟩
  · rw [h1, h2]
  · rw [h1, h2]

theorem pwR_two (k : Int) (h1 : -126 ≤ k) (h2 : k ≤ 173) : pwR 8388608 (-22) k = rE 8388608 (k - 23) 0 := by
  unfold pwR
  by_cases hk : 0 ≤ k
  · rw [if_pos hk, pw_two k.toNat (by omega), Int.toNat_of_nonneg hk]
    have hv := two_vr (t := k) (by omega) h2
    show rE (aM (ix 8388608 (k - 23))) (aE (ix 8388608 (k - 23))) 0 = _
    rw [(at_ix hv).1, (at_ix hv).2]
  · rw [if_neg hk, if_neg (by decide), pw_two (-k).toNat (by omega), Int.toNat_of_nonneg (by omega)]
    have hv := two_vr (t := -k) (by omega) (by omega)
    show (if aM (ix 8388608 (-k - 23)) = 0 then rE 0 0 3 else oR (rI (quM 8388608 (aM (ix 8388608 (-k - 23)))) (quE 8388608 (-23) (aE (ix 8388608 (-k - 23)))))) = _
    rw [(at_ix hv).1, (at_ix hv).2, if_neg (by decide), inv_two (t := -k) (by omega) (by omega)]
    have hw := two_vr (t := k) (by omega) (by omega)
    rw [show - -k - 23 = k - 23 from by omega]
    obtain ⟨a, b, c⟩ := o_ix hw
    show rE (oM (ix 8388608 (k - 23))) (oE (ix 8388608 (k - 23))) (oX (ix 8388608 (k - 23))) = _
    rw [a, b, c]

theorem quM_nega (k : Int) (hk : k ≠ 0) : quM 8388608 (-k) = -quM 8388608 k := by
  by_cases h : 0 < k
  · exact quM_neg h
  · have := quM_neg (m := 8388608) (k := -k) (by omega)
    rw [Int.neg_neg] at this
    omega

/-- the power of the opposite -/
theorem pwR_neg {m e : Int} (h : vr m e = true) (k : Int) : ∃ am ae ax bm : Int, pwR m e k = rE am ae ax ∧ pwR (-m) e k = rE bm ae ax ∧ vr bm ae = true ∧ (k % 2 = 1 → bm = -am) ∧ (k % 2 = 0 → bm = am) := by
  have z0 : vr 0 0 = true := by decide
  unfold pwR
  rw [UU_neg]
  by_cases hk : 0 ≤ k
  · rw [if_pos hk, if_pos hk, pw_neg]
    cases ho : pwO (UU m e) k.toNat with
    | none =>
      refine ⟨0, 0, 3, 0, rfl, ?_, z0, fun _ => rfl, fun _ => rfl⟩
      rw [ifn]
    | some p =>
      have hp := pwO_in _ _ ho
      have hv := at_vr hp.1 hp.2
      by_cases hn : k.toNat % 2 = 1
      · rw [if_pos hn]
        refine ⟨aM p, aE p, 0, -aM p, rfl, ?_, by rw [vr_neg]; exact hv, fun _ => rfl, fun _ => by omega⟩
        show rE (aM (-p)) (aE (-p)) 0 = _
        rw [aM_neg, aE_neg]
      · rw [if_neg hn]
        exact ⟨aM p, aE p, 0, aM p, rfl, rfl, hv, fun _ => by omega, fun _ => rfl⟩
  · rw [if_neg hk, if_neg hk]
    by_cases hm : m = 0
    · rw [if_pos hm, if_pos (by omega)]
      exact ⟨0, 0, 5, 0, rfl, rfl, z0, fun _ => rfl, fun _ => rfl⟩
    · rw [if_neg hm, if_neg (by omega), pw_neg]
      cases ho : pwO (UU m e) (-k).toNat with
      | none =>
        refine ⟨0, 0, 3, 0, rfl, ?_, z0, fun _ => rfl, fun _ => rfl⟩
        rw [ifn]
      | some p =>
        have hp := pwO_in _ _ ho
        have hv := at_vr hp.1 hp.2
        obtain ⟨f1, f2, g1, g2⟩ := vr_bd hv
        show ∃ am ae ax bm : Int, (if aM p = 0 then rE 0 0 3 else oR (rI (quM 8388608 (aM p)) (quE 8388608 (-23) (aE p)))) = rE am ae ax ∧ _
        by_cases hf : aM p = 0
        · rw [if_pos hf]
          refine ⟨0, 0, 3, 0, rfl, ?_, z0, fun _ => rfl, fun _ => rfl⟩
          by_cases hn : (-k).toNat % 2 = 1
          · rw [if_pos hn]
            show (if aM (-p) = 0 then rE 0 0 3 else _) = _
            rw [if_pos (by rw [aM_neg, hf]; rfl)]
          · rw [if_neg hn]
            show (if aM p = 0 then rE 0 0 3 else _) = _
            rw [if_pos hf]
        · rw [if_neg hf]
          obtain ⟨I, hI⟩ : ∃ I, I = rI (quM 8388608 (aM p)) (quE 8388608 (-23) (aE p)) := ⟨_, rfl⟩
          rw [← hI]
          by_cases hn : (-k).toNat % 2 = 1
          · rw [if_pos hn]
            refine ⟨oM I, oE I, oX I, -oM I, rfl, ?_, by rw [vr_neg]; exact o_vr I, fun _ => rfl, fun _ => by omega⟩
            show (if aM (-p) = 0 then rE 0 0 3 else oR (rI (quM 8388608 (aM (-p))) (quE 8388608 (-23) (aE (-p))))) = _
            have hqb := quM_bd 8388608 (aM p) (by omega) (by omega) (by omega) (by omega) hf
            obtain ⟨s1, s2, _, _⟩ := quS_bd 8388608 (by omega) (by omega)
            rw [aM_neg, aE_neg, if_neg (by omega), quM_nega _ hf, rI_neg (by omega) (by omega) (by unfold quE; omega), ← hI]
            show rE (oM (-I)) (oE (-I)) (oX (-I)) = _
            rw [oM_neg, oE_neg, oX_neg]
          · rw [if_neg hn]
            refine ⟨oM I, oE I, oX I, oM I, rfl, ?_, o_vr I, fun _ => by omega, fun _ => rfl⟩
            show (if aM p = 0 then rE 0 0 3 else oR (rI (quM 8388608 (aM p)) (quE 8388608 (-23) (aE p)))) = _
            rw [if_neg hf, ← hI]

theorem aM_nn {p : Int} (h : 0 ≤ p) : 0 ≤ aM p := by unfold aM sx ab; (repeat' split) <;> omega

theorem run (i0 k : Int) (w : World) (w0 : (Lit.int .i64 i0).wf = true) (w1 : (Lit.int .i64 k).wf = true) (hP : P10 w) (hQ : TabQ w) :
    Calls Tryz.prog 6 #[.int .i64 i0, .int .i64 k] w fun r w' => r = .returned (.bool true) ∧ Below w.heap.size w w' := by
  have HS := hsan w hP hQ
  have hk : -9223372036854775808 ≤ k ∧ k ≤ 9223372036854775807 := by simpa [Lit.wf, IntKind.min, IntKind.max, IntKind.signed, IntKind.bits] using w1
  have hj := tmod_bd i0 (n := 2533359616) (by decide)
  obtain ⟨j, hj0⟩ : ∃ j, i0.tmod 2533359616 = j := ⟨_, rfl⟩
  rw [hj0] at hj
  have HAt := Lib.hid (fun W => lat_any i0 j W hj0 (by omega) (by omega))
  have h : vr (aM j) (aE j) = true := at_vr (by omega) (by omega)
  generalize aM j = m at HAt h
  generalize aE j = e at HAt h
  clear hj hj0 w0 w1
  obtain ⟨m1, m2, e1, e2⟩ := vr_bd h
  have HP1 : Hid (∀ W : World, Calls Tryz.prog 37 #[realV m e, .int .i64 1] W fun r w' => r = .returned (rE m e 0) ∧ Below W.heap.size W w') := Lib.hid (fun W => by
    have := pow_any m e 1 W h (by decide) (by decide)
    rwa [pwR_1 h] at this)
  have hv2 : vr 8388608 (-22) = true := by decide
  have HF2 : Hid (∀ W : World, Calls Tryz.prog 10 #[.int .i64 2] W fun r w' => r = .returned (realV 8388608 (-22)) ∧ Below W.heap.size W w') := Lib.hid (fun W => by
    have h := fromInt_any 2 W (by decide) (by decide)
    rw [show aM (rI 2 0) = 8388608 from by decide +kernel, show aE (rI 2 0) = -22 from by decide +kernel] at h
    exact h)
  obtain ⟨pm, pe, t, hE, hr⟩ : ∃ pm pe t : Int, pwR 8388608 (-22) k = rE pm pe t ∧ (-126 ≤ k ∧ k ≤ 173 → pm = 8388608 ∧ pe = k - 23 ∧ t = 0) := by
    by_cases hr : -126 ≤ k ∧ k ≤ 173
    · exact ⟨_, _, _, pwR_two k hr.1 hr.2, fun _ => ⟨rfl, rfl, rfl⟩⟩
    · obtain ⟨a, b, x, hE⟩ := pwR_form 8388608 (-22) k
      exact ⟨a, b, x, hE, fun h => absurd h hr⟩
  have HPn : Hid (∀ W : World, Calls Tryz.prog 37 #[realV 8388608 (-22), .int .i64 k] W fun r w' => r = .returned (rE pm pe t) ∧ Below W.heap.size W w') := Lib.hid (fun W => by
    have := pow_any 8388608 (-22) k W hv2 hk.1 hk.2
    rwa [hE] at this)
  have HTw : Hid (-126 ≤ k ∧ k ≤ 173 → (∀ W : World, Calls Tryz.prog 36 #[.int .i64 k] W fun r w' => r = .returned (realV pm pe) ∧ Below W.heap.size W w') ∧ (∀ W : World, Calls Tryz.prog 8 #[realV pm pe, .int .i64 t, realV pm pe] W fun r w' => r = .returned (.bool true) ∧ Below W.heap.size W w')) := Lib.hid (fun hc => by
    obtain ⟨rfl, rfl, rfl⟩ := hr hc
    exact ⟨fun W => two_any k W (by omega) (by omega), fun W => is_yes _ _ W⟩)
  obtain ⟨am, ae, ax, bm, q1, q2, q3, q4, q5⟩ := pwR_neg h k
  have HPx : Hid (∀ W : World, Calls Tryz.prog 37 #[realV m e, .int .i64 k] W fun r w' => r = .returned (rE am ae ax) ∧ Below W.heap.size W w') := Lib.hid (fun W => by
    have := pow_any m e k W h hk.1 hk.2
    rwa [q1] at this)
  have HPm : Hid (∀ W : World, Calls Tryz.prog 37 #[realV (-m) e, .int .i64 k] W fun r w' => r = .returned (rE bm ae ax) ∧ Below W.heap.size W w') := Lib.hid (fun W => by
    have := pow_any (-m) e k W (by rw [vr_neg]; exact h) hk.1 hk.2
    rwa [q2] at this)
  have hmod : (k.tmod 2 != 0) = decide (k % 2 = 1) := by
    have h9 : k.tmod 2 = 0 ↔ k % 2 = 0 := by
      rw [← Int.dvd_iff_tmod_eq_zero, Int.dvd_iff_emod_eq_zero]
    by_cases h8 : k % 2 = 1
    · rw [decide_eq_true h8, bne_iff_ne]
      exact fun h7 => by have := h9.1 h7; omega
    · rw [decide_eq_false h8]
      have := h9.2 (by omega)
      rw [this]; rfl
  have HOd : Hid ((k.tmod 2 != 0) = true → ∀ W : World, Calls Tryz.prog 16 #[realV bm ae] W fun r w' => r = .returned (rE am ae 0) ∧ Below W.heap.size W w') := Lib.hid (fun hc W => by
    rw [hmod] at hc
    have h8 := q4 (of_decide_eq_true hc)
    have h9 : -bm = am := by rw [h8, Int.neg_neg]
    have h7 := neg_ok bm ae W (Lib.hid q3)
    rw [h9] at h7
    exact h7)
  have HEv : Hid ((k.tmod 2 != 0) = false → bm = am) := Lib.hid (fun hc => by
    rw [hmod] at hc
    exact q5 (by have := of_decide_eq_false hc; omega))
  have HP2 : Hid (∀ W : World, Calls Tryz.prog 37 #[realV m e, .int .i64 2] W fun r w' => r = .returned (oR (RI (UU m e * UU m e) 150)) ∧ Below W.heap.size W w') := Lib.hid (fun W => by
    have := pow_any m e 2 W h (by decide) (by decide)
    rwa [pwR_2 h] at this)
  have HM : Hid (∀ W : World, Calls Tryz.prog 25 #[realV m e, realV m e] W fun r w' => r = .returned (oR (RI (UU m e * UU m e) 150)) ∧ Below W.heap.size W w') := Lib.hid (fun W => by
    have := mul_ok m e m e W (Lib.hid (by rw [h]; rfl))
    rwa [mul_i h h] at this)
  have HI1 := Lib.hid (fun W => is_yes m e W)
  have HNx := Lib.hid (fun W => neg_ok m e W (Lib.hid h))
  rcases oR_mI (UU m e) (UU m e) with ⟨p, g1, g2, g3⟩ | ⟨g1, g2⟩
  · rw [g2] at HP2 HM
    have hp := mI_in g1
    have hv := at_vr hp.1 hp.2
    have hp0 : 0 ≤ p := by
      rw [g3]
      have := RI_mono (show 0 ≤ UU m e * UU m e from by
        rcases Int.le_total 0 (UU m e) with a | a
        · exact Int.mul_nonneg a a
        · have := Int.mul_nonneg (show 0 ≤ -UU m e by omega) (show 0 ≤ -UU m e by omega)
          rwa [Int.neg_mul_neg] at this) 150
      rwa [RI_zero] at this
    have hs0 : ¬ aM p < 0 := by have := aM_nn hp0; omega
    have HSq : Hid (∀ W : World, Calls Tryz.prog 27 #[realV (aM p) (aE p)] W fun r w' => r = .returned (oR (SI (VI p))) ∧ Below W.heap.size W w') := Lib.hid (fun W => by
      have hq := sqrt_ok (aM p) (aE p) W (Lib.hid hv) hs0
      rwa [oV_oR, sq_val hv (by omega)] at hq)
    have HT1 := Lib.hid (fun W => two_any (-100) W (by decide) (by decide))
    have hvt : vr 8388608 (-123) = true := by decide
    have HC := Lib.hid (fun W => rcmp_ok (aM p) (aE p) 8388608 (-123) W hv hvt)
    have HAb := Lib.hid (fun W => abs_ok m e W (Lib.hid h))
    by_cases hc : c3 (ix (aM p) (aE p)) (ix 8388608 (-123)) < 0
    · have hle : SI (VI p) ≤ 2533359615 := si_le hv
      have hnn : 0 ≤ SI (VI p) := by unfold SI; exact Int.natCast_nonneg _
      have hx : oX (SI (VI p)) = 0 := by unfold oX; rw [if_pos ⟨by omega, hle⟩]
      have HSq2 : Hid (∀ W : World, Calls Tryz.prog 27 #[realV (aM p) (aE p)] W fun r w' => r = .returned (rE (oM (SI (VI p))) (oE (SI (VI p))) 0) ∧ Below W.heap.size W w') := Lib.hid (fun W => by
        have hq := HSq.out W
        rwa [show oR (SI (VI p)) = rE (oM (SI (VI p))) (oE (SI (VI p))) (oX (SI (VI p))) from rfl, hx] at hq)
      exact w_small i0 k m e (aM p) (aE p) pm pe (-m) am ae ax bm _ (ab m) _ _ t w HAt HP1 HP2 HM HI1 (Lib.hid (fun W => eq_yes _ _ _ W)) HF2 HPn HTw HNx HPx HPm HOd HEv HS HT1 HC HAb HSq2 hc
    · have hge : 2 ^ 50 ≤ VI p := by
        have h1 : ¬ ix (aM p) (aE p) < ix 8388608 (-123) := fun hl => hc (by rw [c3_lt hl]; decide)
        rw [UU_lt hv hvt, show (-123 : Int) = -100 - 23 from rfl, two_UU (t := -100) (by decide)] at h1
        have : ((-100 : Int) + 150).toNat = 50 := rfl
        rw [this] at h1
        exact Int.not_lt.1 h1
      have hsr := sq_root h p g1 hge
      have hab : vr (ab m) e = true := by
        unfold ab
        split
        · rw [vr_neg]; exact h
        · exact h
      have HSq2 : Hid (∀ W : World, Calls Tryz.prog 27 #[realV (aM p) (aE p)] W fun r w' => r = .returned (rE (ab m) e 0) ∧ Below W.heap.size W w') := Lib.hid (fun W => by
        have hq := HSq.out W
        rw [hsr] at hq
        obtain ⟨a, b, c⟩ := o_ix hab
        rwa [show oR (ix (ab m) e) = rE (oM (ix (ab m) e)) (oE (ix (ab m) e)) (oX (ix (ab m) e)) from rfl, a, b, c] at hq)
      exact w_equal i0 k m e (aM p) (aE p) pm pe (-m) am ae ax bm _ (ab m) 0 0 t w HAt HP1 HP2 HM HI1 (Lib.hid (fun W => eq_yes _ _ _ W)) HF2 HPn HTw HNx HPx HPm HOd HEv HS HT1 HC HAb HSq2 hc
  · rw [g2] at HP2 HM
    exact w_over i0 k m e 0 0 pm pe (-m) am ae ax bm 0 0 0 0 t w HAt HP1 HP2 HM HI1 (Lib.hid (fun W => eq_yes _ _ _ W)) HF2 HPn HTw HNx HPx HPm HOd HEv HS

end Go.Proofs.YtbfknapmhkpgcaaGreatDoor.realPowerLaws
