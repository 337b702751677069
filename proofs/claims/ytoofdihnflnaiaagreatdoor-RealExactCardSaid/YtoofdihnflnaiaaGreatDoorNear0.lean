/-
  PACKAGE real: the laws' at, scaled and distance.
-/
import Derived.Test.YtoofdihnflnaiaaGreatDoorNear
import Derived.Test.YtoofdihnflnaiaaGreatDoorSanH

namespace Go.Proofs.YtoofdihnflnaiaaGreatDoor
open Go.RowKit
set_option linter.unusedVariables false

set_option maxRecDepth 100000 in
set_option maxHeartbeats 1600000 in
theorem lat_any (i j : Int) (w : World) (hj : i.tmod 2533359616 = j) (h1 : -2533359615 ≤ j) (h2 : j ≤ 2533359615) :
    Calls Tryz.prog 8 #[.int .i64 i] w fun r w' => r = .returned (realV (aM j) (aE j)) ∧ Below w.heap.size w w' := by
  have HA := Lib.hid (at_ok j)
  go_enter Tryz.func8, Tryz.ntmps8
  go_wp2_with fail

  refine (HA.out _ h1 h2).mono ?_
  rintro r w1 ⟨rfl, hb1⟩
  have hz1 : w.heap.size < w1.heap.size := by have := hb1.size; first | omega | (simp at this; omega)
  have f0 : w1.frozen? ⟨w.heap.size, 0, none⟩ = false := carryF hb1 (v := .int .i64 0) (by first | assumption | go_simp) (by first | assumption | go_simp)
  have f1 : w1.frozen? ⟨w.heap.size, 1, none⟩ = false := carryF hb1 (v := .int .i64 0) (by first | assumption | go_simp) (by first | assumption | go_simp)
  have r0 : w1.cell? ⟨w.heap.size, 0, none⟩ = some (.int .i64 0) := carry hb1 (by first | assumption | go_simp)
  have r1 : w1.cell? ⟨w.heap.size, 1, none⟩ = some (.int .i64 0) := carry hb1 (by first | assumption | go_simp)
  have HBB := Lib.hid ((by repeat (first | exact Below.refl _ _ | refine Below.setCell ?_ (by first | omega | (simp; done) | (simp; omega)) _ | refine Below.alloc ?_ (by first | omega | (simp; done) | (simp; omega)) _) : Below w.heap.size w _).trans (hb1.mono (by first | omega | (simp; done) | (simp; omega))))
  clear hb1
  generalize hm : aM j = am
  generalize he : aE j = ae
  have HQ := Lib.hid (And.intro hm he)
  clear hm he hj
  go_wp2_with fail
  refine bodyPost_ret (v := realV am ae) (by simp [results, Tryz.results8, go_sem, r0, r1, hz1]) rfl ⟨by rw [HQ.out.1, HQ.out.2], by repeat (first | with_reducible exact HBB.out | with_reducible exact Below.refl _ _ | with_reducible refine Below.drew ?_ | with_reducible refine belowN ?_ _ | with_reducible refine Below.setCell ?_ (by first | omega | (simp; done) | (simp; omega)) _ | with_reducible refine Below.alloc ?_ (by first | omega | (simp; done) | (simp; omega)) _)⟩

set_option maxRecDepth 100000 in
set_option maxHeartbeats 1600000 in
theorem sc_z (e : Int) (w : World) :
    Calls Tryz.prog 20 #[realV 0 e] w fun r w' => r = .returned (.tuple #[.int .i64 0, .bool true]) ∧ Below w.heap.size w w' := by
  go_enter Tryz.func20, Tryz.ntmps20
  go_wp2_with fail
  go_ret2
  exact ⟨rfl, by repeat (first | with_reducible exact Below.refl _ _ | with_reducible refine Below.drew ?_ | with_reducible refine belowN ?_ _ | with_reducible refine Below.setCell ?_ (by first | omega | (simp; done) | (simp; omega)) _ | with_reducible refine Below.alloc ?_ (by first | omega | (simp; done) | (simp; omega)) _)⟩

set_option maxRecDepth 100000 in
set_option maxHeartbeats 1600000 in
theorem sc_lo (m e : Int) (w : World) (hm : (m == 0) = false) (he : e < -60) (h3 : -16777216 ≤ m) (h4 : m ≤ 16777216) (e1 : -1000 ≤ e) (e2 : e ≤ 1000) :
    Calls Tryz.prog 20 #[realV m e] w fun r w' => r = .returned (.tuple #[.int .i64 0, .bool false]) ∧ Below w.heap.size w w' := by
  go_enter Tryz.func20, Tryz.ntmps20
  go_wp2_with fail
  go_ret2
  exact ⟨rfl, by repeat (first | with_reducible exact Below.refl _ _ | with_reducible refine Below.drew ?_ | with_reducible refine belowN ?_ _ | with_reducible refine Below.setCell ?_ (by first | omega | (simp; done) | (simp; omega)) _ | with_reducible refine Below.alloc ?_ (by first | omega | (simp; done) | (simp; omega)) _)⟩

set_option maxRecDepth 100000 in
set_option maxHeartbeats 1600000 in
theorem sc_hi (m e : Int) (w : World) (hm : (m == 0) = false) (he : ¬ e < -60) (he2 : -22 < e) (h3 : -16777216 ≤ m) (h4 : m ≤ 16777216) (e1 : -1000 ≤ e) (e2 : e ≤ 1000) :
    Calls Tryz.prog 20 #[realV m e] w fun r w' => r = .returned (.tuple #[.int .i64 0, .bool false]) ∧ Below w.heap.size w w' := by
  go_enter Tryz.func20, Tryz.ntmps20
  go_wp2_with fail
  go_ret2
  exact ⟨rfl, by repeat (first | with_reducible exact Below.refl _ _ | with_reducible refine Below.drew ?_ | with_reducible refine belowN ?_ _ | with_reducible refine Below.setCell ?_ (by first | omega | (simp; done) | (simp; omega)) _ | with_reducible refine Below.alloc ?_ (by first | omega | (simp; done) | (simp; omega)) _)⟩

set_option maxRecDepth 100000 in
set_option maxHeartbeats 1600000 in
theorem sc_in (m e : Int) (w : World) (hm : (m == 0) = false) (he : ¬ e < -60) (he2 : ¬ -22 < e) (h3 : -16777216 ≤ m) (h4 : m ≤ 16777216) :
    Calls Tryz.prog 20 #[realV m e] w fun r w' => r = .returned (.tuple #[.int .i64 (scV m e), .bool true]) ∧ Below w.heap.size w w' := by
  have ww : IntKind.i64.wrap (e + 60) = e + 60 := i64_in _ (by omega) (by omega)
  have wu : IntKind.u64.wrap (e + 60) = e + 60 := u64_in _ (by omega) (by omega)
  have HE := Lib.hid (wrap_in (m * 2 ^ (e + 60).toNat) (by have := mul_bd m _ h3 h4 (pow_le (e + 60).toNat (by omega)); omega) (by have := mul_bd m _ h3 h4 (pow_le (e + 60).toNat (by omega)); omega))
  go_enter Tryz.func20, Tryz.ntmps20
  go_wp2_with fail
  go_ret2
  exact ⟨congrArg (fun x => Ending.returned (Value.tuple #[.int .i64 x, .bool true])) HE.out, by repeat (first | with_reducible exact Below.refl _ _ | with_reducible refine Below.drew ?_ | with_reducible refine belowN ?_ _ | with_reducible refine Below.setCell ?_ (by first | omega | (simp; done) | (simp; omega)) _ | with_reducible refine Below.alloc ?_ (by first | omega | (simp; done) | (simp; omega)) _)⟩

theorem max_run (x y : Int) (w : World) : Sem.run Tryz.prog (Builtin.max_ #[3, 3] 3 #[.int .i64 x, .int .i64 y]) w = .ok (.int .i64 (if x < y then y else x)) w := by kernel_rfl

set_option maxRecDepth 100000 in
set_option maxHeartbeats 1600000 in
theorem dist_any (a b : Int) (w : World) (h1 : -9223372036854775807 ≤ a - b) (h2 : a - b ≤ 9223372036854775807) :
    Calls Tryz.prog 21 #[.int .i64 a, .int .i64 b] w fun r w' => r = .returned (.int .i64 (ab (a - b))) ∧ Below w.heap.size w w' := by
  have w1 : IntKind.i64.wrap (a - b) = a - b := i64_in _ (by omega) (by omega)
  have w2 : IntKind.i64.wrap (b - a) = b - a := i64_in _ (by omega) (by omega)
  have HA := Lib.hid (show max (a - b) (b - a) = ab (a - b) from by unfold ab; split <;> omega)
  go_enter Tryz.func21, Tryz.ntmps21
  go_wp2_with fail
  go_ret
  exact ⟨congrArg (fun x => Ending.returned (Value.int IntKind.i64 x)) HA.out, Below.refl _ _⟩

end Go.Proofs.YtoofdihnflnaiaaGreatDoor
