/-
  PACKAGE real: comparisons, the next real, integers.
-/
import Derived.Test.YticiabgnegbbmaaGreatDoorReal4
import Derived.Deep.DeepCutAuto

namespace Go.Proofs.YticiabgnegbbmaaGreatDoor
open Go.RowKit
set_option linter.unusedVariables false

set_option maxRecDepth 100000 in
set_option maxHeartbeats 1600000 in
theorem both_any (m e k f : Int) (w : World) (h1 : -9223372036854775808 ≤ m ∧ m ≤ 9223372036854775807) (h2 : -9223372036854775808 ≤ k ∧ k ≤ 9223372036854775807) :
    Calls Tryz.prog 31 #[realV m e, realV k f] w fun r w' => r = .returned (.bool (vr m e && vr k f)) ∧ Below w.heap.size w w' := by
  cases hv : vr m e
  · have HV := Lib.hid hv
    clear hv
    go_enter Tryz.func31, Tryz.ntmps31
    go_wp2_with fail
    refine (valid_is HV.out _ h1.1 h1.2).mono ?_
    rintro r w1 ⟨rfl, hb1⟩
    have c00 : w1.cell? ⟨w.heap.size, 0, none⟩ = some (.int .i64 m) := carry hb1 (by first | assumption | go_simp)
    have c01 : w1.cell? ⟨w.heap.size, 1, none⟩ = some (.int .i64 e) := carry hb1 (by first | assumption | go_simp)
    have z0 : w.heap.size < w1.heap.size := by have := hb1.size; first | omega | (simp at this; omega)
    have c10 : w1.cell? ⟨w.heap.size + 1, 0, none⟩ = some (.int .i64 k) := carry hb1 (by first | assumption | go_simp)
    have c11 : w1.cell? ⟨w.heap.size + 1, 1, none⟩ = some (.int .i64 f) := carry hb1 (by first | assumption | go_simp)
    have z1 : w.heap.size + 1 < w1.heap.size := by have := hb1.size; first | omega | (simp at this; omega)
    have HBB := Lib.hid ((by repeat (first | exact Below.refl _ _ | refine Below.setCell ?_ (by first | omega | (simp; done) | (simp; omega)) _ | refine Below.alloc ?_ (by first | omega | (simp; done) | (simp; omega)) _) : Below w.heap.size w _).trans (hb1.mono (by first | omega | (simp; done) | (simp; omega))))
    clear hb1
    go_wp2_with fail
    go_ret
    exact ⟨by simp, HBB.out⟩
  · have HV := Lib.hid hv
    clear hv
    go_enter Tryz.func31, Tryz.ntmps31
    go_wp2_with fail
    refine (valid_is HV.out _ h1.1 h1.2).mono ?_
    rintro r w1 ⟨rfl, hb1⟩
    have c00 : w1.cell? ⟨w.heap.size, 0, none⟩ = some (.int .i64 m) := carry hb1 (by first | assumption | go_simp)
    have c01 : w1.cell? ⟨w.heap.size, 1, none⟩ = some (.int .i64 e) := carry hb1 (by first | assumption | go_simp)
    have z0 : w.heap.size < w1.heap.size := by have := hb1.size; first | omega | (simp at this; omega)
    have c10 : w1.cell? ⟨w.heap.size + 1, 0, none⟩ = some (.int .i64 k) := carry hb1 (by first | assumption | go_simp)
    have c11 : w1.cell? ⟨w.heap.size + 1, 1, none⟩ = some (.int .i64 f) := carry hb1 (by first | assumption | go_simp)
    have z1 : w.heap.size + 1 < w1.heap.size := by have := hb1.size; first | omega | (simp at this; omega)
    have HBB := Lib.hid ((by repeat (first | exact Below.refl _ _ | refine Below.setCell ?_ (by first | omega | (simp; done) | (simp; omega)) _ | refine Below.alloc ?_ (by first | omega | (simp; done) | (simp; omega)) _) : Below w.heap.size w _).trans (hb1.mono (by first | omega | (simp; done) | (simp; omega))))
    clear hb1
    go_wp2_with fail
    refine (valid_any _ _ _ h2.1 h2.2).mono ?_
    rintro r w2 ⟨rfl, hb2⟩
    have HBB := Lib.hid ((by repeat (first | exact HBB.out | refine Below.setCell ?_ (by first | omega | (simp; done) | (simp; omega)) _ | refine Below.alloc ?_ (by first | omega | (simp; done) | (simp; omega)) _) : Below w.heap.size w _).trans (hb2.mono (by first | omega | (simp; done) | (simp; omega))))
    clear hb2
    go_wp2_with fail
    go_ret
    exact ⟨by simp, HBB.out⟩

theorem both_is {m e k f : Int} {b : Bool} (h : (vr m e && vr k f) = b) (w : World) (h1 : -9223372036854775808 ≤ m ∧ m ≤ 9223372036854775807) (h2 : -9223372036854775808 ≤ k ∧ k ≤ 9223372036854775807) :
    Calls Tryz.prog 31 #[realV m e, realV k f] w fun r w' => r = .returned (.bool b) ∧ Below w.heap.size w w' := by
  subst h
  exact both_any m e k f w h1 h2

end Go.Proofs.YticiabgnegbbmaaGreatDoor
