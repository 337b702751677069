/-
  PACKAGE real: the reals of indices, and the exported functions that need no rounding.
-/
import Derived.Test.YtbfknapmhkpgcaaGreatDoorReal2

namespace Go.Proofs.YtbfknapmhkpgcaaGreatDoor
open Go.RowKit
set_option linter.unusedVariables false

set_option maxRecDepth 100000 in
set_option maxHeartbeats 1600000 in
theorem realAt_z (w : World) :
    Calls Tryz.prog 38 #[.int .i64 0] w fun r w' => r = .returned (realV 0 0) ∧ Below w.heap.size w w' := by
  go_enter Tryz.func38, Tryz.ntmps38
  go_wp2_with fail
  refine bodyPost_ret (v := realV 0 0) (by simp [results, Tryz.results38, go_sem]) rfl ⟨rfl, by repeat (first | exact HBB.out | exact Below.refl _ _ | refine Below.drew ?_ | refine Below.setCell ?_ (by first | omega | (simp; done) | (simp; omega)) _ | refine Below.alloc ?_ (by first | omega | (simp; done) | (simp; omega)) _)⟩

set_option maxRecDepth 100000 in
set_option maxHeartbeats 1600000 in
theorem realAt_p0 (i : Int) (w : World) (h1 : 0 < i) (h2 : i ≤ 2533359615) (h3 : i / 8388608 - 1 < 0) :
    Calls Tryz.prog 38 #[.int .i64 i] w fun r w' => r = .returned (realV (i) (-150)) ∧ Below w.heap.size w w' := by
  have hmx : ∀ a b w, Sem.run Tryz.prog (Builtin.max_ #[3, 3] 3 #[.int .i64 a, .int .i64 b]) w = .ok (.int .i64 (if a < b then b else a)) w := fun a b w => by kernel_rfl
  have g0 : (i == 0) = false := beq_eq_false_iff_ne.2 (by omega)
  have g1 : ¬ i < -i := by omega
  have q1 : 0 ≤ i / 8388608 := by omega
  have q2 : i / 8388608 ≤ 302 := by omega
  go_enter Tryz.func38, Tryz.ntmps38
  go_wp2_with fail
  refine bodyPost_ret (v := realV (i) (-150)) (by simp [results, Tryz.results38, go_sem]) rfl ⟨rfl, by repeat (first | exact HBB.out | exact Below.refl _ _ | refine Below.drew ?_ | refine Below.setCell ?_ (by first | omega | (simp; done) | (simp; omega)) _ | refine Below.alloc ?_ (by first | omega | (simp; done) | (simp; omega)) _)⟩

set_option maxRecDepth 100000 in
set_option maxHeartbeats 1600000 in
theorem realAt_p1 (i : Int) (w : World) (h1 : 0 < i) (h2 : i ≤ 2533359615) (h3 : 0 ≤ i / 8388608 - 1) :
    Calls Tryz.prog 38 #[.int .i64 i] w fun r w' => r = .returned (realV (i - (i / 8388608 - 1) * 8388608) (-150 + (i / 8388608 - 1))) ∧ Below w.heap.size w w' := by
  have hmx : ∀ a b w, Sem.run Tryz.prog (Builtin.max_ #[3, 3] 3 #[.int .i64 a, .int .i64 b]) w = .ok (.int .i64 (if a < b then b else a)) w := fun a b w => by kernel_rfl
  have g0 : (i == 0) = false := beq_eq_false_iff_ne.2 (by omega)
  have g1 : ¬ i < -i := by omega
  have q1 : 0 ≤ i / 8388608 := by omega
  have q2 : i / 8388608 ≤ 302 := by omega
  go_enter Tryz.func38, Tryz.ntmps38
  go_wp2_with fail
  refine bodyPost_ret (v := realV (i - (i / 8388608 - 1) * 8388608) (-150 + (i / 8388608 - 1))) (by simp [results, Tryz.results38, go_sem]) rfl ⟨rfl, by repeat (first | exact HBB.out | exact Below.refl _ _ | refine Below.drew ?_ | refine Below.setCell ?_ (by first | omega | (simp; done) | (simp; omega)) _ | refine Below.alloc ?_ (by first | omega | (simp; done) | (simp; omega)) _)⟩

set_option maxRecDepth 100000 in
set_option maxHeartbeats 1600000 in
theorem realAt_n0 (i : Int) (w : World) (h1 : 0 < i) (h2 : i ≤ 2533359615) (h3 : i / 8388608 - 1 < 0) :
    Calls Tryz.prog 38 #[.int .i64 (-i)] w fun r w' => r = .returned (realV (-(i)) (-150)) ∧ Below w.heap.size w w' := by
  have hmx : ∀ a b w, Sem.run Tryz.prog (Builtin.max_ #[3, 3] 3 #[.int .i64 a, .int .i64 b]) w = .ok (.int .i64 (if a < b then b else a)) w := fun a b w => by kernel_rfl
  have g0 : (-i == 0) = false := beq_eq_false_iff_ne.2 (by omega)
  have g1 : -i < i := by omega
  have q1 : 0 ≤ i / 8388608 := by omega
  have q2 : i / 8388608 ≤ 302 := by omega
  go_enter Tryz.func38, Tryz.ntmps38
  go_wp2_with fail
  refine (opp_any _ _ _ (by omega) (by omega)).mono ?_
  rintro r w1 ⟨rfl, hb1⟩
  have r0 : w1.cell? ⟨w.heap.size, 0, none⟩ = some (.int .i64 0) := carry hb1 (by go_simp)
  have r1 : w1.cell? ⟨w.heap.size, 1, none⟩ = some (.int .i64 0) := carry hb1 (by go_simp)
  have f0 : w1.frozen? ⟨w.heap.size, 0, none⟩ = false := carryF hb1 (v := .int .i64 0) (by go_simp) (by go_simp)
  have f1 : w1.frozen? ⟨w.heap.size, 1, none⟩ = false := carryF hb1 (v := .int .i64 0) (by go_simp) (by go_simp)
  have HBB := Lib.hid ((by repeat (first | exact Below.refl _ _ | refine Below.setCell ?_ (by first | omega | (simp; done) | (simp; omega)) _ | refine Below.alloc ?_ (by first | omega | (simp; done) | (simp; omega)) _) : Below w.heap.size w _).trans (hb1.mono (by first | omega | (simp; done) | (simp; omega))))
  clear hb1
  go_wp2_with fail
  refine bodyPost_ret (v := realV (-(i)) (-150)) (by simp [results, Tryz.results38, go_sem, r0, r1]) rfl ⟨rfl, by repeat (first | exact HBB.out | exact Below.refl _ _ | refine Below.drew ?_ | refine Below.setCell ?_ (by first | omega | (simp; done) | (simp; omega)) _ | refine Below.alloc ?_ (by first | omega | (simp; done) | (simp; omega)) _)⟩

set_option maxRecDepth 100000 in
set_option maxHeartbeats 1600000 in
theorem realAt_n1 (i : Int) (w : World) (h1 : 0 < i) (h2 : i ≤ 2533359615) (h3 : 0 ≤ i / 8388608 - 1) :
    Calls Tryz.prog 38 #[.int .i64 (-i)] w fun r w' => r = .returned (realV (-(i - (i / 8388608 - 1) * 8388608)) (-150 + (i / 8388608 - 1))) ∧ Below w.heap.size w w' := by
  have hmx : ∀ a b w, Sem.run Tryz.prog (Builtin.max_ #[3, 3] 3 #[.int .i64 a, .int .i64 b]) w = .ok (.int .i64 (if a < b then b else a)) w := fun a b w => by kernel_rfl
  have g0 : (-i == 0) = false := beq_eq_false_iff_ne.2 (by omega)
  have g1 : -i < i := by omega
  have q1 : 0 ≤ i / 8388608 := by omega
  have q2 : i / 8388608 ≤ 302 := by omega
  go_enter Tryz.func38, Tryz.ntmps38
  go_wp2_with fail
  refine (opp_any _ _ _ (by omega) (by omega)).mono ?_
  rintro r w1 ⟨rfl, hb1⟩
  have r0 : w1.cell? ⟨w.heap.size, 0, none⟩ = some (.int .i64 0) := carry hb1 (by go_simp)
  have r1 : w1.cell? ⟨w.heap.size, 1, none⟩ = some (.int .i64 0) := carry hb1 (by go_simp)
  have f0 : w1.frozen? ⟨w.heap.size, 0, none⟩ = false := carryF hb1 (v := .int .i64 0) (by go_simp) (by go_simp)
  have f1 : w1.frozen? ⟨w.heap.size, 1, none⟩ = false := carryF hb1 (v := .int .i64 0) (by go_simp) (by go_simp)
  have HBB := Lib.hid ((by repeat (first | exact Below.refl _ _ | refine Below.setCell ?_ (by first | omega | (simp; done) | (simp; omega)) _ | refine Below.alloc ?_ (by first | omega | (simp; done) | (simp; omega)) _) : Below w.heap.size w _).trans (hb1.mono (by first | omega | (simp; done) | (simp; omega))))
  clear hb1
  go_wp2_with fail
  refine bodyPost_ret (v := realV (-(i - (i / 8388608 - 1) * 8388608)) (-150 + (i / 8388608 - 1))) (by simp [results, Tryz.results38, go_sem, r0, r1]) rfl ⟨rfl, by repeat (first | exact HBB.out | exact Below.refl _ _ | refine Below.drew ?_ | refine Below.setCell ?_ (by first | omega | (simp; done) | (simp; omega)) _ | refine Below.alloc ?_ (by first | omega | (simp; done) | (simp; omega)) _)⟩

theorem realAt_any (i : Int) (w : World) (h1 : -2533359615 ≤ i) (h2 : i ≤ 2533359615) :
    Calls Tryz.prog 38 #[.int .i64 i] w fun r w' => r = .returned (realV (aM i) (aE i)) ∧ Below w.heap.size w w' := by
  by_cases h0 : i = 0
  · subst h0
    exact realAt_z w
  · by_cases hn : i < 0
    · have ea : ab i = -i := if_pos hn
      by_cases hs : -i / 8388608 - 1 < 0
      · rw [show aM i = -(-i) from by rw [aM, if_neg h0, if_pos hn, sx, ea, if_pos hs]; omega, show aE i = -150 from by rw [aE, if_neg h0, sx, ea, if_pos hs]; rfl]
        have k := realAt_n0 (-i) w (by omega) (by omega) hs
        rw [Int.neg_neg i] at k
        rw [Int.neg_neg i]
        exact k
      · rw [show aM i = -(-i - (-i / 8388608 - 1) * 8388608) from by rw [aM, if_neg h0, if_pos hn, sx, ea, if_neg hs], show aE i = -150 + (-i / 8388608 - 1) from by rw [aE, if_neg h0, sx, ea, if_neg hs]; omega]
        have k := realAt_n1 (-i) w (by omega) (by omega) (by omega)
        rw [Int.neg_neg i] at k
        exact k
    · have ea : ab i = i := if_neg hn
      by_cases hs : i / 8388608 - 1 < 0
      · rw [show aM i = i from by rw [aM, if_neg h0, if_neg hn, sx, ea, if_pos hs]; omega, show aE i = -150 from by rw [aE, if_neg h0, sx, ea, if_pos hs]; rfl]
        exact realAt_p0 i w (by omega) h2 hs
      · rw [show aM i = i - (i / 8388608 - 1) * 8388608 from by rw [aM, if_neg h0, if_neg hn, sx, ea, if_neg hs], show aE i = -150 + (i / 8388608 - 1) from by rw [aE, if_neg h0, sx, ea, if_neg hs]; omega]
        exact realAt_p1 i w (by omega) h2 (by omega)

end Go.Proofs.YtbfknapmhkpgcaaGreatDoor
