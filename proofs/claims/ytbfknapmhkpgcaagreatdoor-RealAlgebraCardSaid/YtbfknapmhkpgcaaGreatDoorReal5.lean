/-
  PACKAGE real: comparisons, the next real, integers.
-/
import Derived.Test.YtbfknapmhkpgcaaGreatDoorReal4
import Derived.Deep.DeepCutAuto

namespace Go.Proofs.YtbfknapmhkpgcaaGreatDoor
open Go.RowKit
set_option linter.unusedVariables false

set_option maxRecDepth 100000 in
set_option maxHeartbeats 1600000 in
theorem both_any (m e k f : Int) (w : World) (h1 : -9223372036854775808 ≤ m ∧ m ≤ 9223372036854775807) (h2 : -9223372036854775808 ≤ k ∧ k ≤ 9223372036854775807) :
    Calls Tryz.prog 47 #[realV m e, realV k f] w fun r w' => r = .returned (.bool (vr m e && vr k f)) ∧ Below w.heap.size w w' := by
  cases hv : vr m e
  · have HV := Lib.hid hv
    clear hv
    go_enter Tryz.func47, Tryz.ntmps47
    go_wp2_with fail
    refine (valid_is HV.out _ h1.1 h1.2).mono ?_
    rintro r w1 ⟨rfl, hb1⟩
    have c00 : w1.cell? ⟨w.heap.size, 0, none⟩ = some (.int .i64 m) := carry hb1 (by first | assumption | go_simp)
    have c01 : w1.cell? ⟨w.heap.size, 1, none⟩ = some (.int .i64 e) := carry hb1 (by first | assumption | go_simp)
    have z0 : w.heap.size < w1.heap.size := by have := hb1.size; first | omega | (simp at this; omega)
    have c10 : w1.cell? ⟨w.heap.size + 1, 0, none⟩ = some (.int .i64 k) := carry hb1 (by first | assumption | go_simp)
    have c11 : w1.cell? ⟨w.heap.size + 1, 1, none⟩ = some (.int .i64 f) := carry hb1 (by first | assumption | go_simp)
    have z1 : w.heap.size + 1 < w1.heap.size := by have := hb1.size; first | omega | (simp at this; omega)
    have HBB := Lib.hid ((by repeat (first | exact Below.refl _ _ | refine Below.setCell ?_ (by first | omega | (simp; done) | (simp; omega)) _ | refine Below.alloc ?_ (by first | omega | (simp; done) | (simp; omega)) _) : Below w.heap.size w _).trans (hb1.mono (by first | omega | (simp; done) | (simp; omega))))
    clear hb1
    go_wp2_with fail
    go_ret
    exact ⟨by simp, HBB.out⟩
  · have HV := Lib.hid hv
    clear hv
    go_enter Tryz.func47, Tryz.ntmps47
    go_wp2_with fail
    refine (valid_is HV.out _ h1.1 h1.2).mono ?_
    rintro r w1 ⟨rfl, hb1⟩
    have c00 : w1.cell? ⟨w.heap.size, 0, none⟩ = some (.int .i64 m) := carry hb1 (by first | assumption | go_simp)
    have c01 : w1.cell? ⟨w.heap.size, 1, none⟩ = some (.int .i64 e) := carry hb1 (by first | assumption | go_simp)
    have z0 : w.heap.size < w1.heap.size := by have := hb1.size; first | omega | (simp at this; omega)
    have c10 : w1.cell? ⟨w.heap.size + 1, 0, none⟩ = some (.int .i64 k) := carry hb1 (by first | assumption | go_simp)
    have c11 : w1.cell? ⟨w.heap.size + 1, 1, none⟩ = some (.int .i64 f) := carry hb1 (by first | assumption | go_simp)
    have z1 : w.heap.size + 1 < w1.heap.size := by have := hb1.size; first | omega | (simp at this; omega)
    have HBB := Lib.hid ((by repeat (first | exact Below.refl _ _ | refine Below.setCell ?_ (by first | omega | (simp; done) | (simp; omega)) _ | refine Below.alloc ?_ (by first | omega | (simp; done) | (simp; omega)) _) : Below w.heap.size w _).trans (hb1.mono (by first | omega | (simp; done) | (simp; omega))))
    clear hb1
    go_wp2_with fail
    refine (valid_any _ _ _ h2.1 h2.2).mono ?_
    rintro r w2 ⟨rfl, hb2⟩
    have HBB := Lib.hid ((by repeat (first | exact HBB.out | refine Below.setCell ?_ (by first | omega | (simp; done) | (simp; omega)) _ | refine Below.alloc ?_ (by first | omega | (simp; done) | (simp; omega)) _) : Below w.heap.size w _).trans (hb2.mono (by first | omega | (simp; done) | (simp; omega))))
    clear hb2
    go_wp2_with fail
    go_ret
    exact ⟨by simp, HBB.out⟩

theorem both_is {m e k f : Int} {b : Bool} (h : (vr m e && vr k f) = b) (w : World) (h1 : -9223372036854775808 ≤ m ∧ m ≤ 9223372036854775807) (h2 : -9223372036854775808 ≤ k ∧ k ≤ 9223372036854775807) :
    Calls Tryz.prog 47 #[realV m e, realV k f] w fun r w' => r = .returned (.bool b) ∧ Below w.heap.size w w' := by
  subst h
  exact both_any m e k f w h1 h2

set_option maxRecDepth 100000 in
set_option maxHeartbeats 1600000 in
theorem rcmp_bad (m e k f : Int) (w : World) (HV : Hid ((vr m e && vr k f) = false)) (h1 : -9223372036854775808 ≤ m ∧ m ≤ 9223372036854775807) (h2 : -9223372036854775808 ≤ k ∧ k ≤ 9223372036854775807) :
    Calls Tryz.prog 19 #[realV m e, realV k f] w fun r w' => r = .returned (iE 0 1) ∧ Below w.heap.size w w' := by
  go_enter Tryz.func19, Tryz.ntmps19
  go_wp2_with fail
  refine (both_is HV.out _ h1 h2).mono ?_
  rintro r w1 ⟨rfl, hb1⟩
  have c00 : w1.cell? ⟨w.heap.size, 0, none⟩ = some (.int .i64 m) := carry hb1 (by first | assumption | go_simp)
  have c01 : w1.cell? ⟨w.heap.size, 1, none⟩ = some (.int .i64 e) := carry hb1 (by first | assumption | go_simp)
  have z0 : w.heap.size < w1.heap.size := by have := hb1.size; first | omega | (simp at this; omega)
  have c10 : w1.cell? ⟨w.heap.size + 1, 0, none⟩ = some (.int .i64 k) := carry hb1 (by first | assumption | go_simp)
  have c11 : w1.cell? ⟨w.heap.size + 1, 1, none⟩ = some (.int .i64 f) := carry hb1 (by first | assumption | go_simp)
  have z1 : w.heap.size + 1 < w1.heap.size := by have := hb1.size; first | omega | (simp at this; omega)
  have HBB := Lib.hid ((by repeat (first | exact Below.refl _ _ | refine Below.setCell ?_ (by first | omega | (simp; done) | (simp; omega)) _ | refine Below.alloc ?_ (by first | omega | (simp; done) | (simp; omega)) _) : Below w.heap.size w _).trans (hb1.mono (by first | omega | (simp; done) | (simp; omega))))
  clear hb1
  go_wp2_with fail
  go_ret2
  exact ⟨rfl, HBB.out⟩

set_option maxRecDepth 100000 in
set_option maxHeartbeats 1600000 in
theorem rcmp_ok (m e k f : Int) (w : World) (h1 : vr m e = true) (h2 : vr k f = true) :
    Calls Tryz.prog 19 #[realV m e, realV k f] w fun r w' => r = .returned (iE (c3 (ix m e) (ix k f)) 0) ∧ Below w.heap.size w w' := by
  have v := vr_bd h1
  have u := vr_bd h2
  have HV := Lib.hid (show (vr m e && vr k f) = true from by rw [h1, h2]; rfl)
  have H1 := Lib.hid h1
  have H2 := Lib.hid h2
  clear h1 h2
  obtain ⟨v1, v2, v3, v4⟩ := v
  obtain ⟨u1, u2, u3, u4⟩ := u
  go_enter Tryz.func19, Tryz.ntmps19
  go_wp2_with fail
  refine (both_is HV.out _ (by omega) (by omega)).mono ?_
  rintro r w1 ⟨rfl, hb1⟩
  have c00 : w1.cell? ⟨w.heap.size, 0, none⟩ = some (.int .i64 m) := carry hb1 (by first | assumption | go_simp)
  have c01 : w1.cell? ⟨w.heap.size, 1, none⟩ = some (.int .i64 e) := carry hb1 (by first | assumption | go_simp)
  have z0 : w.heap.size < w1.heap.size := by have := hb1.size; first | omega | (simp at this; omega)
  have c10 : w1.cell? ⟨w.heap.size + 1, 0, none⟩ = some (.int .i64 k) := carry hb1 (by first | assumption | go_simp)
  have c11 : w1.cell? ⟨w.heap.size + 1, 1, none⟩ = some (.int .i64 f) := carry hb1 (by first | assumption | go_simp)
  have z1 : w.heap.size + 1 < w1.heap.size := by have := hb1.size; first | omega | (simp at this; omega)
  have HBB := Lib.hid ((by repeat (first | exact Below.refl _ _ | refine Below.setCell ?_ (by first | omega | (simp; done) | (simp; omega)) _ | refine Below.alloc ?_ (by first | omega | (simp; done) | (simp; omega)) _) : Below w.heap.size w _).trans (hb1.mono (by first | omega | (simp; done) | (simp; omega))))
  clear hb1
  go_upto_region 3 with fail
  have hB0 := HBB.out
  go_region_held3 (fun wx => wx.cell? ⟨w.heap.size, 0, none⟩ = some (.int .i64 m) ∧ wx.cell? ⟨w.heap.size, 1, none⟩ = some (.int .i64 e) ∧ wx.cell? ⟨w.heap.size + 1, 0, none⟩ = some (.int .i64 k) ∧ wx.cell? ⟨w.heap.size + 1, 1, none⟩ = some (.int .i64 f) ∧ w.heap.size < wx.heap.size ∧ w.heap.size + 1 < wx.heap.size ∧ Below w.heap.size w wx) (first | (go_keep; done) | ((try go_split_ands); (repeat' apply And.intro) <;> first | assumption | (go_simp; done) | (simp only [World.size_alloc, World.size_drew]; omega) | (exact hB0.drew) | (exact carry hbq (by first | assumption | go_simp)) | (exact Nat.lt_of_lt_of_le (by first | assumption | (simp <;> omega)) hbq.size) | (simp <;> omega) | (exact Below.trans (by assumption) (hbq.mono (by first | omega | (simp <;> omega))))))
    (first
      | (go_at_call 43; ((with_reducible refine (index_any m e _ H1.out).mono ?_); rintro r wq ⟨rfl, hbq⟩))
      | (go_at_call 43; ((with_reducible refine (index_any k f _ H2.out).mono ?_); rintro r wq ⟨rfl, hbq⟩))
      | (go_at_call 46; refine (cmp_any _ _ _).mono ?_; rintro r w' ⟨rfl, rfl⟩))
  have hS : wq.cell? ⟨w.heap.size, 0, none⟩ = some (.int .i64 m) ∧ wq.cell? ⟨w.heap.size, 1, none⟩ = some (.int .i64 e) ∧ wq.cell? ⟨w.heap.size + 1, 0, none⟩ = some (.int .i64 k) ∧ wq.cell? ⟨w.heap.size + 1, 1, none⟩ = some (.int .i64 f) ∧ w.heap.size < wq.heap.size ∧ w.heap.size + 1 < wq.heap.size ∧ Below w.heap.size w wq := by assumption
  obtain ⟨_, _, _, _, _, _, hBq⟩ := hS
  go_wp2_with fail
  go_ret2
  exact ⟨rfl, by repeat (first | exact hBq | refine Below.drew ?_ | refine Below.trans ?_ (Go.Joins.below_draws _ _ _))⟩

set_option maxRecDepth 100000 in
set_option maxHeartbeats 1600000 in
theorem next_bad (m e : Int) (w : World) (HV : Hid (vr m e = false)) (h1 : -9223372036854775808 ≤ m) (h2 : m ≤ 9223372036854775807) :
    Calls Tryz.prog 15 #[realV m e] w fun r w' => r = .returned (rE 0 0 1) ∧ Below w.heap.size w w' := by
  go_enter Tryz.func15, Tryz.ntmps15
  go_wp2_with fail
  refine (valid_is HV.out _ h1 h2).mono ?_
  rintro r w1 ⟨rfl, hb1⟩
  have c00 : w1.cell? ⟨w.heap.size, 0, none⟩ = some (.int .i64 m) := carry hb1 (by first | assumption | go_simp)
  have c01 : w1.cell? ⟨w.heap.size, 1, none⟩ = some (.int .i64 e) := carry hb1 (by first | assumption | go_simp)
  have z0 : w.heap.size < w1.heap.size := by have := hb1.size; first | omega | (simp at this; omega)
  have f0 : w1.frozen? ⟨w.heap.size + 1, 0, none⟩ = false := carryF hb1 (v := .int .i64 0) (by first | assumption | go_simp) (by first | assumption | go_simp)
  have f1 : w1.frozen? ⟨w.heap.size + 1, 1, none⟩ = false := carryF hb1 (v := .int .i64 0) (by first | assumption | go_simp) (by first | assumption | go_simp)
  have r0 : w1.cell? ⟨w.heap.size + 1, 0, none⟩ = some (.int .i64 0) := carry hb1 (by first | assumption | go_simp)
  have r1 : w1.cell? ⟨w.heap.size + 1, 1, none⟩ = some (.int .i64 0) := carry hb1 (by first | assumption | go_simp)
  have HBB := Lib.hid ((by repeat (first | exact Below.refl _ _ | refine Below.setCell ?_ (by first | omega | (simp; done) | (simp; omega)) _ | refine Below.alloc ?_ (by first | omega | (simp; done) | (simp; omega)) _) : Below w.heap.size w _).trans (hb1.mono (by first | omega | (simp; done) | (simp; omega))))
  clear hb1
  go_wp2_with fail
  refine bodyPost_ret (v := rE 0 0 1) (by simp [results, Tryz.results15, go_sem, r0, r1]) rfl ⟨rfl, by repeat (first | exact HBB.out | exact Below.refl _ _ | refine Below.drew ?_ | refine Below.setCell ?_ (by first | omega | (simp; done) | (simp; omega)) _ | refine Below.alloc ?_ (by first | omega | (simp; done) | (simp; omega)) _)⟩

theorem index_is {m e i : Int} (h : ix m e = i) (w : World) (hv : vr m e = true) :
    Calls Tryz.prog 43 #[realV m e] w fun r w' => r = .returned (.int .i64 i) ∧ Below w.heap.size w w' := by
  subst h
  exact index_any m e w hv

set_option maxRecDepth 100000 in
set_option maxHeartbeats 1600000 in
theorem next_top (m e i : Int) (w : World) (HV : Hid (vr m e = true)) (HI : Hid (ix m e = i)) (v1 : -16777215 ≤ m) (v2 : m ≤ 16777215) (hi : (i == 2533359615) = true) :
    Calls Tryz.prog 15 #[realV m e] w fun r w' => r = .returned (rE 0 0 3) ∧ Below w.heap.size w w' := by
  go_enter Tryz.func15, Tryz.ntmps15
  go_wp2_with fail
  refine (valid_is HV.out _ (by omega) (by omega)).mono ?_
  rintro r w1 ⟨rfl, hb1⟩
  have c00 : w1.cell? ⟨w.heap.size, 0, none⟩ = some (.int .i64 m) := carry hb1 (by first | assumption | go_simp)
  have c01 : w1.cell? ⟨w.heap.size, 1, none⟩ = some (.int .i64 e) := carry hb1 (by first | assumption | go_simp)
  have z0 : w.heap.size < w1.heap.size := by have := hb1.size; first | omega | (simp at this; omega)
  have f0 : w1.frozen? ⟨w.heap.size + 1, 0, none⟩ = false := carryF hb1 (v := .int .i64 0) (by first | assumption | go_simp) (by first | assumption | go_simp)
  have f1 : w1.frozen? ⟨w.heap.size + 1, 1, none⟩ = false := carryF hb1 (v := .int .i64 0) (by first | assumption | go_simp) (by first | assumption | go_simp)
  have r0 : w1.cell? ⟨w.heap.size + 1, 0, none⟩ = some (.int .i64 0) := carry hb1 (by first | assumption | go_simp)
  have r1 : w1.cell? ⟨w.heap.size + 1, 1, none⟩ = some (.int .i64 0) := carry hb1 (by first | assumption | go_simp)
  have HBB := Lib.hid ((by repeat (first | exact Below.refl _ _ | refine Below.setCell ?_ (by first | omega | (simp; done) | (simp; omega)) _ | refine Below.alloc ?_ (by first | omega | (simp; done) | (simp; omega)) _) : Below w.heap.size w _).trans (hb1.mono (by first | omega | (simp; done) | (simp; omega))))
  clear hb1
  go_wp2_with fail
  refine (index_is HI.out _ HV.out).mono ?_
  rintro r w2 ⟨rfl, hb2⟩
  have c00 : w2.cell? ⟨w.heap.size, 0, none⟩ = some (.int .i64 m) := carry hb2 (by first | assumption | go_simp)
  have c01 : w2.cell? ⟨w.heap.size, 1, none⟩ = some (.int .i64 e) := carry hb2 (by first | assumption | go_simp)
  have z0 : w.heap.size < w2.heap.size := by have := hb2.size; first | omega | (simp at this; omega)
  have f0 : w2.frozen? ⟨w.heap.size + 1, 0, none⟩ = false := carryF hb2 (v := .int .i64 0) (by first | assumption | go_simp) (by first | assumption | go_simp)
  have f1 : w2.frozen? ⟨w.heap.size + 1, 1, none⟩ = false := carryF hb2 (v := .int .i64 0) (by first | assumption | go_simp) (by first | assumption | go_simp)
  have r0 : w2.cell? ⟨w.heap.size + 1, 0, none⟩ = some (.int .i64 0) := carry hb2 (by first | assumption | go_simp)
  have r1 : w2.cell? ⟨w.heap.size + 1, 1, none⟩ = some (.int .i64 0) := carry hb2 (by first | assumption | go_simp)
  have HBB := Lib.hid ((by repeat (first | exact HBB.out | refine Below.setCell ?_ (by first | omega | (simp; done) | (simp; omega)) _ | refine Below.alloc ?_ (by first | omega | (simp; done) | (simp; omega)) _) : Below w.heap.size w _).trans (hb2.mono (by first | omega | (simp; done) | (simp; omega))))
  clear hb2
  go_wp2_with fail
  refine bodyPost_ret (v := rE 0 0 3) (by simp [results, Tryz.results15, go_sem, r0, r1]) rfl ⟨rfl, by repeat (first | exact HBB.out | exact Below.refl _ _ | refine Below.drew ?_ | refine Below.setCell ?_ (by first | omega | (simp; done) | (simp; omega)) _ | refine Below.alloc ?_ (by first | omega | (simp; done) | (simp; omega)) _)⟩

set_option maxRecDepth 100000 in
set_option maxHeartbeats 1600000 in
theorem next_ok (m e i : Int) (w : World) (HV : Hid (vr m e = true)) (HI : Hid (ix m e = i)) (v1 : -16777215 ≤ m) (v2 : m ≤ 16777215) (hi : (i == 2533359615) = false) (i1 : -2533359615 ≤ i) (i2 : i < 2533359615) :
    Calls Tryz.prog 15 #[realV m e] w fun r w' => r = .returned (rE (aM (i + 1)) (aE (i + 1)) 0) ∧ Below w.heap.size w w' := by
  go_enter Tryz.func15, Tryz.ntmps15
  go_wp2_with fail
  refine (valid_is HV.out _ (by omega) (by omega)).mono ?_
  rintro r w1 ⟨rfl, hb1⟩
  have c00 : w1.cell? ⟨w.heap.size, 0, none⟩ = some (.int .i64 m) := carry hb1 (by first | assumption | go_simp)
  have c01 : w1.cell? ⟨w.heap.size, 1, none⟩ = some (.int .i64 e) := carry hb1 (by first | assumption | go_simp)
  have z0 : w.heap.size < w1.heap.size := by have := hb1.size; first | omega | (simp at this; omega)
  have f0 : w1.frozen? ⟨w.heap.size + 1, 0, none⟩ = false := carryF hb1 (v := .int .i64 0) (by first | assumption | go_simp) (by first | assumption | go_simp)
  have f1 : w1.frozen? ⟨w.heap.size + 1, 1, none⟩ = false := carryF hb1 (v := .int .i64 0) (by first | assumption | go_simp) (by first | assumption | go_simp)
  have r0 : w1.cell? ⟨w.heap.size + 1, 0, none⟩ = some (.int .i64 0) := carry hb1 (by first | assumption | go_simp)
  have r1 : w1.cell? ⟨w.heap.size + 1, 1, none⟩ = some (.int .i64 0) := carry hb1 (by first | assumption | go_simp)
  have HBB := Lib.hid ((by repeat (first | exact Below.refl _ _ | refine Below.setCell ?_ (by first | omega | (simp; done) | (simp; omega)) _ | refine Below.alloc ?_ (by first | omega | (simp; done) | (simp; omega)) _) : Below w.heap.size w _).trans (hb1.mono (by first | omega | (simp; done) | (simp; omega))))
  clear hb1
  go_wp2_with fail
  refine (index_is HI.out _ HV.out).mono ?_
  rintro r w2 ⟨rfl, hb2⟩
  have c00 : w2.cell? ⟨w.heap.size, 0, none⟩ = some (.int .i64 m) := carry hb2 (by first | assumption | go_simp)
  have c01 : w2.cell? ⟨w.heap.size, 1, none⟩ = some (.int .i64 e) := carry hb2 (by first | assumption | go_simp)
  have z0 : w.heap.size < w2.heap.size := by have := hb2.size; first | omega | (simp at this; omega)
  have f0 : w2.frozen? ⟨w.heap.size + 1, 0, none⟩ = false := carryF hb2 (v := .int .i64 0) (by first | assumption | go_simp) (by first | assumption | go_simp)
  have f1 : w2.frozen? ⟨w.heap.size + 1, 1, none⟩ = false := carryF hb2 (v := .int .i64 0) (by first | assumption | go_simp) (by first | assumption | go_simp)
  have r0 : w2.cell? ⟨w.heap.size + 1, 0, none⟩ = some (.int .i64 0) := carry hb2 (by first | assumption | go_simp)
  have r1 : w2.cell? ⟨w.heap.size + 1, 1, none⟩ = some (.int .i64 0) := carry hb2 (by first | assumption | go_simp)
  have HBB := Lib.hid ((by repeat (first | exact HBB.out | refine Below.setCell ?_ (by first | omega | (simp; done) | (simp; omega)) _ | refine Below.alloc ?_ (by first | omega | (simp; done) | (simp; omega)) _) : Below w.heap.size w _).trans (hb2.mono (by first | omega | (simp; done) | (simp; omega))))
  clear hb2
  go_wp2_with fail
  refine (realAt_any _ _ (by omega) (by omega)).mono ?_
  rintro r w3 ⟨rfl, hb3⟩
  have f0 : w3.frozen? ⟨w.heap.size + 1, 0, none⟩ = false := carryF hb3 (v := .int .i64 0) (by first | assumption | go_simp) (by first | assumption | go_simp)
  have f1 : w3.frozen? ⟨w.heap.size + 1, 1, none⟩ = false := carryF hb3 (v := .int .i64 0) (by first | assumption | go_simp) (by first | assumption | go_simp)
  have r0 : w3.cell? ⟨w.heap.size + 1, 0, none⟩ = some (.int .i64 0) := carry hb3 (by first | assumption | go_simp)
  have r1 : w3.cell? ⟨w.heap.size + 1, 1, none⟩ = some (.int .i64 0) := carry hb3 (by first | assumption | go_simp)
  have HBB := Lib.hid ((by repeat (first | exact HBB.out | refine Below.setCell ?_ (by first | omega | (simp; done) | (simp; omega)) _ | refine Below.alloc ?_ (by first | omega | (simp; done) | (simp; omega)) _) : Below w.heap.size w _).trans (hb3.mono (by first | omega | (simp; done) | (simp; omega))))
  clear hb3
  generalize hm : aM (i + 1) = am
  generalize he : aE (i + 1) = ae
  have HQ := Lib.hid (And.intro hm he)
  clear hm he
  go_wp2_with fail
  refine bodyPost_ret (v := rE am ae 0) (by simp [results, Tryz.results15, go_sem, r0, r1]) rfl ⟨by rw [HQ.out.1, HQ.out.2], by repeat (first | exact HBB.out | exact Below.refl _ _ | refine Below.drew ?_ | refine Below.setCell ?_ (by first | omega | (simp; done) | (simp; omega)) _ | refine Below.alloc ?_ (by first | omega | (simp; done) | (simp; omega)) _)⟩

end Go.Proofs.YtbfknapmhkpgcaaGreatDoor
