/-
  PACKAGE real: Add, Sub, Mul, Div.
-/
import Derived.Test.YtbfknapmhkpgcaaGreatDoorReal15

namespace Go.Proofs.YtbfknapmhkpgcaaGreatDoor
open Go.RowKit
set_option linter.unusedVariables false

theorem mulr_bd (m k : Int) (h1 : -16777216 ≤ m) (h2 : m ≤ 16777216) (h3 : -16777216 ≤ k) (h4 : k ≤ 16777216) : -281474976710656 ≤ m * k ∧ m * k ≤ 281474976710656 := by
  have a := Int.mul_le_mul (a := ab m) (b := ab k) (c := 16777216) (d := 16777216) (by unfold ab; split <;> omega) (by unfold ab; split <;> omega) (by unfold ab; split <;> omega) (by decide)
  have n := Int.mul_nonneg (a := ab m) (b := ab k) (by unfold ab; split <;> omega) (by unfold ab; split <;> omega)
  have e : ab m * ab k = m * k ∨ ab m * ab k = -(m * k) := by
    unfold ab
    split <;> split <;> simp [Int.neg_mul, Int.mul_neg]
  rcases e with e | e <;> rw [e] at a n <;> omega

theorem both_vr {m e k f : Int} (h : (vr m e && vr k f) = true) : vr m e = true ∧ vr k f = true := by simpa using h

set_option maxRecDepth 100000 in
set_option maxHeartbeats 1600000 in
theorem add_bad (m e k f : Int) (w : World) (HV : Hid ((vr m e && vr k f) = false)) (h1 : -9223372036854775808 ≤ m ∧ m ≤ 9223372036854775807) (h2 : -9223372036854775808 ≤ k ∧ k ≤ 9223372036854775807) :
    Calls Tryz.prog 33 #[realV m e, realV k f] w fun r w' => r = .returned (rE 0 0 1) ∧ Below w.heap.size w w' := by
  go_enter Tryz.func33, Tryz.ntmps33
  go_wp2_with fail
  refine (both_is HV.out _ h1 h2).mono ?_
  rintro r w1 ⟨rfl, hb1⟩
  have f2_0 : w1.frozen? ⟨w.heap.size + 1 + 1, 0, none⟩ = false := carryF hb1 (v := .int .i64 0) (by first | with_reducible assumption | go_simp) (by first | with_reducible assumption | go_simp)
  have f2_1 : w1.frozen? ⟨w.heap.size + 1 + 1, 1, none⟩ = false := carryF hb1 (v := .int .i64 0) (by first | with_reducible assumption | go_simp) (by first | with_reducible assumption | go_simp)
  have c0_0 : w1.cell? ⟨w.heap.size, 0, none⟩ = some (.int .i64 m) := carry hb1 (by first | with_reducible assumption | go_simp)
  have c0_1 : w1.cell? ⟨w.heap.size, 1, none⟩ = some (.int .i64 e) := carry hb1 (by first | with_reducible assumption | go_simp)
  have z0 : w.heap.size < w1.heap.size := by have := hb1.size; first | omega | (simp at this; omega)
  have c1_0 : w1.cell? ⟨w.heap.size + 1, 0, none⟩ = some (.int .i64 k) := carry hb1 (by first | with_reducible assumption | go_simp)
  have c1_1 : w1.cell? ⟨w.heap.size + 1, 1, none⟩ = some (.int .i64 f) := carry hb1 (by first | with_reducible assumption | go_simp)
  have z1 : w.heap.size + 1 < w1.heap.size := by have := hb1.size; first | omega | (simp at this; omega)
  have c2_0 : w1.cell? ⟨w.heap.size + 1 + 1, 0, none⟩ = some (.int .i64 0) := carry hb1 (by first | with_reducible assumption | go_simp)
  have c2_1 : w1.cell? ⟨w.heap.size + 1 + 1, 1, none⟩ = some (.int .i64 0) := carry hb1 (by first | with_reducible assumption | go_simp)
  have z2 : w.heap.size + 1 + 1 < w1.heap.size := by have := hb1.size; first | omega | (simp at this; omega)
  have HBB := Lib.hid ((by repeat (first | with_reducible exact Below.refl _ _ | with_reducible refine Below.setCell ?_ (by first | omega | (simp; done) | (simp; omega)) _ | with_reducible refine Below.drew ?_ | with_reducible refine Below.alloc ?_ (by first | omega | (simp; done) | (simp; omega)) _) : Below w.heap.size w _).trans (hb1.mono (by first | omega | (simp; done) | (simp; omega))))
  clear hb1
  go_wp2_with fail
  refine bodyPost_ret (v := rE 0 0 1) (by simp [results, Tryz.results33, go_sem, c2_0, c2_1]) rfl ⟨rfl, by repeat (first | with_reducible exact HBB.out | with_reducible exact Below.refl _ _ | with_reducible refine Below.drew ?_ | with_reducible refine Below.setCell ?_ (by first | omega | (simp; done) | (simp; omega)) _ | with_reducible refine Below.alloc ?_ (by first | omega | (simp; done) | (simp; omega)) _)⟩

set_option maxRecDepth 100000 in
set_option maxHeartbeats 1600000 in
theorem add_ok (m e k f : Int) (w : World) (HV : Hid ((vr m e && vr k f) = true)) :
    Calls Tryz.prog 33 #[realV m e, realV k f] w fun r w' => r = .returned (oV (smM m e k f) (smE m e k f)) ∧ Below w.heap.size w w' := by
  have hmf : ∀ (fn : Fn) (first cap : Array Value) (w : World), (Instr.makeFunc fn first cap).run Tryz.prog w = .ok (.func fn first cap) w := fun _ _ _ _ => rfl
  obtain ⟨v1, v2⟩ := both_vr HV.out
  obtain ⟨m1, m2, e1, e2⟩ := vr_bd v1
  obtain ⟨k1, k2, f1, f2⟩ := vr_bd v2
  have HE := Lib.hid (fun caps W => Go.Proofs.enters_of (P := Tryz.prog) Tryz.func65 (by kernel_rfl) rfl caps W)
  have HB1 := Lib.hid ((show -9223372036854775808 ≤ smM m e k f ∧ smM m e k f ≤ 9223372036854775807 ∧ -2000 ≤ smE m e k f ∧ smE m e k f ≤ 2000 from by have a := smM_bd m e k f (by omega) (by omega) (by omega) (by omega); have b := smE_bd m e k f; omega))
  go_enter Tryz.func33, Tryz.ntmps33
  go_wp2_with fail
  refine (both_is HV.out _ (by omega) (by omega)).mono ?_
  rintro r w1 ⟨rfl, hb1⟩
  have f2_0 : w1.frozen? ⟨w.heap.size + 1 + 1, 0, none⟩ = false := carryF hb1 (v := .int .i64 0) (by first | with_reducible assumption | go_simp) (by first | with_reducible assumption | go_simp)
  have f2_1 : w1.frozen? ⟨w.heap.size + 1 + 1, 1, none⟩ = false := carryF hb1 (v := .int .i64 0) (by first | with_reducible assumption | go_simp) (by first | with_reducible assumption | go_simp)
  have c0_0 : w1.cell? ⟨w.heap.size, 0, none⟩ = some (.int .i64 m) := carry hb1 (by first | with_reducible assumption | go_simp)
  have c0_1 : w1.cell? ⟨w.heap.size, 1, none⟩ = some (.int .i64 e) := carry hb1 (by first | with_reducible assumption | go_simp)
  have z0 : w.heap.size < w1.heap.size := by have := hb1.size; first | omega | (simp at this; omega)
  have c1_0 : w1.cell? ⟨w.heap.size + 1, 0, none⟩ = some (.int .i64 k) := carry hb1 (by first | with_reducible assumption | go_simp)
  have c1_1 : w1.cell? ⟨w.heap.size + 1, 1, none⟩ = some (.int .i64 f) := carry hb1 (by first | with_reducible assumption | go_simp)
  have z1 : w.heap.size + 1 < w1.heap.size := by have := hb1.size; first | omega | (simp at this; omega)
  have c2_0 : w1.cell? ⟨w.heap.size + 1 + 1, 0, none⟩ = some (.int .i64 0) := carry hb1 (by first | with_reducible assumption | go_simp)
  have c2_1 : w1.cell? ⟨w.heap.size + 1 + 1, 1, none⟩ = some (.int .i64 0) := carry hb1 (by first | with_reducible assumption | go_simp)
  have z2 : w.heap.size + 1 + 1 < w1.heap.size := by have := hb1.size; first | omega | (simp at this; omega)
  have HBB := Lib.hid ((by repeat (first | with_reducible exact Below.refl _ _ | with_reducible refine Below.setCell ?_ (by first | omega | (simp; done) | (simp; omega)) _ | with_reducible refine Below.drew ?_ | with_reducible refine Below.alloc ?_ (by first | omega | (simp; done) | (simp; omega)) _) : Below w.heap.size w _).trans (hb1.mono (by first | omega | (simp; done) | (simp; omega))))
  clear hb1
  go_wp2_with fail
  refine (ev_any _ _ (smM m e k f) (smE m e k f) _ (Lib.hid fun W => HE.out _ W) (Lib.hid fun W hW => addc w.heap.size (w.heap.size + 1) m e k f W (carry hW c0_0) (carry hW c0_1) (carry hW c1_0) (carry hW c1_1) (Nat.lt_of_lt_of_le z0 hW.size) (Nat.lt_of_lt_of_le z1 hW.size) (by omega) (by omega) (by omega) (by omega) (by omega) (by omega) (by omega) (by omega)) HB1.out.1 HB1.out.2.1 HB1.out.2.2.1 HB1.out.2.2.2).mono ?_
  rintro r w2 ⟨rfl, hb2⟩
  have f2_0 : w2.frozen? ⟨w.heap.size + 1 + 1, 0, none⟩ = false := carryF hb2 (v := .int .i64 0) (by first | with_reducible assumption | go_simp) (by first | with_reducible assumption | go_simp)
  have f2_1 : w2.frozen? ⟨w.heap.size + 1 + 1, 1, none⟩ = false := carryF hb2 (v := .int .i64 0) (by first | with_reducible assumption | go_simp) (by first | with_reducible assumption | go_simp)
  have c2_0 : w2.cell? ⟨w.heap.size + 1 + 1, 0, none⟩ = some (.int .i64 0) := carry hb2 (by first | with_reducible assumption | go_simp)
  have c2_1 : w2.cell? ⟨w.heap.size + 1 + 1, 1, none⟩ = some (.int .i64 0) := carry hb2 (by first | with_reducible assumption | go_simp)
  have z2 : w.heap.size + 1 + 1 < w2.heap.size := by have := hb2.size; first | omega | (simp at this; omega)
  have HBB := Lib.hid ((by repeat (first | with_reducible exact HBB.out | with_reducible refine Below.setCell ?_ (by first | omega | (simp; done) | (simp; omega)) _ | with_reducible refine Below.drew ?_ | with_reducible refine Below.alloc ?_ (by first | omega | (simp; done) | (simp; omega)) _) : Below w.heap.size w _).trans (hb2.mono (by first | omega | (simp; done) | (simp; omega))))
  clear hb2
  clear HB1
  unfold oV
  generalize hm : roM (smM m e k f) (smE m e k f) = am
  generalize he : roE (smM m e k f) (smE m e k f) = ae
  generalize hx : roX (smM m e k f) (smE m e k f) = ax
  have HQ := Lib.hid (And.intro hm (And.intro he hx))
  clear hm he hx
  go_wp2_with fail
  refine bodyPost_ret (v := rE am ae ax) (by simp [results, Tryz.results33, go_sem, c2_0, c2_1]) rfl ⟨by rw [← HQ.out.1, ← HQ.out.2.1, ← HQ.out.2.2], by repeat (first | with_reducible exact HBB.out | with_reducible exact Below.refl _ _ | with_reducible refine Below.drew ?_ | with_reducible refine Below.setCell ?_ (by first | omega | (simp; done) | (simp; omega)) _ | with_reducible refine Below.alloc ?_ (by first | omega | (simp; done) | (simp; omega)) _)⟩

set_option maxRecDepth 100000 in
set_option maxHeartbeats 1600000 in
theorem sub_bad (m e k f : Int) (w : World) (HV : Hid ((vr m e && vr k f) = false)) (h1 : -9223372036854775808 ≤ m ∧ m ≤ 9223372036854775807) (h2 : -9223372036854775808 ≤ k ∧ k ≤ 9223372036854775807) :
    Calls Tryz.prog 35 #[realV m e, realV k f] w fun r w' => r = .returned (rE 0 0 1) ∧ Below w.heap.size w w' := by
  go_enter Tryz.func35, Tryz.ntmps35
  go_wp2_with fail
  refine (both_is HV.out _ h1 h2).mono ?_
  rintro r w1 ⟨rfl, hb1⟩
  have f2_0 : w1.frozen? ⟨w.heap.size + 1 + 1, 0, none⟩ = false := carryF hb1 (v := .int .i64 0) (by first | with_reducible assumption | go_simp) (by first | with_reducible assumption | go_simp)
  have f2_1 : w1.frozen? ⟨w.heap.size + 1 + 1, 1, none⟩ = false := carryF hb1 (v := .int .i64 0) (by first | with_reducible assumption | go_simp) (by first | with_reducible assumption | go_simp)
  have c0_0 : w1.cell? ⟨w.heap.size, 0, none⟩ = some (.int .i64 m) := carry hb1 (by first | with_reducible assumption | go_simp)
  have c0_1 : w1.cell? ⟨w.heap.size, 1, none⟩ = some (.int .i64 e) := carry hb1 (by first | with_reducible assumption | go_simp)
  have z0 : w.heap.size < w1.heap.size := by have := hb1.size; first | omega | (simp at this; omega)
  have c1_0 : w1.cell? ⟨w.heap.size + 1, 0, none⟩ = some (.int .i64 k) := carry hb1 (by first | with_reducible assumption | go_simp)
  have c1_1 : w1.cell? ⟨w.heap.size + 1, 1, none⟩ = some (.int .i64 f) := carry hb1 (by first | with_reducible assumption | go_simp)
  have z1 : w.heap.size + 1 < w1.heap.size := by have := hb1.size; first | omega | (simp at this; omega)
  have c2_0 : w1.cell? ⟨w.heap.size + 1 + 1, 0, none⟩ = some (.int .i64 0) := carry hb1 (by first | with_reducible assumption | go_simp)
  have c2_1 : w1.cell? ⟨w.heap.size + 1 + 1, 1, none⟩ = some (.int .i64 0) := carry hb1 (by first | with_reducible assumption | go_simp)
  have z2 : w.heap.size + 1 + 1 < w1.heap.size := by have := hb1.size; first | omega | (simp at this; omega)
  have HBB := Lib.hid ((by repeat (first | with_reducible exact Below.refl _ _ | with_reducible refine Below.setCell ?_ (by first | omega | (simp; done) | (simp; omega)) _ | with_reducible refine Below.drew ?_ | with_reducible refine Below.alloc ?_ (by first | omega | (simp; done) | (simp; omega)) _) : Below w.heap.size w _).trans (hb1.mono (by first | omega | (simp; done) | (simp; omega))))
  clear hb1
  go_wp2_with fail
  refine bodyPost_ret (v := rE 0 0 1) (by simp [results, Tryz.results35, go_sem, c2_0, c2_1]) rfl ⟨rfl, by repeat (first | with_reducible exact HBB.out | with_reducible exact Below.refl _ _ | with_reducible refine Below.drew ?_ | with_reducible refine Below.setCell ?_ (by first | omega | (simp; done) | (simp; omega)) _ | with_reducible refine Below.alloc ?_ (by first | omega | (simp; done) | (simp; omega)) _)⟩

set_option maxRecDepth 100000 in
set_option maxHeartbeats 1600000 in
theorem sub_ok (m e k f : Int) (w : World) (HV : Hid ((vr m e && vr k f) = true)) :
    Calls Tryz.prog 35 #[realV m e, realV k f] w fun r w' => r = .returned (oV (smM m e (-k) f) (smE m e (-k) f)) ∧ Below w.heap.size w w' := by
  have hmf : ∀ (fn : Fn) (first cap : Array Value) (w : World), (Instr.makeFunc fn first cap).run Tryz.prog w = .ok (.func fn first cap) w := fun _ _ _ _ => rfl
  obtain ⟨v1, v2⟩ := both_vr HV.out
  obtain ⟨m1, m2, e1, e2⟩ := vr_bd v1
  obtain ⟨k1, k2, f1, f2⟩ := vr_bd v2
  have HE := Lib.hid (fun caps W => Go.Proofs.enters_of (P := Tryz.prog) Tryz.func67 (by kernel_rfl) rfl caps W)
  have HB1 := Lib.hid ((show -9223372036854775808 ≤ smM m e (-k) f ∧ smM m e (-k) f ≤ 9223372036854775807 ∧ -2000 ≤ smE m e (-k) f ∧ smE m e (-k) f ≤ 2000 from by have a := smM_bd m e (-k) f (by omega) (by omega) (by omega) (by omega); have b := smE_bd m e (-k) f; omega))
  go_enter Tryz.func35, Tryz.ntmps35
  go_wp2_with fail
  refine (both_is HV.out _ (by omega) (by omega)).mono ?_
  rintro r w1 ⟨rfl, hb1⟩
  have f2_0 : w1.frozen? ⟨w.heap.size + 1 + 1, 0, none⟩ = false := carryF hb1 (v := .int .i64 0) (by first | with_reducible assumption | go_simp) (by first | with_reducible assumption | go_simp)
  have f2_1 : w1.frozen? ⟨w.heap.size + 1 + 1, 1, none⟩ = false := carryF hb1 (v := .int .i64 0) (by first | with_reducible assumption | go_simp) (by first | with_reducible assumption | go_simp)
  have c0_0 : w1.cell? ⟨w.heap.size, 0, none⟩ = some (.int .i64 m) := carry hb1 (by first | with_reducible assumption | go_simp)
  have c0_1 : w1.cell? ⟨w.heap.size, 1, none⟩ = some (.int .i64 e) := carry hb1 (by first | with_reducible assumption | go_simp)
  have z0 : w.heap.size < w1.heap.size := by have := hb1.size; first | omega | (simp at this; omega)
  have c1_0 : w1.cell? ⟨w.heap.size + 1, 0, none⟩ = some (.int .i64 k) := carry hb1 (by first | with_reducible assumption | go_simp)
  have c1_1 : w1.cell? ⟨w.heap.size + 1, 1, none⟩ = some (.int .i64 f) := carry hb1 (by first | with_reducible assumption | go_simp)
  have z1 : w.heap.size + 1 < w1.heap.size := by have := hb1.size; first | omega | (simp at this; omega)
  have c2_0 : w1.cell? ⟨w.heap.size + 1 + 1, 0, none⟩ = some (.int .i64 0) := carry hb1 (by first | with_reducible assumption | go_simp)
  have c2_1 : w1.cell? ⟨w.heap.size + 1 + 1, 1, none⟩ = some (.int .i64 0) := carry hb1 (by first | with_reducible assumption | go_simp)
  have z2 : w.heap.size + 1 + 1 < w1.heap.size := by have := hb1.size; first | omega | (simp at this; omega)
  have HBB := Lib.hid ((by repeat (first | with_reducible exact Below.refl _ _ | with_reducible refine Below.setCell ?_ (by first | omega | (simp; done) | (simp; omega)) _ | with_reducible refine Below.drew ?_ | with_reducible refine Below.alloc ?_ (by first | omega | (simp; done) | (simp; omega)) _) : Below w.heap.size w _).trans (hb1.mono (by first | omega | (simp; done) | (simp; omega))))
  clear hb1
  go_wp2_with fail
  refine (ev_any _ _ (smM m e (-k) f) (smE m e (-k) f) _ (Lib.hid fun W => HE.out _ W) (Lib.hid fun W hW => subc w.heap.size (w.heap.size + 1) m e k f W (carry hW c0_0) (carry hW c0_1) (carry hW c1_0) (carry hW c1_1) (Nat.lt_of_lt_of_le z0 hW.size) (Nat.lt_of_lt_of_le z1 hW.size) (by omega) (by omega) (by omega) (by omega) (by omega) (by omega) (by omega) (by omega)) HB1.out.1 HB1.out.2.1 HB1.out.2.2.1 HB1.out.2.2.2).mono ?_
  rintro r w2 ⟨rfl, hb2⟩
  have f2_0 : w2.frozen? ⟨w.heap.size + 1 + 1, 0, none⟩ = false := carryF hb2 (v := .int .i64 0) (by first | with_reducible assumption | go_simp) (by first | with_reducible assumption | go_simp)
  have f2_1 : w2.frozen? ⟨w.heap.size + 1 + 1, 1, none⟩ = false := carryF hb2 (v := .int .i64 0) (by first | with_reducible assumption | go_simp) (by first | with_reducible assumption | go_simp)
  have c2_0 : w2.cell? ⟨w.heap.size + 1 + 1, 0, none⟩ = some (.int .i64 0) := carry hb2 (by first | with_reducible assumption | go_simp)
  have c2_1 : w2.cell? ⟨w.heap.size + 1 + 1, 1, none⟩ = some (.int .i64 0) := carry hb2 (by first | with_reducible assumption | go_simp)
  have z2 : w.heap.size + 1 + 1 < w2.heap.size := by have := hb2.size; first | omega | (simp at this; omega)
  have HBB := Lib.hid ((by repeat (first | with_reducible exact HBB.out | with_reducible refine Below.setCell ?_ (by first | omega | (simp; done) | (simp; omega)) _ | with_reducible refine Below.drew ?_ | with_reducible refine Below.alloc ?_ (by first | omega | (simp; done) | (simp; omega)) _) : Below w.heap.size w _).trans (hb2.mono (by first | omega | (simp; done) | (simp; omega))))
  clear hb2
  clear HB1
  unfold oV
  generalize hm : roM (smM m e (-k) f) (smE m e (-k) f) = am
  generalize he : roE (smM m e (-k) f) (smE m e (-k) f) = ae
  generalize hx : roX (smM m e (-k) f) (smE m e (-k) f) = ax
  have HQ := Lib.hid (And.intro hm (And.intro he hx))
  clear hm he hx
  go_wp2_with fail
  refine bodyPost_ret (v := rE am ae ax) (by simp [results, Tryz.results35, go_sem, c2_0, c2_1]) rfl ⟨by rw [← HQ.out.1, ← HQ.out.2.1, ← HQ.out.2.2], by repeat (first | with_reducible exact HBB.out | with_reducible exact Below.refl _ _ | with_reducible refine Below.drew ?_ | with_reducible refine Below.setCell ?_ (by first | omega | (simp; done) | (simp; omega)) _ | with_reducible refine Below.alloc ?_ (by first | omega | (simp; done) | (simp; omega)) _)⟩

set_option maxRecDepth 100000 in
set_option maxHeartbeats 1600000 in
theorem mul_bad (m e k f : Int) (w : World) (HV : Hid ((vr m e && vr k f) = false)) (h1 : -9223372036854775808 ≤ m ∧ m ≤ 9223372036854775807) (h2 : -9223372036854775808 ≤ k ∧ k ≤ 9223372036854775807) :
    Calls Tryz.prog 25 #[realV m e, realV k f] w fun r w' => r = .returned (rE 0 0 1) ∧ Below w.heap.size w w' := by
  go_enter Tryz.func25, Tryz.ntmps25
  go_wp2_with fail
  refine (both_is HV.out _ h1 h2).mono ?_
  rintro r w1 ⟨rfl, hb1⟩
  have f2_0 : w1.frozen? ⟨w.heap.size + 1 + 1, 0, none⟩ = false := carryF hb1 (v := .int .i64 0) (by first | with_reducible assumption | go_simp) (by first | with_reducible assumption | go_simp)
  have f2_1 : w1.frozen? ⟨w.heap.size + 1 + 1, 1, none⟩ = false := carryF hb1 (v := .int .i64 0) (by first | with_reducible assumption | go_simp) (by first | with_reducible assumption | go_simp)
  have c0_0 : w1.cell? ⟨w.heap.size, 0, none⟩ = some (.int .i64 m) := carry hb1 (by first | with_reducible assumption | go_simp)
  have c0_1 : w1.cell? ⟨w.heap.size, 1, none⟩ = some (.int .i64 e) := carry hb1 (by first | with_reducible assumption | go_simp)
  have z0 : w.heap.size < w1.heap.size := by have := hb1.size; first | omega | (simp at this; omega)
  have c1_0 : w1.cell? ⟨w.heap.size + 1, 0, none⟩ = some (.int .i64 k) := carry hb1 (by first | with_reducible assumption | go_simp)
  have c1_1 : w1.cell? ⟨w.heap.size + 1, 1, none⟩ = some (.int .i64 f) := carry hb1 (by first | with_reducible assumption | go_simp)
  have z1 : w.heap.size + 1 < w1.heap.size := by have := hb1.size; first | omega | (simp at this; omega)
  have c2_0 : w1.cell? ⟨w.heap.size + 1 + 1, 0, none⟩ = some (.int .i64 0) := carry hb1 (by first | with_reducible assumption | go_simp)
  have c2_1 : w1.cell? ⟨w.heap.size + 1 + 1, 1, none⟩ = some (.int .i64 0) := carry hb1 (by first | with_reducible assumption | go_simp)
  have z2 : w.heap.size + 1 + 1 < w1.heap.size := by have := hb1.size; first | omega | (simp at this; omega)
  have HBB := Lib.hid ((by repeat (first | with_reducible exact Below.refl _ _ | with_reducible refine Below.setCell ?_ (by first | omega | (simp; done) | (simp; omega)) _ | with_reducible refine Below.drew ?_ | with_reducible refine Below.alloc ?_ (by first | omega | (simp; done) | (simp; omega)) _) : Below w.heap.size w _).trans (hb1.mono (by first | omega | (simp; done) | (simp; omega))))
  clear hb1
  go_wp2_with fail
  refine bodyPost_ret (v := rE 0 0 1) (by simp [results, Tryz.results25, go_sem, c2_0, c2_1]) rfl ⟨rfl, by repeat (first | with_reducible exact HBB.out | with_reducible exact Below.refl _ _ | with_reducible refine Below.drew ?_ | with_reducible refine Below.setCell ?_ (by first | omega | (simp; done) | (simp; omega)) _ | with_reducible refine Below.alloc ?_ (by first | omega | (simp; done) | (simp; omega)) _)⟩

set_option maxRecDepth 100000 in
set_option maxHeartbeats 1600000 in
theorem mul_ok (m e k f : Int) (w : World) (HV : Hid ((vr m e && vr k f) = true)) :
    Calls Tryz.prog 25 #[realV m e, realV k f] w fun r w' => r = .returned (oV (m * k) (e + f)) ∧ Below w.heap.size w w' := by
  have hmf : ∀ (fn : Fn) (first cap : Array Value) (w : World), (Instr.makeFunc fn first cap).run Tryz.prog w = .ok (.func fn first cap) w := fun _ _ _ _ => rfl
  obtain ⟨v1, v2⟩ := both_vr HV.out
  obtain ⟨m1, m2, e1, e2⟩ := vr_bd v1
  obtain ⟨k1, k2, f1, f2⟩ := vr_bd v2
  have HE := Lib.hid (fun caps W => Go.Proofs.enters_of (P := Tryz.prog) Tryz.func53 (by kernel_rfl) rfl caps W)
  have HB1 := Lib.hid ((show -9223372036854775808 ≤ m * k ∧ m * k ≤ 9223372036854775807 ∧ -2000 ≤ e + f ∧ e + f ≤ 2000 from by have a := mulr_bd m k (by omega) (by omega) (by omega) (by omega); omega))
  go_enter Tryz.func25, Tryz.ntmps25
  go_wp2_with fail
  refine (both_is HV.out _ (by omega) (by omega)).mono ?_
  rintro r w1 ⟨rfl, hb1⟩
  have f2_0 : w1.frozen? ⟨w.heap.size + 1 + 1, 0, none⟩ = false := carryF hb1 (v := .int .i64 0) (by first | with_reducible assumption | go_simp) (by first | with_reducible assumption | go_simp)
  have f2_1 : w1.frozen? ⟨w.heap.size + 1 + 1, 1, none⟩ = false := carryF hb1 (v := .int .i64 0) (by first | with_reducible assumption | go_simp) (by first | with_reducible assumption | go_simp)
  have c0_0 : w1.cell? ⟨w.heap.size, 0, none⟩ = some (.int .i64 m) := carry hb1 (by first | with_reducible assumption | go_simp)
  have c0_1 : w1.cell? ⟨w.heap.size, 1, none⟩ = some (.int .i64 e) := carry hb1 (by first | with_reducible assumption | go_simp)
  have z0 : w.heap.size < w1.heap.size := by have := hb1.size; first | omega | (simp at this; omega)
  have c1_0 : w1.cell? ⟨w.heap.size + 1, 0, none⟩ = some (.int .i64 k) := carry hb1 (by first | with_reducible assumption | go_simp)
  have c1_1 : w1.cell? ⟨w.heap.size + 1, 1, none⟩ = some (.int .i64 f) := carry hb1 (by first | with_reducible assumption | go_simp)
  have z1 : w.heap.size + 1 < w1.heap.size := by have := hb1.size; first | omega | (simp at this; omega)
  have c2_0 : w1.cell? ⟨w.heap.size + 1 + 1, 0, none⟩ = some (.int .i64 0) := carry hb1 (by first | with_reducible assumption | go_simp)
  have c2_1 : w1.cell? ⟨w.heap.size + 1 + 1, 1, none⟩ = some (.int .i64 0) := carry hb1 (by first | with_reducible assumption | go_simp)
  have z2 : w.heap.size + 1 + 1 < w1.heap.size := by have := hb1.size; first | omega | (simp at this; omega)
  have HBB := Lib.hid ((by repeat (first | with_reducible exact Below.refl _ _ | with_reducible refine Below.setCell ?_ (by first | omega | (simp; done) | (simp; omega)) _ | with_reducible refine Below.drew ?_ | with_reducible refine Below.alloc ?_ (by first | omega | (simp; done) | (simp; omega)) _) : Below w.heap.size w _).trans (hb1.mono (by first | omega | (simp; done) | (simp; omega))))
  clear hb1
  go_wp2_with fail
  refine (ev_any _ _ (m * k) (e + f) _ (Lib.hid fun W => HE.out _ W) (Lib.hid fun W hW => mulc w.heap.size (w.heap.size + 1) m e k f W (carry hW c0_0) (carry hW c0_1) (carry hW c1_0) (carry hW c1_1) (Nat.lt_of_lt_of_le z0 hW.size) (Nat.lt_of_lt_of_le z1 hW.size) (by omega) (by omega) (by omega) (by omega) (by omega) (by omega) (by omega) (by omega)) HB1.out.1 HB1.out.2.1 HB1.out.2.2.1 HB1.out.2.2.2).mono ?_
  rintro r w2 ⟨rfl, hb2⟩
  have f2_0 : w2.frozen? ⟨w.heap.size + 1 + 1, 0, none⟩ = false := carryF hb2 (v := .int .i64 0) (by first | with_reducible assumption | go_simp) (by first | with_reducible assumption | go_simp)
  have f2_1 : w2.frozen? ⟨w.heap.size + 1 + 1, 1, none⟩ = false := carryF hb2 (v := .int .i64 0) (by first | with_reducible assumption | go_simp) (by first | with_reducible assumption | go_simp)
  have c2_0 : w2.cell? ⟨w.heap.size + 1 + 1, 0, none⟩ = some (.int .i64 0) := carry hb2 (by first | with_reducible assumption | go_simp)
  have c2_1 : w2.cell? ⟨w.heap.size + 1 + 1, 1, none⟩ = some (.int .i64 0) := carry hb2 (by first | with_reducible assumption | go_simp)
  have z2 : w.heap.size + 1 + 1 < w2.heap.size := by have := hb2.size; first | omega | (simp at this; omega)
  have HBB := Lib.hid ((by repeat (first | with_reducible exact HBB.out | with_reducible refine Below.setCell ?_ (by first | omega | (simp; done) | (simp; omega)) _ | with_reducible refine Below.drew ?_ | with_reducible refine Below.alloc ?_ (by first | omega | (simp; done) | (simp; omega)) _) : Below w.heap.size w _).trans (hb2.mono (by first | omega | (simp; done) | (simp; omega))))
  clear hb2
  clear HB1
  unfold oV
  generalize hm : roM (m * k) (e + f) = am
  generalize he : roE (m * k) (e + f) = ae
  generalize hx : roX (m * k) (e + f) = ax
  have HQ := Lib.hid (And.intro hm (And.intro he hx))
  clear hm he hx
  go_wp2_with fail
  refine bodyPost_ret (v := rE am ae ax) (by simp [results, Tryz.results25, go_sem, c2_0, c2_1]) rfl ⟨by rw [← HQ.out.1, ← HQ.out.2.1, ← HQ.out.2.2], by repeat (first | with_reducible exact HBB.out | with_reducible exact Below.refl _ _ | with_reducible refine Below.drew ?_ | with_reducible refine Below.setCell ?_ (by first | omega | (simp; done) | (simp; omega)) _ | with_reducible refine Below.alloc ?_ (by first | omega | (simp; done) | (simp; omega)) _)⟩

set_option maxRecDepth 100000 in
set_option maxHeartbeats 1600000 in
theorem div_bad (m e k f : Int) (w : World) (HV : Hid ((vr m e && vr k f) = false)) (h1 : -9223372036854775808 ≤ m ∧ m ≤ 9223372036854775807) (h2 : -9223372036854775808 ≤ k ∧ k ≤ 9223372036854775807) :
    Calls Tryz.prog 26 #[realV m e, realV k f] w fun r w' => r = .returned (rE 0 0 1) ∧ Below w.heap.size w w' := by
  go_enter Tryz.func26, Tryz.ntmps26
  go_wp2_with fail
  refine (both_is HV.out _ h1 h2).mono ?_
  rintro r w1 ⟨rfl, hb1⟩
  have f2_0 : w1.frozen? ⟨w.heap.size + 1 + 1, 0, none⟩ = false := carryF hb1 (v := .int .i64 0) (by first | with_reducible assumption | go_simp) (by first | with_reducible assumption | go_simp)
  have f2_1 : w1.frozen? ⟨w.heap.size + 1 + 1, 1, none⟩ = false := carryF hb1 (v := .int .i64 0) (by first | with_reducible assumption | go_simp) (by first | with_reducible assumption | go_simp)
  have c0_0 : w1.cell? ⟨w.heap.size, 0, none⟩ = some (.int .i64 m) := carry hb1 (by first | with_reducible assumption | go_simp)
  have c0_1 : w1.cell? ⟨w.heap.size, 1, none⟩ = some (.int .i64 e) := carry hb1 (by first | with_reducible assumption | go_simp)
  have z0 : w.heap.size < w1.heap.size := by have := hb1.size; first | omega | (simp at this; omega)
  have c1_0 : w1.cell? ⟨w.heap.size + 1, 0, none⟩ = some (.int .i64 k) := carry hb1 (by first | with_reducible assumption | go_simp)
  have c1_1 : w1.cell? ⟨w.heap.size + 1, 1, none⟩ = some (.int .i64 f) := carry hb1 (by first | with_reducible assumption | go_simp)
  have z1 : w.heap.size + 1 < w1.heap.size := by have := hb1.size; first | omega | (simp at this; omega)
  have c2_0 : w1.cell? ⟨w.heap.size + 1 + 1, 0, none⟩ = some (.int .i64 0) := carry hb1 (by first | with_reducible assumption | go_simp)
  have c2_1 : w1.cell? ⟨w.heap.size + 1 + 1, 1, none⟩ = some (.int .i64 0) := carry hb1 (by first | with_reducible assumption | go_simp)
  have z2 : w.heap.size + 1 + 1 < w1.heap.size := by have := hb1.size; first | omega | (simp at this; omega)
  have HBB := Lib.hid ((by repeat (first | with_reducible exact Below.refl _ _ | with_reducible refine Below.setCell ?_ (by first | omega | (simp; done) | (simp; omega)) _ | with_reducible refine Below.drew ?_ | with_reducible refine Below.alloc ?_ (by first | omega | (simp; done) | (simp; omega)) _) : Below w.heap.size w _).trans (hb1.mono (by first | omega | (simp; done) | (simp; omega))))
  clear hb1
  go_wp2_with fail
  refine bodyPost_ret (v := rE 0 0 1) (by simp [results, Tryz.results26, go_sem, c2_0, c2_1]) rfl ⟨rfl, by repeat (first | with_reducible exact HBB.out | with_reducible exact Below.refl _ _ | with_reducible refine Below.drew ?_ | with_reducible refine Below.setCell ?_ (by first | omega | (simp; done) | (simp; omega)) _ | with_reducible refine Below.alloc ?_ (by first | omega | (simp; done) | (simp; omega)) _)⟩

set_option maxRecDepth 100000 in
set_option maxHeartbeats 1600000 in
theorem div_ok (m e k f : Int) (w : World) (HV : Hid ((vr m e && vr k f) = true)) (Z : Hid (decide (k = 0 ∧ f = 0) = false)) (k0 : k ≠ 0) :
    Calls Tryz.prog 26 #[realV m e, realV k f] w fun r w' => r = .returned (oV (quM m k) (quE m e f)) ∧ Below w.heap.size w w' := by
  have hmf : ∀ (fn : Fn) (first cap : Array Value) (w : World), (Instr.makeFunc fn first cap).run Tryz.prog w = .ok (.func fn first cap) w := fun _ _ _ _ => rfl
  obtain ⟨v1, v2⟩ := both_vr HV.out
  obtain ⟨m1, m2, e1, e2⟩ := vr_bd v1
  obtain ⟨k1, k2, f1, f2⟩ := vr_bd v2
  have HE := Lib.hid (fun caps W => Go.Proofs.enters_of (P := Tryz.prog) Tryz.func56 (by kernel_rfl) rfl caps W)
  have HB1 := Lib.hid ((show -9223372036854775808 ≤ quM m k ∧ quM m k ≤ 9223372036854775807 ∧ -2000 ≤ quE m e f ∧ quE m e f ≤ 2000 from by have a := quM_bd m k (by omega) (by omega) (by omega) (by omega) k0; have b := quS_bd m (by omega) (by omega); unfold quE; omega))
  go_enter Tryz.func26, Tryz.ntmps26
  go_wp2_with fail
  refine (both_is HV.out _ (by omega) (by omega)).mono ?_
  rintro r w1 ⟨rfl, hb1⟩
  have f2_0 : w1.frozen? ⟨w.heap.size + 1 + 1, 0, none⟩ = false := carryF hb1 (v := .int .i64 0) (by first | with_reducible assumption | go_simp) (by first | with_reducible assumption | go_simp)
  have f2_1 : w1.frozen? ⟨w.heap.size + 1 + 1, 1, none⟩ = false := carryF hb1 (v := .int .i64 0) (by first | with_reducible assumption | go_simp) (by first | with_reducible assumption | go_simp)
  have c0_0 : w1.cell? ⟨w.heap.size, 0, none⟩ = some (.int .i64 m) := carry hb1 (by first | with_reducible assumption | go_simp)
  have c0_1 : w1.cell? ⟨w.heap.size, 1, none⟩ = some (.int .i64 e) := carry hb1 (by first | with_reducible assumption | go_simp)
  have z0 : w.heap.size < w1.heap.size := by have := hb1.size; first | omega | (simp at this; omega)
  have c1_0 : w1.cell? ⟨w.heap.size + 1, 0, none⟩ = some (.int .i64 k) := carry hb1 (by first | with_reducible assumption | go_simp)
  have c1_1 : w1.cell? ⟨w.heap.size + 1, 1, none⟩ = some (.int .i64 f) := carry hb1 (by first | with_reducible assumption | go_simp)
  have z1 : w.heap.size + 1 < w1.heap.size := by have := hb1.size; first | omega | (simp at this; omega)
  have c2_0 : w1.cell? ⟨w.heap.size + 1 + 1, 0, none⟩ = some (.int .i64 0) := carry hb1 (by first | with_reducible assumption | go_simp)
  have c2_1 : w1.cell? ⟨w.heap.size + 1 + 1, 1, none⟩ = some (.int .i64 0) := carry hb1 (by first | with_reducible assumption | go_simp)
  have z2 : w.heap.size + 1 + 1 < w1.heap.size := by have := hb1.size; first | omega | (simp at this; omega)
  have HBB := Lib.hid ((by repeat (first | with_reducible exact Below.refl _ _ | with_reducible refine Below.setCell ?_ (by first | omega | (simp; done) | (simp; omega)) _ | with_reducible refine Below.drew ?_ | with_reducible refine Below.alloc ?_ (by first | omega | (simp; done) | (simp; omega)) _) : Below w.heap.size w _).trans (hb1.mono (by first | omega | (simp; done) | (simp; omega))))
  clear hb1
  go_wp2_with fail
  refine (zero_is Z.out _).mono ?_
  rintro r w1b ⟨rfl, hb1⟩
  have f2_0 : w1b.frozen? ⟨w.heap.size + 1 + 1, 0, none⟩ = false := carryF hb1 (v := .int .i64 0) (by first | with_reducible assumption | go_simp) (by first | with_reducible assumption | go_simp)
  have f2_1 : w1b.frozen? ⟨w.heap.size + 1 + 1, 1, none⟩ = false := carryF hb1 (v := .int .i64 0) (by first | with_reducible assumption | go_simp) (by first | with_reducible assumption | go_simp)
  have c0_0 : w1b.cell? ⟨w.heap.size, 0, none⟩ = some (.int .i64 m) := carry hb1 (by first | with_reducible assumption | go_simp)
  have c0_1 : w1b.cell? ⟨w.heap.size, 1, none⟩ = some (.int .i64 e) := carry hb1 (by first | with_reducible assumption | go_simp)
  have z0 : w.heap.size < w1b.heap.size := by have := hb1.size; first | omega | (simp at this; omega)
  have c1_0 : w1b.cell? ⟨w.heap.size + 1, 0, none⟩ = some (.int .i64 k) := carry hb1 (by first | with_reducible assumption | go_simp)
  have c1_1 : w1b.cell? ⟨w.heap.size + 1, 1, none⟩ = some (.int .i64 f) := carry hb1 (by first | with_reducible assumption | go_simp)
  have z1 : w.heap.size + 1 < w1b.heap.size := by have := hb1.size; first | omega | (simp at this; omega)
  have c2_0 : w1b.cell? ⟨w.heap.size + 1 + 1, 0, none⟩ = some (.int .i64 0) := carry hb1 (by first | with_reducible assumption | go_simp)
  have c2_1 : w1b.cell? ⟨w.heap.size + 1 + 1, 1, none⟩ = some (.int .i64 0) := carry hb1 (by first | with_reducible assumption | go_simp)
  have z2 : w.heap.size + 1 + 1 < w1b.heap.size := by have := hb1.size; first | omega | (simp at this; omega)
  have HBB := Lib.hid ((by repeat (first | with_reducible exact HBB.out | with_reducible refine Below.setCell ?_ (by first | omega | (simp; done) | (simp; omega)) _ | with_reducible refine Below.drew ?_ | with_reducible refine Below.alloc ?_ (by first | omega | (simp; done) | (simp; omega)) _) : Below w.heap.size w _).trans (hb1.mono (by first | omega | (simp; done) | (simp; omega))))
  clear hb1
  go_wp2_with fail
  refine (ev_any _ _ (quM m k) (quE m e f) _ (Lib.hid fun W => HE.out _ W) (Lib.hid fun W hW => divc w.heap.size (w.heap.size + 1) m e k f W (carry hW c0_0) (carry hW c0_1) (carry hW c1_0) (carry hW c1_1) (Nat.lt_of_lt_of_le z0 hW.size) (Nat.lt_of_lt_of_le z1 hW.size) (by omega) (by omega) (by omega) (by omega) (by omega) (by omega) (by omega) (by omega) k0) HB1.out.1 HB1.out.2.1 HB1.out.2.2.1 HB1.out.2.2.2).mono ?_
  rintro r w2 ⟨rfl, hb2⟩
  have f2_0 : w2.frozen? ⟨w.heap.size + 1 + 1, 0, none⟩ = false := carryF hb2 (v := .int .i64 0) (by first | with_reducible assumption | go_simp) (by first | with_reducible assumption | go_simp)
  have f2_1 : w2.frozen? ⟨w.heap.size + 1 + 1, 1, none⟩ = false := carryF hb2 (v := .int .i64 0) (by first | with_reducible assumption | go_simp) (by first | with_reducible assumption | go_simp)
  have c2_0 : w2.cell? ⟨w.heap.size + 1 + 1, 0, none⟩ = some (.int .i64 0) := carry hb2 (by first | with_reducible assumption | go_simp)
  have c2_1 : w2.cell? ⟨w.heap.size + 1 + 1, 1, none⟩ = some (.int .i64 0) := carry hb2 (by first | with_reducible assumption | go_simp)
  have z2 : w.heap.size + 1 + 1 < w2.heap.size := by have := hb2.size; first | omega | (simp at this; omega)
  have HBB := Lib.hid ((by repeat (first | with_reducible exact HBB.out | with_reducible refine Below.setCell ?_ (by first | omega | (simp; done) | (simp; omega)) _ | with_reducible refine Below.drew ?_ | with_reducible refine Below.alloc ?_ (by first | omega | (simp; done) | (simp; omega)) _) : Below w.heap.size w _).trans (hb2.mono (by first | omega | (simp; done) | (simp; omega))))
  clear hb2
  clear HB1
  unfold oV
  generalize hm : roM (quM m k) (quE m e f) = am
  generalize he : roE (quM m k) (quE m e f) = ae
  generalize hx : roX (quM m k) (quE m e f) = ax
  have HQ := Lib.hid (And.intro hm (And.intro he hx))
  clear hm he hx
  go_wp2_with fail
  refine bodyPost_ret (v := rE am ae ax) (by simp [results, Tryz.results26, go_sem, c2_0, c2_1]) rfl ⟨by rw [← HQ.out.1, ← HQ.out.2.1, ← HQ.out.2.2], by repeat (first | with_reducible exact HBB.out | with_reducible exact Below.refl _ _ | with_reducible refine Below.drew ?_ | with_reducible refine Below.setCell ?_ (by first | omega | (simp; done) | (simp; omega)) _ | with_reducible refine Below.alloc ?_ (by first | omega | (simp; done) | (simp; omega)) _)⟩

set_option maxRecDepth 100000 in
set_option maxHeartbeats 1600000 in
theorem div_none (m e k f : Int) (w : World) (HV : Hid ((vr m e && vr k f) = true)) (Z : Hid (decide (k = 0 ∧ f = 0) = true)) :
    Calls Tryz.prog 26 #[realV m e, realV k f] w fun r w' => r = .returned (rE 0 0 5) ∧ Below w.heap.size w w' := by
  obtain ⟨v1, v2⟩ := both_vr HV.out
  obtain ⟨m1, m2, e1, e2⟩ := vr_bd v1
  obtain ⟨k1, k2, f1, f2⟩ := vr_bd v2
  go_enter Tryz.func26, Tryz.ntmps26
  go_wp2_with fail
  refine (both_is HV.out _ (by omega) (by omega)).mono ?_
  rintro r w1 ⟨rfl, hb1⟩
  have f2_0 : w1.frozen? ⟨w.heap.size + 1 + 1, 0, none⟩ = false := carryF hb1 (v := .int .i64 0) (by first | with_reducible assumption | go_simp) (by first | with_reducible assumption | go_simp)
  have f2_1 : w1.frozen? ⟨w.heap.size + 1 + 1, 1, none⟩ = false := carryF hb1 (v := .int .i64 0) (by first | with_reducible assumption | go_simp) (by first | with_reducible assumption | go_simp)
  have c0_0 : w1.cell? ⟨w.heap.size, 0, none⟩ = some (.int .i64 m) := carry hb1 (by first | with_reducible assumption | go_simp)
  have c0_1 : w1.cell? ⟨w.heap.size, 1, none⟩ = some (.int .i64 e) := carry hb1 (by first | with_reducible assumption | go_simp)
  have z0 : w.heap.size < w1.heap.size := by have := hb1.size; first | omega | (simp at this; omega)
  have c1_0 : w1.cell? ⟨w.heap.size + 1, 0, none⟩ = some (.int .i64 k) := carry hb1 (by first | with_reducible assumption | go_simp)
  have c1_1 : w1.cell? ⟨w.heap.size + 1, 1, none⟩ = some (.int .i64 f) := carry hb1 (by first | with_reducible assumption | go_simp)
  have z1 : w.heap.size + 1 < w1.heap.size := by have := hb1.size; first | omega | (simp at this; omega)
  have c2_0 : w1.cell? ⟨w.heap.size + 1 + 1, 0, none⟩ = some (.int .i64 0) := carry hb1 (by first | with_reducible assumption | go_simp)
  have c2_1 : w1.cell? ⟨w.heap.size + 1 + 1, 1, none⟩ = some (.int .i64 0) := carry hb1 (by first | with_reducible assumption | go_simp)
  have z2 : w.heap.size + 1 + 1 < w1.heap.size := by have := hb1.size; first | omega | (simp at this; omega)
  have HBB := Lib.hid ((by repeat (first | with_reducible exact Below.refl _ _ | with_reducible refine Below.setCell ?_ (by first | omega | (simp; done) | (simp; omega)) _ | with_reducible refine Below.drew ?_ | with_reducible refine Below.alloc ?_ (by first | omega | (simp; done) | (simp; omega)) _) : Below w.heap.size w _).trans (hb1.mono (by first | omega | (simp; done) | (simp; omega))))
  clear hb1
  go_wp2_with fail
  refine (zero_is Z.out _).mono ?_
  rintro r w2 ⟨rfl, hb2⟩
  have f2_0 : w2.frozen? ⟨w.heap.size + 1 + 1, 0, none⟩ = false := carryF hb2 (v := .int .i64 0) (by first | with_reducible assumption | go_simp) (by first | with_reducible assumption | go_simp)
  have f2_1 : w2.frozen? ⟨w.heap.size + 1 + 1, 1, none⟩ = false := carryF hb2 (v := .int .i64 0) (by first | with_reducible assumption | go_simp) (by first | with_reducible assumption | go_simp)
  have c2_0 : w2.cell? ⟨w.heap.size + 1 + 1, 0, none⟩ = some (.int .i64 0) := carry hb2 (by first | with_reducible assumption | go_simp)
  have c2_1 : w2.cell? ⟨w.heap.size + 1 + 1, 1, none⟩ = some (.int .i64 0) := carry hb2 (by first | with_reducible assumption | go_simp)
  have z2 : w.heap.size + 1 + 1 < w2.heap.size := by have := hb2.size; first | omega | (simp at this; omega)
  have HBB := Lib.hid ((by repeat (first | with_reducible exact HBB.out | with_reducible refine Below.setCell ?_ (by first | omega | (simp; done) | (simp; omega)) _ | with_reducible refine Below.drew ?_ | with_reducible refine Below.alloc ?_ (by first | omega | (simp; done) | (simp; omega)) _) : Below w.heap.size w _).trans (hb2.mono (by first | omega | (simp; done) | (simp; omega))))
  clear hb2
  go_wp2_with fail
  refine bodyPost_ret (v := rE 0 0 5) (by simp [results, Tryz.results26, go_sem, c2_0, c2_1]) rfl ⟨rfl, by repeat (first | with_reducible exact HBB.out | with_reducible exact Below.refl _ _ | with_reducible refine Below.drew ?_ | with_reducible refine Below.setCell ?_ (by first | omega | (simp; done) | (simp; omega)) _ | with_reducible refine Below.alloc ?_ (by first | omega | (simp; done) | (simp; omega)) _)⟩

end Go.Proofs.YtbfknapmhkpgcaaGreatDoor
