/-
  PACKAGE real: rounded.
-/
import Derived.Test.YtbfknapmhkpgcaaGreatDoorReal8
import Derived.Test.YtbfknapmhkpgcaaGreatDoorShelf

namespace Go.Proofs.YtbfknapmhkpgcaaGreatDoor
open Go.RowKit
set_option linter.unusedVariables false

theorem i64_in (x : Int) (h1 : -9223372036854775808 ≤ x) (h2 : x ≤ 9223372036854775807) : IntKind.i64.wrap x = x := by
  rw [IntKind.wrap_i64]
  omega

set_option maxRecDepth 100000 in
set_option maxHeartbeats 1600000 in
theorem rounded_z (e : Int) (w : World) :
    Calls Tryz.prog 39 #[realV 0 e] w fun r w' => r = .returned (realV 0 0) ∧ Below w.heap.size w w' := by
  go_enter Tryz.func39, Tryz.ntmps39
  go_wp2_with fail
  refine bodyPost_ret (v := realV 0 0) (by simp [results, Tryz.results39, go_sem]) rfl ⟨rfl, by repeat (first | exact HBB.out | exact Below.refl _ _ | refine Below.drew ?_ | refine Below.setCell ?_ (by first | omega | (simp; done) | (simp; omega)) _ | refine Below.alloc ?_ (by first | omega | (simp; done) | (simp; omega)) _)⟩

set_option maxRecDepth 100000 in
set_option maxHeartbeats 1600000 in
theorem rounded_p (m e L c mn : Int) (w : World) (h1 : 0 < m) (h2 : m ≤ 9223372036854775807) (h3 : -2000 ≤ e) (h4 : e ≤ 2000)
    (HL : Hid ((Lib.bitLen m.toNat : Int) = L)) (l1 : 1 ≤ L) (l2 : L ≤ 64) (hc : (if L - 24 < -150 - e then -150 - e else L - 24) = c)
    (HC : Hid (∀ w, Calls Tryz.prog 73 #[.int .u64 m, .int .i64 c] w fun r w' => r = .returned (.int .i64 mn) ∧ Below w.heap.size w w'))
    (m1 : 0 ≤ mn) (m2 : mn ≤ 16777216) (h6 : 0 ≤ e + c + 150) (h5 : mn + (e + c + 150) * 8388608 ≤ 2533359615) :
    Calls Tryz.prog 39 #[realV m e] w fun r w' => r = .returned (realV (aM (mn + (e + c + 150) * 8388608)) (aE (mn + (e + c + 150) * 8388608))) ∧ Below w.heap.size w w' := by
  have hmx : ∀ a b w, Sem.run Tryz.prog (Builtin.max_ #[3, 3] 3 #[.int .i64 a, .int .i64 b]) w = .ok (.int .i64 (if a < b then b else a)) w := fun a b w => by kernel_rfl
  have HW1 := Lib.hid (i64_in (L - 24) (by omega) (by omega))
  have HW2 := Lib.hid (i64_in (-150 - e) (by omega) (by omega))
  have B0 : ∀ o1 o2 : Obj, Below w.heap.size w ((w.alloc o1).alloc o2) := fun _ _ => by repeat (first | exact Below.refl _ _ | refine Below.alloc ?_ (by simp <;> omega) _)
  have HB0 := Lib.hid B0
  clear B0
  go_enter Tryz.func39, Tryz.ntmps39
  go_upto_region 6 with fail
  go_region_held3 (fun wx => wx.cell? ⟨w.heap.size, 0, none⟩ = some (.int .i64 m) ∧ wx.cell? ⟨w.heap.size, 1, none⟩ = some (.int .i64 e) ∧ wx.cell? ⟨w.heap.size + 1, 0, none⟩ = some (.int .i64 0) ∧ wx.cell? ⟨w.heap.size + 1, 1, none⟩ = some (.int .i64 0) ∧ wx.frozen? ⟨w.heap.size + 1, 0, none⟩ = false ∧ wx.frozen? ⟨w.heap.size + 1, 1, none⟩ = false ∧ w.heap.size < wx.heap.size ∧ w.heap.size + 1 < wx.heap.size ∧ Below w.heap.size w wx) (first | (go_keep; done) | ((try go_split_ands); (repeat' apply And.intro) <;> first | assumption | (go_simp; done) | (simp only [World.size_alloc, World.size_drew]; omega) | (exact (HB0.out _ _).drew) | (exact HB0.out _ _) | (exact carry hbq (by first | assumption | go_simp)) | (exact Nat.lt_of_lt_of_le (by first | assumption | (simp <;> omega)) hbq.size) | (simp <;> omega) | (exact Below.trans (by assumption) (hbq.mono (by first | omega | (simp <;> omega))))))
    (first
      | (go_at_call 72; ((with_reducible refine (Tryz.bits_Len64 m _ (by omega) (by omega)).mono ?_); rintro r wq ⟨rfl, rfl⟩; rw [HL.out]))
      | (rw [hmx, hc]))
  all_goals (rw [HW1.out, HW2.out, hc])
  all_goals (rename _ ∧ _ ∧ _ ∧ _ ∧ _ ∧ _ ∧ _ ∧ _ ∧ Below w.heap.size w _ => hS)
  all_goals (obtain ⟨c0, c1, r0, r1, f0, f1, z0, z1, hBq⟩ := hS)
  all_goals (have HBB := Lib.hid hBq)
  all_goals clear hBq
  all_goals go_wp2_with fail
  all_goals (refine (HC.out _).mono ?_; rintro r w2 ⟨rfl, hb2⟩)
  all_goals (
    have c00 : w2.cell? ⟨w.heap.size, 0, none⟩ = some (.int .i64 m) := carry hb2 (by first | assumption | go_simp)
    have c01 : w2.cell? ⟨w.heap.size, 1, none⟩ = some (.int .i64 e) := carry hb2 (by first | assumption | go_simp)
    have z0 : w.heap.size < w2.heap.size := by have := hb2.size; first | omega | (simp at this; omega)
    have f0 : w2.frozen? ⟨w.heap.size + 1, 0, none⟩ = false := carryF hb2 (v := .int .i64 0) (by first | assumption | go_simp) (by first | assumption | go_simp)
    have f1 : w2.frozen? ⟨w.heap.size + 1, 1, none⟩ = false := carryF hb2 (v := .int .i64 0) (by first | assumption | go_simp) (by first | assumption | go_simp)
    have r0 : w2.cell? ⟨w.heap.size + 1, 0, none⟩ = some (.int .i64 0) := carry hb2 (by first | assumption | go_simp)
    have r1 : w2.cell? ⟨w.heap.size + 1, 1, none⟩ = some (.int .i64 0) := carry hb2 (by first | assumption | go_simp)
    have HBB := Lib.hid ((by repeat (first | exact HBB.out | refine Below.setCell ?_ (by first | omega | (simp; done) | (simp; omega)) _ | refine Below.alloc ?_ (by first | omega | (simp; done) | (simp; omega)) _) : Below w.heap.size w _).trans (hb2.mono (by first | omega | (simp; done) | (simp; omega))))
    clear hb2)
  all_goals go_wp2_with fail
  all_goals (refine (realAt_any _ _ (by omega) (by omega)).mono ?_; rintro r w3 ⟨rfl, hb3⟩)
  all_goals (
    have f0 : w3.frozen? ⟨w.heap.size + 1, 0, none⟩ = false := carryF hb3 (v := .int .i64 0) (by first | assumption | go_simp) (by first | assumption | go_simp)
    have f1 : w3.frozen? ⟨w.heap.size + 1, 1, none⟩ = false := carryF hb3 (v := .int .i64 0) (by first | assumption | go_simp) (by first | assumption | go_simp)
    have r0 : w3.cell? ⟨w.heap.size + 1, 0, none⟩ = some (.int .i64 0) := carry hb3 (by first | assumption | go_simp)
    have r1 : w3.cell? ⟨w.heap.size + 1, 1, none⟩ = some (.int .i64 0) := carry hb3 (by first | assumption | go_simp)
    have HBB := Lib.hid ((by repeat (first | exact HBB.out | refine Below.setCell ?_ (by first | omega | (simp; done) | (simp; omega)) _ | refine Below.alloc ?_ (by first | omega | (simp; done) | (simp; omega)) _) : Below w.heap.size w _).trans (hb3.mono (by first | omega | (simp; done) | (simp; omega))))
    clear hb3)
  all_goals (generalize hm : aM _ = am; generalize he : aE _ = ae)
  all_goals (have HQ := Lib.hid (And.intro hm he))
  all_goals clear hm he
  all_goals go_wp2_with fail
  all_goals (refine bodyPost_ret (v := realV am ae) (by simp [results, Tryz.results39, go_sem, r0, r1]) rfl ⟨by rw [← HQ.out.1, ← HQ.out.2], by repeat (first | exact HBB.out | exact Below.refl _ _ | refine Below.drew ?_ | refine Below.setCell ?_ (by first | omega | (simp; done) | (simp; omega)) _ | refine Below.alloc ?_ (by first | omega | (simp; done) | (simp; omega)) _)⟩)

set_option maxRecDepth 100000 in
set_option maxHeartbeats 1600000 in
theorem rounded_n (a e L c mn : Int) (w : World) (h1 : 0 < a) (h2 : a ≤ 9223372036854775808) (h3 : -2000 ≤ e) (h4 : e ≤ 2000)
    (HL : Hid ((Lib.bitLen a.toNat : Int) = L)) (l1 : 1 ≤ L) (l2 : L ≤ 64) (hc : (if L - 24 < -150 - e then -150 - e else L - 24) = c)
    (HC : Hid (∀ w, Calls Tryz.prog 73 #[(.int .u64 a), .int .i64 c] w fun r w' => r = .returned (.int .i64 mn) ∧ Below w.heap.size w w'))
    (m1 : 0 ≤ mn) (m2 : mn ≤ 16777216) (h6 : 0 ≤ e + c + 150) (h5 : mn + (e + c + 150) * 8388608 ≤ 2533359615) :
    Calls Tryz.prog 39 #[realV (-a) e] w fun r w' => r = .returned (realV (aM (-(mn + (e + c + 150) * 8388608))) (aE (-(mn + (e + c + 150) * 8388608)))) ∧ Below w.heap.size w w' := by
  have hmx : ∀ a b w, Sem.run Tryz.prog (Builtin.max_ #[3, 3] 3 #[.int .i64 a, .int .i64 b]) w = .ok (.int .i64 (if a < b then b else a)) w := fun a b w => by kernel_rfl
  have HU := Lib.hid (show IntKind.u64.wrap (-(IntKind.u64.wrap (-a))) = a from by rw [IntKind.wrap_u64, IntKind.wrap_u64]; omega)
  have HW1 := Lib.hid (i64_in (L - 24) (by omega) (by omega))
  have HW2 := Lib.hid (i64_in (-150 - e) (by omega) (by omega))
  have B0 : ∀ o1 o2 : Obj, Below w.heap.size w ((w.alloc o1).alloc o2) := fun _ _ => by repeat (first | exact Below.refl _ _ | refine Below.alloc ?_ (by simp <;> omega) _)
  have HB0 := Lib.hid B0
  clear B0
  go_enter Tryz.func39, Tryz.ntmps39
  go_upto_region 6 with fail
  try rw [HU.out]
  go_region_held3 (fun wx => wx.cell? ⟨w.heap.size, 0, none⟩ = some (.int .i64 (-a)) ∧ wx.cell? ⟨w.heap.size, 1, none⟩ = some (.int .i64 e) ∧ wx.cell? ⟨w.heap.size + 1, 0, none⟩ = some (.int .i64 0) ∧ wx.cell? ⟨w.heap.size + 1, 1, none⟩ = some (.int .i64 0) ∧ wx.frozen? ⟨w.heap.size + 1, 0, none⟩ = false ∧ wx.frozen? ⟨w.heap.size + 1, 1, none⟩ = false ∧ w.heap.size < wx.heap.size ∧ w.heap.size + 1 < wx.heap.size ∧ Below w.heap.size w wx) (first | (go_keep; done) | ((try go_split_ands); (repeat' apply And.intro) <;> first | assumption | (go_simp; done) | (simp only [World.size_alloc, World.size_drew]; omega) | (exact (HB0.out _ _).drew) | (exact HB0.out _ _) | (exact carry hbq (by first | assumption | go_simp)) | (exact Nat.lt_of_lt_of_le (by first | assumption | (simp <;> omega)) hbq.size) | (simp <;> omega) | (exact Below.trans (by assumption) (hbq.mono (by first | omega | (simp <;> omega))))))
    (first
      | (go_at_call 72; ((with_reducible refine (Tryz.bits_Len64 a _ (by omega) (by omega)).mono ?_); rintro r wq ⟨rfl, rfl⟩; rw [HL.out]))
      | (rw [hmx, hc]))
  all_goals (rw [HW1.out, HW2.out, hc])
  all_goals (rename _ ∧ _ ∧ _ ∧ _ ∧ _ ∧ _ ∧ _ ∧ _ ∧ Below w.heap.size w _ => hS)
  all_goals (obtain ⟨c0, c1, r0, r1, f0, f1, z0, z1, hBq⟩ := hS)
  all_goals (have HBB := Lib.hid hBq)
  all_goals clear hBq
  all_goals go_wp2_with fail
  all_goals (refine (HC.out _).mono ?_; rintro r w2 ⟨rfl, hb2⟩)
  all_goals (
    have c00 : w2.cell? ⟨w.heap.size, 0, none⟩ = some (.int .i64 (-a)) := carry hb2 (by first | assumption | go_simp)
    have c01 : w2.cell? ⟨w.heap.size, 1, none⟩ = some (.int .i64 e) := carry hb2 (by first | assumption | go_simp)
    have z0 : w.heap.size < w2.heap.size := by have := hb2.size; first | omega | (simp at this; omega)
    have f0 : w2.frozen? ⟨w.heap.size + 1, 0, none⟩ = false := carryF hb2 (v := .int .i64 0) (by first | assumption | go_simp) (by first | assumption | go_simp)
    have f1 : w2.frozen? ⟨w.heap.size + 1, 1, none⟩ = false := carryF hb2 (v := .int .i64 0) (by first | assumption | go_simp) (by first | assumption | go_simp)
    have r0 : w2.cell? ⟨w.heap.size + 1, 0, none⟩ = some (.int .i64 0) := carry hb2 (by first | assumption | go_simp)
    have r1 : w2.cell? ⟨w.heap.size + 1, 1, none⟩ = some (.int .i64 0) := carry hb2 (by first | assumption | go_simp)
    have HBB := Lib.hid ((by repeat (first | exact HBB.out | refine Below.setCell ?_ (by first | omega | (simp; done) | (simp; omega)) _ | refine Below.alloc ?_ (by first | omega | (simp; done) | (simp; omega)) _) : Below w.heap.size w _).trans (hb2.mono (by first | omega | (simp; done) | (simp; omega))))
    clear hb2)
  all_goals go_wp2_with fail
  all_goals (refine (realAt_any _ _ (by omega) (by omega)).mono ?_; rintro r w3 ⟨rfl, hb3⟩)
  all_goals (
    have f0 : w3.frozen? ⟨w.heap.size + 1, 0, none⟩ = false := carryF hb3 (v := .int .i64 0) (by first | assumption | go_simp) (by first | assumption | go_simp)
    have f1 : w3.frozen? ⟨w.heap.size + 1, 1, none⟩ = false := carryF hb3 (v := .int .i64 0) (by first | assumption | go_simp) (by first | assumption | go_simp)
    have r0 : w3.cell? ⟨w.heap.size + 1, 0, none⟩ = some (.int .i64 0) := carry hb3 (by first | assumption | go_simp)
    have r1 : w3.cell? ⟨w.heap.size + 1, 1, none⟩ = some (.int .i64 0) := carry hb3 (by first | assumption | go_simp)
    have HBB := Lib.hid ((by repeat (first | exact HBB.out | refine Below.setCell ?_ (by first | omega | (simp; done) | (simp; omega)) _ | refine Below.alloc ?_ (by first | omega | (simp; done) | (simp; omega)) _) : Below w.heap.size w _).trans (hb3.mono (by first | omega | (simp; done) | (simp; omega))))
    clear hb3)
  all_goals (generalize hm : aM _ = am; generalize he : aE _ = ae)
  all_goals (have HQ := Lib.hid (And.intro hm he))
  all_goals clear hm he
  all_goals go_wp2_with fail
  all_goals (refine bodyPost_ret (v := realV am ae) (by simp [results, Tryz.results39, go_sem, r0, r1]) rfl ⟨by rw [← HQ.out.1, ← HQ.out.2], by repeat (first | exact HBB.out | exact Below.refl _ _ | refine Below.drew ?_ | refine Below.setCell ?_ (by first | omega | (simp; done) | (simp; omega)) _ | refine Below.alloc ?_ (by first | omega | (simp; done) | (simp; omega)) _)⟩)

end Go.Proofs.YtbfknapmhkpgcaaGreatDoor
