/-
  PACKAGE real: sums, differences, products, quotients.
-/
import Derived.Test.YtbfknapmhkpgcaaGreatDoorReal14
import Derived.Shelf.Abstract
import Derived.Deep.DeepCutAuto

namespace Go.Proofs.YtbfknapmhkpgcaaGreatDoor
open Go.RowKit
set_option linter.unusedVariables false

def roM (m e : Int) : Int := if rOk m e then aM (rI m e) else 0

def roE (m e : Int) : Int := if rOk m e then aE (rI m e) else 0

def roX (m e : Int) : Int := if rOk m e then 0 else 3

abbrev oV (m e : Int) : Value := rE (roM m e) (roE m e) (roX m e)

theorem ev_any (G : FuncId) (caps : Array Value) (m e : Int) (w : World) (HE : Hid (∀ W, Sem.run Tryz.prog (callFunc G caps) W = .ok (.enter G caps) W))  (HG : Hid (∀ W, Below w.heap.size w W → Calls Tryz.prog G caps W fun r w' => r = .returned (realV m e) ∧ Below W.heap.size W w')) (h1 : -9223372036854775808 ≤ m) (h2 : m ≤ 9223372036854775807) (h3 : -2000 ≤ e) (h4 : e ≤ 2000) :
    Calls Tryz.prog 52 #[.func (.func G) #[] caps] w fun r w' => r = .returned (oV m e) ∧ Below w.heap.size w w' := by
  unfold oV roM roE roX
  cases h : rOk m e
  · exact ev_over G caps m e w HE HG h1 h2 h3 h4 h
  · exact ev_ok G caps m e w HE HG h1 h2 h3 h4 h

theorem evm_any (G : FuncId) (caps : Array Value) (m e : Int) (w : World) (HE : Hid (∀ W, Sem.run Tryz.prog (callFunc G caps) W = .ok (.enter G caps) W))  (HG : Hid (∀ W, Below w.heap.size w W → Calls Tryz.prog G caps W fun r w' => r = .returned (realV m e) ∧ Below W.heap.size W w')) (h1 : -9223372036854775808 ≤ m) (h2 : m ≤ 9223372036854775807) (h3 : -2000 ≤ e) (h4 : e ≤ 2000) :
    Calls Tryz.prog 52 #[.func (.func G) caps #[]] w fun r w' => r = .returned (oV m e) ∧ Below w.heap.size w w' := by
  unfold oV roM roE roX
  cases h : rOk m e
  · exact evm_over G caps m e w HE HG h1 h2 h3 h4 h
  · exact evm_ok G caps m e w HE HG h1 h2 h3 h4 h

set_option maxRecDepth 100000 in
set_option maxHeartbeats 1600000 in
theorem addc (b d : Nat) (m e k f : Int) (w : World) (c0 : w.cell? ⟨b, 0, none⟩ = some (.int .i64 m)) (c1 : w.cell? ⟨b, 1, none⟩ = some (.int .i64 e)) (c2 : w.cell? ⟨d, 0, none⟩ = some (.int .i64 k)) (c3 : w.cell? ⟨d, 1, none⟩ = some (.int .i64 f)) (zb : b < w.heap.size) (zd : d < w.heap.size) (m1 : -16777216 ≤ m) (m2 : m ≤ 16777216) (k1 : -16777216 ≤ k) (k2 : k ≤ 16777216) (e1 : -1000 ≤ e) (e2 : e ≤ 1000) (f1 : -1000 ≤ f) (f2 : f ≤ 1000) :
    Calls Tryz.prog 65 #[.pointer (some ⟨b, 0, none⟩), .pointer (some ⟨d, 0, none⟩)] w fun r w' => r = .returned (realV (smM m e k f) (smE m e k f)) ∧ Below w.heap.size w w' := by
  
  have HS := Lib.hid (fun w => sum_any m e k f w m1 m2 k1 k2 e1 e2 f1 f2)
  generalize smM m e k f = am at HS ⊢
  generalize smE m e k f = ae at HS ⊢
  go_enter Tryz.func65, Tryz.ntmps65
  go_wp2_with fail
  
  refine (HS.out _).mono ?_
  rintro r w1 ⟨rfl, hb1⟩
  have f0_0 : w1.frozen? ⟨w.heap.size, 0, none⟩ = false := carryF hb1 (v := .int .i64 0) (by first | with_reducible assumption | go_simp) (by first | with_reducible assumption | go_simp)
  have f0_1 : w1.frozen? ⟨w.heap.size, 1, none⟩ = false := carryF hb1 (v := .int .i64 0) (by first | with_reducible assumption | go_simp) (by first | with_reducible assumption | go_simp)
  have c0_0 : w1.cell? ⟨w.heap.size, 0, none⟩ = some (.int .i64 0) := carry hb1 (by first | with_reducible assumption | go_simp)
  have c0_1 : w1.cell? ⟨w.heap.size, 1, none⟩ = some (.int .i64 0) := carry hb1 (by first | with_reducible assumption | go_simp)
  have z0 : w.heap.size < w1.heap.size := by have := hb1.size; first | omega | (simp at this; omega)
  have HBB := Lib.hid ((by repeat (first | with_reducible exact Below.refl _ _ | with_reducible refine Below.setCell ?_ (by first | omega | (simp; done) | (simp; omega)) _ | with_reducible refine Below.drew ?_ | with_reducible refine belowN ?_ _ | with_reducible refine Below.alloc ?_ (by first | omega | (simp; done) | (simp; omega)) _) : Below w.heap.size w _).trans (hb1.mono (by first | omega | (simp; done) | (simp; omega))))
  clear hb1
  go_wp2_with fail
  refine bodyPost_ret (v := realV am ae) (by simp [results, Tryz.results65, go_sem, c0_0, c0_1]) rfl ⟨rfl, by repeat (first | with_reducible exact HBB.out | with_reducible exact Below.refl _ _ | with_reducible refine Below.drew ?_ | with_reducible refine belowN ?_ _ | with_reducible refine Below.setCell ?_ (by first | omega | (simp; done) | (simp; omega)) _ | with_reducible refine Below.alloc ?_ (by first | omega | (simp; done) | (simp; omega)) _)⟩

def quS (m : Int) : Int := 62 - (Lib.bitLen (ab m).toNat : Int)

def quP (m : Int) : Int := ab m * 2 ^ (quS m).toNat

def quM (m k : Int) : Int := qsg m k (stk ((quP m).tdiv (ab k)) ((quP m).tmod (ab k) != 0))

def quE (m e f : Int) : Int := e - quS m - f - 1

theorem quS_bd (m : Int) (m1 : -16777216 ≤ m) (m2 : m ≤ 16777216) : 37 ≤ quS m ∧ quS m ≤ 62 ∧ 0 ≤ quP m ∧ quP m ≤ 4611686018427387903 := by
  have a1 : 0 ≤ ab m ∧ ab m ≤ 16777216 := by unfold ab; split <;> omega
  unfold quP quS
  generalize ab m = a at *
  by_cases hz : a = 0
  · subst hz
    have : Lib.bitLen (0 : Int).toNat = 0 := rfl
    rw [this]
    simp
  · obtain ⟨k1, k2, k3, k4⟩ := bl_bd a (by omega) (by omega)
    have hL := Lib.bitLen_le a.toNat 25 (by omega) (by omega)
    generalize Lib.bitLen a.toNat = L at *
    refine ⟨by omega, by omega, Int.mul_nonneg (by omega) (Int.le_of_lt (pow_pos _)), ?_⟩
    have h : a * 2 ^ (62 - (L : Int)).toNat < 2 ^ L * 2 ^ (62 - (L : Int)).toNat := Int.mul_lt_mul_of_pos_right k4 (pow_pos _)
    rw [← Int.pow_add] at h
    have e : L + (62 - (L : Int)).toNat = 62 := by omega
    rw [e] at h
    omega

theorem quM_bd (m k : Int) (m1 : -16777216 ≤ m) (m2 : m ≤ 16777216) (k1 : -16777216 ≤ k) (k2 : k ≤ 16777216) (k0 : k ≠ 0) :
    0 ≤ (quP m).tdiv (ab k) ∧ (quP m).tdiv (ab k) ≤ 4611686018427387903 ∧ -9223372036854775807 ≤ quM m k ∧ quM m k ≤ 9223372036854775807 := by
  obtain ⟨s1, s2, s3, s4⟩ := quS_bd m m1 m2
  have a1 : 0 < ab k := by unfold ab; split <;> omega
  have q0 : 0 ≤ (quP m).tdiv (ab k) := Int.tdiv_nonneg s3 (by omega)
  have q1 : (quP m).tdiv (ab k) ≤ quP m := by
    rw [Int.tdiv_eq_ediv_of_nonneg s3]
    exact Int.ediv_le_self _ s3
  have h := stk_bd ((quP m).tdiv (ab k)) ((quP m).tmod (ab k) != 0)
  refine ⟨q0, by omega, ?_⟩
  unfold quM
  generalize stk _ _ = t at *
  unfold qsg
  split <;> omega

theorem quo_any (m e k f : Int) (w : World) (m1 : -16777216 ≤ m) (m2 : m ≤ 16777216) (k1 : -16777216 ≤ k) (k2 : k ≤ 16777216) (e1 : -1000 ≤ e) (e2 : e ≤ 1000) (f1 : -1000 ≤ f) (f2 : f ≤ 1000) (k0 : k ≠ 0) :
    Calls Tryz.prog 57 #[realV m e, realV k f] w fun r w' => r = .returned (realV (quM m k) (quE m e f)) ∧ Below w.heap.size w w' := by
  obtain ⟨s1, s2, s3, s4⟩ := quS_bd m m1 m2
  obtain ⟨q0, q1, _, _⟩ := quM_bd m k m1 m2 k1 k2 k0
  have a1 : 0 ≤ ab m ∧ ab m ≤ 16777216 := by unfold ab; split <;> omega
  have a2 : 0 < ab k ∧ ab k ≤ 16777216 := by unfold ab; split <;> omega
  unfold quS at s1 s2
  have := quo_t m e k f (ab m) (ab k) (Lib.bitLen (ab m).toNat : Int) (quP m) ((quP m).tdiv (ab k)) ((quP m).tmod (ab k) != 0) w m1 m2 k1 k2 e1 e2 f1 f2 (Lib.hid fun w => mag_any m e w (by omega) (by omega)) (Lib.hid fun w => mag_any k f w (by omega) (by omega)) a1.1 a1.2 a2.1 a2.2 (Lib.hid rfl) (by omega) (by omega) rfl s3 (by omega) rfl q0 q1 rfl
  simpa only [quM, quE, quS] using this

set_option maxRecDepth 100000 in
set_option maxHeartbeats 1600000 in
theorem mulc (b d : Nat) (m e k f : Int) (w : World) (c0 : w.cell? ⟨b, 0, none⟩ = some (.int .i64 m)) (c1 : w.cell? ⟨b, 1, none⟩ = some (.int .i64 e)) (c2 : w.cell? ⟨d, 0, none⟩ = some (.int .i64 k)) (c3 : w.cell? ⟨d, 1, none⟩ = some (.int .i64 f)) (zb : b < w.heap.size) (zd : d < w.heap.size) (m1 : -16777216 ≤ m) (m2 : m ≤ 16777216) (k1 : -16777216 ≤ k) (k2 : k ≤ 16777216) (e1 : -1000 ≤ e) (e2 : e ≤ 1000) (f1 : -1000 ≤ f) (f2 : f ≤ 1000) :
    Calls Tryz.prog 53 #[.pointer (some ⟨b, 0, none⟩), .pointer (some ⟨d, 0, none⟩)] w fun r w' => r = .returned (realV (m * k) (e + f)) ∧ Below w.heap.size w w' := by
  
  have HS := Lib.hid (fun w => product_any m e k f w m1 m2 k1 k2 e1 e2 f1 f2)
  generalize m * k = am at HS ⊢
  generalize e + f = ae at HS ⊢
  go_enter Tryz.func53, Tryz.ntmps53
  go_wp2_with fail
  
  refine (HS.out _).mono ?_
  rintro r w1 ⟨rfl, hb1⟩
  have f0_0 : w1.frozen? ⟨w.heap.size, 0, none⟩ = false := carryF hb1 (v := .int .i64 0) (by first | with_reducible assumption | go_simp) (by first | with_reducible assumption | go_simp)
  have f0_1 : w1.frozen? ⟨w.heap.size, 1, none⟩ = false := carryF hb1 (v := .int .i64 0) (by first | with_reducible assumption | go_simp) (by first | with_reducible assumption | go_simp)
  have c0_0 : w1.cell? ⟨w.heap.size, 0, none⟩ = some (.int .i64 0) := carry hb1 (by first | with_reducible assumption | go_simp)
  have c0_1 : w1.cell? ⟨w.heap.size, 1, none⟩ = some (.int .i64 0) := carry hb1 (by first | with_reducible assumption | go_simp)
  have z0 : w.heap.size < w1.heap.size := by have := hb1.size; first | omega | (simp at this; omega)
  have HBB := Lib.hid ((by repeat (first | with_reducible exact Below.refl _ _ | with_reducible refine Below.setCell ?_ (by first | omega | (simp; done) | (simp; omega)) _ | with_reducible refine Below.drew ?_ | with_reducible refine belowN ?_ _ | with_reducible refine Below.alloc ?_ (by first | omega | (simp; done) | (simp; omega)) _) : Below w.heap.size w _).trans (hb1.mono (by first | omega | (simp; done) | (simp; omega))))
  clear hb1
  go_wp2_with fail
  refine bodyPost_ret (v := realV am ae) (by simp [results, Tryz.results53, go_sem, c0_0, c0_1]) rfl ⟨rfl, by repeat (first | with_reducible exact HBB.out | with_reducible exact Below.refl _ _ | with_reducible refine Below.drew ?_ | with_reducible refine belowN ?_ _ | with_reducible refine Below.setCell ?_ (by first | omega | (simp; done) | (simp; omega)) _ | with_reducible refine Below.alloc ?_ (by first | omega | (simp; done) | (simp; omega)) _)⟩

set_option maxRecDepth 100000 in
set_option maxHeartbeats 1600000 in
theorem divc (b d : Nat) (m e k f : Int) (w : World) (c0 : w.cell? ⟨b, 0, none⟩ = some (.int .i64 m)) (c1 : w.cell? ⟨b, 1, none⟩ = some (.int .i64 e)) (c2 : w.cell? ⟨d, 0, none⟩ = some (.int .i64 k)) (c3 : w.cell? ⟨d, 1, none⟩ = some (.int .i64 f)) (zb : b < w.heap.size) (zd : d < w.heap.size) (m1 : -16777216 ≤ m) (m2 : m ≤ 16777216) (k1 : -16777216 ≤ k) (k2 : k ≤ 16777216) (e1 : -1000 ≤ e) (e2 : e ≤ 1000) (f1 : -1000 ≤ f) (f2 : f ≤ 1000) (k0 : k ≠ 0) :
    Calls Tryz.prog 56 #[.pointer (some ⟨b, 0, none⟩), .pointer (some ⟨d, 0, none⟩)] w fun r w' => r = .returned (realV (quM m k) (quE m e f)) ∧ Below w.heap.size w w' := by
  
  have HS := Lib.hid (fun w => quo_any m e k f w m1 m2 k1 k2 e1 e2 f1 f2 k0)
  generalize quM m k = am at HS ⊢
  generalize quE m e f = ae at HS ⊢
  go_enter Tryz.func56, Tryz.ntmps56
  go_wp2_with fail
  
  refine (HS.out _).mono ?_
  rintro r w1 ⟨rfl, hb1⟩
  have f0_0 : w1.frozen? ⟨w.heap.size, 0, none⟩ = false := carryF hb1 (v := .int .i64 0) (by first | with_reducible assumption | go_simp) (by first | with_reducible assumption | go_simp)
  have f0_1 : w1.frozen? ⟨w.heap.size, 1, none⟩ = false := carryF hb1 (v := .int .i64 0) (by first | with_reducible assumption | go_simp) (by first | with_reducible assumption | go_simp)
  have c0_0 : w1.cell? ⟨w.heap.size, 0, none⟩ = some (.int .i64 0) := carry hb1 (by first | with_reducible assumption | go_simp)
  have c0_1 : w1.cell? ⟨w.heap.size, 1, none⟩ = some (.int .i64 0) := carry hb1 (by first | with_reducible assumption | go_simp)
  have z0 : w.heap.size < w1.heap.size := by have := hb1.size; first | omega | (simp at this; omega)
  have HBB := Lib.hid ((by repeat (first | with_reducible exact Below.refl _ _ | with_reducible refine Below.setCell ?_ (by first | omega | (simp; done) | (simp; omega)) _ | with_reducible refine Below.drew ?_ | with_reducible refine belowN ?_ _ | with_reducible refine Below.alloc ?_ (by first | omega | (simp; done) | (simp; omega)) _) : Below w.heap.size w _).trans (hb1.mono (by first | omega | (simp; done) | (simp; omega))))
  clear hb1
  go_wp2_with fail
  refine bodyPost_ret (v := realV am ae) (by simp [results, Tryz.results56, go_sem, c0_0, c0_1]) rfl ⟨rfl, by repeat (first | with_reducible exact HBB.out | with_reducible exact Below.refl _ _ | with_reducible refine Below.drew ?_ | with_reducible refine belowN ?_ _ | with_reducible refine Below.setCell ?_ (by first | omega | (simp; done) | (simp; omega)) _ | with_reducible refine Below.alloc ?_ (by first | omega | (simp; done) | (simp; omega)) _)⟩

set_option maxRecDepth 100000 in
set_option maxHeartbeats 1600000 in
theorem subc (b d : Nat) (m e k f : Int) (w : World) (c0 : w.cell? ⟨b, 0, none⟩ = some (.int .i64 m)) (c1 : w.cell? ⟨b, 1, none⟩ = some (.int .i64 e)) (c2 : w.cell? ⟨d, 0, none⟩ = some (.int .i64 k)) (c3 : w.cell? ⟨d, 1, none⟩ = some (.int .i64 f)) (zb : b < w.heap.size) (zd : d < w.heap.size) (m1 : -16777216 ≤ m) (m2 : m ≤ 16777216) (k1 : -16777216 ≤ k) (k2 : k ≤ 16777216) (e1 : -1000 ≤ e) (e2 : e ≤ 1000) (f1 : -1000 ≤ f) (f2 : f ≤ 1000) :
    Calls Tryz.prog 67 #[.pointer (some ⟨b, 0, none⟩), .pointer (some ⟨d, 0, none⟩)] w fun r w' => r = .returned (realV (smM m e (-k) f) (smE m e (-k) f)) ∧ Below w.heap.size w w' := by
  have HO : Hid (∀ w : World, Calls Tryz.prog 44 #[realV k f] w fun r w1 => r = .returned (.agg #[.int .i64 (-k), .int .i64 f]) ∧ Below w.heap.size w w1) := Lib.hid (fun w => opp_any k f w (by omega) (by omega))
  have HS := Lib.hid (fun w => sum_any m e (-k) f w m1 m2 (by omega) (by omega) e1 e2 f1 f2)
  generalize smM m e (-k) f = am at HS ⊢
  generalize smE m e (-k) f = ae at HS ⊢
  have cb_0 := c0
  have cb_1 := c1
  have cd_0 := c2
  have cd_1 := c3
  clear c0 c1 c2 c3
  have HB0 := Lib.hid ((by repeat (first | exact Below.refl _ _ | refine Below.alloc ?_ (by simp <;> omega) _) : Below w.heap.size w (w.alloc (Obj.cells #[Value.int IntKind.i64 0, Value.int IntKind.i64 0] 51))))
  go_enter Tryz.func67, Tryz.ntmps67
  go_upto_region 1 with fail
  go_region_held3 (fun wx => wx.cell? ⟨b, 0, none⟩ = some (.int .i64 m) ∧ wx.cell? ⟨b, 1, none⟩ = some (.int .i64 e) ∧ b < wx.heap.size ∧ wx.cell? ⟨d, 0, none⟩ = some (.int .i64 k) ∧ wx.cell? ⟨d, 1, none⟩ = some (.int .i64 f) ∧ d < wx.heap.size) (first | (go_keep; done) | ((try go_split_ands); (repeat' apply And.intro) <;> first | with_reducible assumption | (exact carry hbq (by with_reducible assumption)) | (exact carryF hbq (by with_reducible assumption) (by with_reducible assumption)) | (go_simp; done) | (simp only [World.size_alloc, World.size_drew]; omega) | (with_reducible exact HB0.out.drew) | (with_reducible exact HB0.out) | (with_reducible exact Below.drew (by with_reducible assumption)) | (exact Nat.lt_of_lt_of_le (by first | with_reducible assumption | (simp <;> omega)) hbq.size) | (simp <;> omega) | (exact Below.trans (by with_reducible assumption) (hbq.mono (by first | omega | (simp <;> omega))))))
  (first
    | (go_at_call 44; ((with_reducible refine (HO.out _).mono ?_); rintro r wq ⟨rfl, hbq⟩; have : wq.cell? ⟨w.heap.size, 0, none⟩ = some (.int .i64 0) := carry hbq (by first | with_reducible assumption | go_simp); have : wq.cell? ⟨w.heap.size, 1, none⟩ = some (.int .i64 0) := carry hbq (by first | with_reducible assumption | go_simp); have : wq.frozen? ⟨w.heap.size, 0, none⟩ = false := carryF hbq (v := .int .i64 0) (by first | with_reducible assumption | go_simp) (by first | with_reducible assumption | go_simp); have : wq.frozen? ⟨w.heap.size, 1, none⟩ = false := carryF hbq (v := .int .i64 0) (by first | with_reducible assumption | go_simp) (by first | with_reducible assumption | go_simp); have : w.heap.size < wq.heap.size := Nat.lt_of_lt_of_le (by first | with_reducible assumption | (simp <;> omega)) hbq.size; have : Below w.heap.size w wq := Below.trans (by first | with_reducible assumption | with_reducible exact HB0.out.drew | with_reducible exact HB0.out) (hbq.mono (by first | omega | (simp <;> omega)))))
    | (go_at_call 66; ((with_reducible refine (HS.out _).mono ?_); rintro r wq ⟨rfl, hbq⟩; have : wq.cell? ⟨w.heap.size, 0, none⟩ = some (.int .i64 0) := carry hbq (by first | with_reducible assumption | go_simp); have : wq.cell? ⟨w.heap.size, 1, none⟩ = some (.int .i64 0) := carry hbq (by first | with_reducible assumption | go_simp); have : wq.frozen? ⟨w.heap.size, 0, none⟩ = false := carryF hbq (v := .int .i64 0) (by first | with_reducible assumption | go_simp) (by first | with_reducible assumption | go_simp); have : wq.frozen? ⟨w.heap.size, 1, none⟩ = false := carryF hbq (v := .int .i64 0) (by first | with_reducible assumption | go_simp) (by first | with_reducible assumption | go_simp); have : w.heap.size < wq.heap.size := Nat.lt_of_lt_of_le (by first | with_reducible assumption | (simp <;> omega)) hbq.size; have : Below w.heap.size w wq := Below.trans (by first | with_reducible assumption | with_reducible exact HB0.out.drew | with_reducible exact HB0.out) (hbq.mono (by first | omega | (simp <;> omega))))))
  all_goals (have HBB : Hid (Below w.heap.size w wq) := Lib.hid (by with_reducible assumption))
  all_goals (have c0_0 : wq.cell? ⟨w.heap.size, 0, none⟩ = some (.int .i64 0) := by with_reducible assumption)
  all_goals (have c0_1 : wq.cell? ⟨w.heap.size, 1, none⟩ = some (.int .i64 0) := by with_reducible assumption)
  all_goals go_wp2_with fail
  all_goals refine bodyPost_ret (v := realV am ae) (by simp [results, Tryz.results67, go_sem, c0_0, c0_1]) rfl ⟨rfl, by repeat (first | with_reducible exact HBB.out | with_reducible exact Below.refl _ _ | with_reducible refine Below.drew ?_ | with_reducible refine belowN ?_ _ | with_reducible refine Below.setCell ?_ (by first | omega | (simp; done) | (simp; omega)) _ | with_reducible refine Below.alloc ?_ (by first | omega | (simp; done) | (simp; omega)) _)⟩

end Go.Proofs.YtbfknapmhkpgcaaGreatDoor
