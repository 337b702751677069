/-
  PACKAGE real: any sum; quotients.
-/
import Derived.Test.YtbfknapmhkpgcaaGreatDoorReal12
import Derived.Test.YtbfknapmhkpgcaaGreatDoorShelf
import Derived.StillTailTactics
import Derived.Deep.DeepCutAuto

namespace Go.Proofs.YtbfknapmhkpgcaaGreatDoor
open Go.RowKit
set_option linter.unusedVariables false

def smM (m e k f : Int) : Int := if m = 0 ∧ e = 0 then k else if k = 0 ∧ f = 0 then m else if e < f then (if 38 < f - e then k else k * 2 ^ (f - e).toNat + m) else if 38 < e - f then m else m * 2 ^ (e - f).toNat + k

def smE (m e k f : Int) : Int := if m = 0 ∧ e = 0 then f else if k = 0 ∧ f = 0 then e else if e < f then (if 38 < f - e then f else e) else if 38 < e - f then e else f

theorem smM_bd (m e k f : Int) (m1 : -16777216 ≤ m) (m2 : m ≤ 16777216) (k1 : -16777216 ≤ k) (k2 : k ≤ 16777216) : -4611686018444165120 ≤ smM m e k f ∧ smM m e k f ≤ 4611686018444165120 := by
  unfold smM
  split
  · omega
  · split
    · omega
    · split
      · split
        · omega
        · have := mul_bd k (2 ^ (f - e).toNat) k1 k2 (pow_le _ (by omega))
          omega
      · split
        · omega
        · have := mul_bd m (2 ^ (e - f).toNat) m1 m2 (pow_le _ (by omega))
          omega

theorem smE_bd (m e k f : Int) : smE m e k f = e ∨ smE m e k f = f := by
  unfold smE
  (repeat' split) <;> simp

theorem sum_any (m e k f : Int) (w : World) (m1 : -16777216 ≤ m) (m2 : m ≤ 16777216) (k1 : -16777216 ≤ k) (k2 : k ≤ 16777216) (e1 : -1000 ≤ e) (e2 : e ≤ 1000) (f1 : -1000 ≤ f) (f2 : f ≤ 1000) :
    Calls Tryz.prog 66 #[realV m e, realV k f] w fun r w' => r = .returned (realV (smM m e k f) (smE m e k f)) ∧ Below w.heap.size w w' := by
  unfold smM smE
  by_cases hz : m = 0 ∧ e = 0
  · rw [if_pos hz, if_pos hz]
    exact sum_a m e k f w m1 m2 k1 k2 e1 e2 f1 f2 (Lib.hid (decide_eq_true hz)) (Lib.hid (decide_eq_true hz))
  · rw [if_neg hz, if_neg hz]
    by_cases hy : k = 0 ∧ f = 0
    · rw [if_pos hy, if_pos hy]
      exact sum_b m e k f w m1 m2 k1 k2 e1 e2 f1 f2 (Lib.hid (decide_eq_false hz)) (Lib.hid (decide_eq_true hy))
    · rw [if_neg hy, if_neg hy]
      by_cases h1 : e < f
      · rw [if_pos h1, if_pos h1]
        by_cases h2 : 38 < f - e
        · rw [if_pos h2, if_pos h2]
          exact sum_c m e k f w m1 m2 k1 k2 e1 e2 f1 f2 (Lib.hid (decide_eq_false hz)) (Lib.hid (decide_eq_false hy)) h1 h2
        · rw [if_neg h2, if_neg h2]
          have hb := mul_bd k (2 ^ (f - e).toNat) k1 k2 (pow_le _ (by omega))
          exact sum_d m e k f w m1 m2 k1 k2 e1 e2 f1 f2 (Lib.hid (decide_eq_false hz)) (Lib.hid (decide_eq_false hy)) _ h1 (by omega) rfl (by omega) (by omega)
      · rw [if_neg h1, if_neg h1]
        by_cases h2 : 38 < e - f
        · rw [if_pos h2, if_pos h2]
          exact sum_e m e k f w m1 m2 k1 k2 e1 e2 f1 f2 (Lib.hid (decide_eq_false hz)) (Lib.hid (decide_eq_false hy)) (by omega) h2
        · rw [if_neg h2, if_neg h2]
          have hb := mul_bd m (2 ^ (e - f).toNat) m1 m2 (pow_le _ (by omega))
          exact sum_f m e k f w m1 m2 k1 k2 e1 e2 f1 f2 (Lib.hid (decide_eq_false hz)) (Lib.hid (decide_eq_false hy)) _ (by omega) (by omega) rfl (by omega) (by omega)

def qsg (m k q : Int) : Int := if decide (m < 0) = decide (k < 0) then q else -q

theorem qsg_eq {m k q : Int} (h : (!decide (m < 0) == decide (k < 0)) = false) : qsg m k q = q := by
  unfold qsg
  rw [if_pos]
  cases h1 : decide (m < 0) <;> cases h2 : decide (k < 0) <;> simp_all

theorem qsg_ne {m k q : Int} (h : (!decide (m < 0) == decide (k < 0)) = true) : qsg m k q = -q := by
  unfold qsg
  rw [if_neg]
  cases h1 : decide (m < 0) <;> cases h2 : decide (k < 0) <;> simp_all

def stk (m : Int) (t : Bool) : Int := if t then 2 * m + 1 else 2 * m

theorem stk_bd (m : Int) (t : Bool) : stk m t = 2 * m + 1 ∨ stk m t = 2 * m := by
  unfold stk
  split <;> simp

theorem sticky_any (m : Int) (t : Bool) (w : World) (h1 : -4611686018427387904 ≤ m) (h2 : m ≤ 4611686018427387903) :
    Calls Tryz.prog 83 #[.int .i64 m, .bool t] w fun r w' => r = .returned (.int .i64 (stk m t)) ∧ Below w.heap.size w w' := by
  cases t
  · exact sticky_false m w h1 h2
  · exact sticky_true m w h1 h2

set_option maxRecDepth 100000 in
set_option maxHeartbeats 1600000 in
theorem quo_t (m e k f A D L P Q : Int) (T : Bool) (w : World) (m1 : -16777216 ≤ m) (m2 : m ≤ 16777216) (k1 : -16777216 ≤ k) (k2 : k ≤ 16777216) (e1 : -1000 ≤ e) (e2 : e ≤ 1000) (f1 : -1000 ≤ f) (f2 : f ≤ 1000)(HM1 : Hid (∀ w : World, Calls Tryz.prog 45 #[realV m e] w fun r w1 => r = .returned (.agg #[.int .i64 A, .int .i64 e]) ∧ Below w.heap.size w w1)) (HM2 : Hid (∀ w : World, Calls Tryz.prog 45 #[realV k f] w fun r w1 => r = .returned (.agg #[.int .i64 D, .int .i64 f]) ∧ Below w.heap.size w w1)) (a1 : 0 ≤ A) (a2 : A ≤ 16777216) (d1 : 0 < D) (d2 : D ≤ 16777216) (HL : Hid ((Lib.bitLen A.toNat : Int) = L)) (l1 : 0 ≤ L) (l2 : L ≤ 62) (hP : A * 2 ^ (62 - L).toNat = P) (p1 : 0 ≤ P) (p2 : P ≤ 4611686018427387904) (hQ : P.tdiv D = Q) (q1 : 0 ≤ Q) (q2 : Q ≤ 4611686018427387903) (hT : (P.tmod D != 0) = T) :
    Calls Tryz.prog 57 #[realV m e, realV k f] w fun r w' => r = .returned (realV (qsg m k (stk Q T)) (e - (62 - L) - f - 1)) ∧ Below w.heap.size w w' := by
  have hfd : ∀ a b w, Sem.run Tryz.prog (Instr.field 23 (.agg #[.int .i64 a, .int .i64 b]) 0) w = .ok (.int .i64 a) w := fun a b w => by kernel_rfl
  have HB0 := Lib.hid ((by repeat (first | exact Below.refl _ _ | refine Below.alloc ?_ (by simp <;> omega) _) : Below w.heap.size w (((w.alloc (Obj.cells #[Value.int IntKind.i64 m, Value.int IntKind.i64 e] 23)).alloc
            (Obj.cells #[Value.int IntKind.i64 k, Value.int IntKind.i64 f] 23)).alloc
        (Obj.cells #[Value.int IntKind.i64 0, Value.int IntKind.i64 0] 51))))
  have HS := stk_bd Q T
  have HW1 := wrap_in P (by omega) (by omega)
  have HW2 := i64_in Q (by omega) (by omega)
  have d0 : ¬ D = 0 := by omega
  have d00 : (D == 0) = false := by simpa using d0
  go_enter Tryz.func57, Tryz.ntmps57
  go_upto_region 1 with fail
  go_region_held3 (fun wx => wx.cell? ⟨w.heap.size, 0, none⟩ = some (.int .i64 m) ∧ wx.cell? ⟨w.heap.size, 1, none⟩ = some (.int .i64 e) ∧ w.heap.size < wx.heap.size ∧ wx.cell? ⟨w.heap.size + 1, 0, none⟩ = some (.int .i64 k) ∧ wx.cell? ⟨w.heap.size + 1, 1, none⟩ = some (.int .i64 f) ∧ w.heap.size + 1 < wx.heap.size ∧ wx.cell? ⟨w.heap.size + 1 + 1, 0, none⟩ = some (.int .i64 0) ∧ wx.cell? ⟨w.heap.size + 1 + 1, 1, none⟩ = some (.int .i64 0) ∧ wx.frozen? ⟨w.heap.size + 1 + 1, 0, none⟩ = false ∧ wx.frozen? ⟨w.heap.size + 1 + 1, 1, none⟩ = false ∧ w.heap.size + 1 + 1 < wx.heap.size ∧ Below w.heap.size w wx) (first | (go_keep; done) | ((try go_split_ands); (repeat' apply And.intro) <;> first | with_reducible assumption | (exact carry hbq (by with_reducible assumption)) | (exact carryF hbq (by with_reducible assumption) (by with_reducible assumption)) | (go_simp; done) | (simp only [World.size_alloc, World.size_drew]; omega) | (with_reducible exact HB0.out.drew) | (with_reducible exact HB0.out) | (with_reducible exact Below.drew (by with_reducible assumption)) | (exact Nat.lt_of_lt_of_le (by first | with_reducible assumption | (simp <;> omega)) hbq.size) | (simp <;> omega) | (exact Below.trans (by with_reducible assumption) (hbq.mono (by first | omega | (simp <;> omega))))))
    (first
      | (go_at_call 45; ((with_reducible refine (HM1.out _).mono ?_); rintro r wq ⟨rfl, hbq⟩))
      | (go_at_call 45; ((with_reducible refine (HM2.out _).mono ?_); rintro r wq ⟨rfl, hbq⟩)))
  all_goals clear HB0
  all_goals (rename _ ∧ _ ∧ _ ∧ _ ∧ _ ∧ _ ∧ _ ∧ _ ∧ _ ∧ _ ∧ _ ∧ Below w.heap.size w _ => hS; obtain ⟨c0_0, c0_1, z0, c1_0, c1_1, z1, c2_0, c2_1, f2_0, f2_1, z2, hBq⟩ := hS; have HBB := Lib.hid hBq; clear hBq)
  all_goals go_wp2_with fail
  all_goals (refine (Tryz.bits_Len A _ (by omega) (by omega)).mono ?_; rintro r w1 ⟨rfl, rfl⟩)
  all_goals rw [HL.out]
  all_goals go_wp2_with fail
  all_goals have HB0 := HBB
  all_goals clear HBB
  all_goals (
    go_region_held3 (fun wx => wx.cell? ⟨w.heap.size, 0, none⟩ = some (.int .i64 m) ∧ wx.cell? ⟨w.heap.size, 1, none⟩ = some (.int .i64 e) ∧ w.heap.size < wx.heap.size ∧ wx.cell? ⟨w.heap.size + 1, 0, none⟩ = some (.int .i64 k) ∧ wx.cell? ⟨w.heap.size + 1, 1, none⟩ = some (.int .i64 f) ∧ w.heap.size + 1 < wx.heap.size ∧ wx.cell? ⟨w.heap.size + 1 + 1, 0, none⟩ = some (.int .i64 0) ∧ wx.cell? ⟨w.heap.size + 1 + 1, 1, none⟩ = some (.int .i64 0) ∧ wx.frozen? ⟨w.heap.size + 1 + 1, 0, none⟩ = false ∧ wx.frozen? ⟨w.heap.size + 1 + 1, 1, none⟩ = false ∧ w.heap.size + 1 + 1 < wx.heap.size ∧ Below w.heap.size w wx) (first | (go_keep; done) | ((try go_split_ands); (repeat' apply And.intro) <;> first | with_reducible assumption | (exact carry hbq (by with_reducible assumption)) | (exact carryF hbq (by with_reducible assumption) (by with_reducible assumption)) | (go_simp; done) | (simp only [World.size_alloc, World.size_drew]; omega) | (with_reducible exact HB0.out.drew) | (with_reducible exact HB0.out) | (with_reducible exact Below.drew (by with_reducible assumption)) | (exact Nat.lt_of_lt_of_le (by first | with_reducible assumption | (simp <;> omega)) hbq.size) | (simp <;> omega) | (exact Below.trans (by with_reducible assumption) (hbq.mono (by first | omega | (simp <;> omega))))))
      (first
        | (go_at_call 83; ((with_reducible refine (sticky_any _ _ _ (by omega) (by omega)).mono ?_); rintro r wq ⟨rfl, hbq⟩))))
  all_goals clear HB0 c0_0 c0_1 z0 c1_0 c1_1 z1 c2_0 c2_1 f2_0 f2_1 z2
  all_goals (rename _ ∧ _ ∧ _ ∧ _ ∧ _ ∧ _ ∧ _ ∧ _ ∧ _ ∧ _ ∧ _ ∧ Below w.heap.size w _ => hS; obtain ⟨c0_0, c0_1, z0, c1_0, c1_1, z1, c2_0, c2_1, f2_0, f2_1, z2, hBq⟩ := hS; have HBB := Lib.hid hBq; clear hBq)
  all_goals (try rw [HW1])
  all_goals go_wp2_with fail
  all_goals first
    | (rw [qsg_eq (by assumption)]; refine bodyPost_ret (v := realV (stk Q T) (e - (62 - L) - f - 1)) (by simp [results, Tryz.results57, go_sem, c2_0, c2_1]) rfl ⟨rfl, by repeat (first | with_reducible exact HBB.out | with_reducible exact Below.refl _ _ | with_reducible refine Below.drew ?_ | with_reducible refine Below.setCell ?_ (by first | omega | (simp; done) | (simp; omega)) _ | with_reducible refine Below.alloc ?_ (by first | omega | (simp; done) | (simp; omega)) _)⟩)
    | (rw [qsg_ne (by assumption)]; refine bodyPost_ret (v := realV (-(stk Q T)) (e - (62 - L) - f - 1)) (by simp [results, Tryz.results57, go_sem, c2_0, c2_1]) rfl ⟨rfl, by repeat (first | with_reducible exact HBB.out | with_reducible exact Below.refl _ _ | with_reducible refine Below.drew ?_ | with_reducible refine Below.setCell ?_ (by first | omega | (simp; done) | (simp; omega)) _ | with_reducible refine Below.alloc ?_ (by first | omega | (simp; done) | (simp; omega)) _)⟩)

end Go.Proofs.YtbfknapmhkpgcaaGreatDoor
