/-
  PACKAGE real: the document's own answers on whole numbers.
-/
import Derived.Test.YticiabgnegbbmaaGreatDoorReal16

namespace Go.Proofs.YticiabgnegbbmaaGreatDoor
open Go.RowKit
set_option linter.unusedVariables false

set_option maxRecDepth 100000 in
set_option maxHeartbeats 1600000 in
theorem rv_bigp (m e : Int) (w : World) (s1 : 0 < m) (s2 : m ≤ 9223372036854775807) (h1 : 16777216 ≤ m) :
    Calls Tryz.prog 5 #[realV m e] w fun r w' => r = .returned (.bool false) ∧ Below w.heap.size w w' := by
  go_enter Tryz.func5, Tryz.ntmps5
  go_wp2_with fail
  all_goals go_ret
  all_goals exact ⟨by first | rfl | simp_all, by repeat (first | with_reducible exact HBB.out | with_reducible exact Below.refl _ _ | with_reducible refine Below.drew ?_ | with_reducible refine belowN ?_ _ | with_reducible refine Below.setCell ?_ (by first | omega | (simp; done) | (simp; omega)) _ | with_reducible refine Below.alloc ?_ (by first | omega | (simp; done) | (simp; omega)) _)⟩

set_option maxRecDepth 100000 in
set_option maxHeartbeats 1600000 in
theorem rv_lop (m e : Int) (w : World) (s1 : 0 < m) (s2 : m ≤ 9223372036854775807) (h1 : m < 16777216) (h2 : e < -150) :
    Calls Tryz.prog 5 #[realV m e] w fun r w' => r = .returned (.bool false) ∧ Below w.heap.size w w' := by
  go_enter Tryz.func5, Tryz.ntmps5
  go_wp2_with fail
  all_goals go_ret
  all_goals exact ⟨by first | rfl | simp_all, by repeat (first | with_reducible exact HBB.out | with_reducible exact Below.refl _ _ | with_reducible refine Below.drew ?_ | with_reducible refine belowN ?_ _ | with_reducible refine Below.setCell ?_ (by first | omega | (simp; done) | (simp; omega)) _ | with_reducible refine Below.alloc ?_ (by first | omega | (simp; done) | (simp; omega)) _)⟩

set_option maxRecDepth 100000 in
set_option maxHeartbeats 1600000 in
theorem rv_hip (m e : Int) (w : World) (s1 : 0 < m) (s2 : m ≤ 9223372036854775807) (h1 : m < 16777216) (h2 : -150 ≤ e) (h3 : 150 < e) :
    Calls Tryz.prog 5 #[realV m e] w fun r w' => r = .returned (.bool false) ∧ Below w.heap.size w w' := by
  go_enter Tryz.func5, Tryz.ntmps5
  go_wp2_with fail
  all_goals go_ret
  all_goals exact ⟨by first | rfl | simp_all, by repeat (first | with_reducible exact HBB.out | with_reducible exact Below.refl _ _ | with_reducible refine Below.drew ?_ | with_reducible refine belowN ?_ _ | with_reducible refine Below.setCell ?_ (by first | omega | (simp; done) | (simp; omega)) _ | with_reducible refine Below.alloc ?_ (by first | omega | (simp; done) | (simp; omega)) _)⟩

set_option maxRecDepth 100000 in
set_option maxHeartbeats 1600000 in
theorem rv_nrmp (m e : Int) (w : World) (s1 : 0 < m) (s2 : m ≤ 9223372036854775807) (h1 : m < 16777216) (h2 : -150 ≤ e) (h3 : e ≤ 150) (h4 : 8388608 ≤ m) :
    Calls Tryz.prog 5 #[realV m e] w fun r w' => r = .returned (.bool true) ∧ Below w.heap.size w w' := by
  go_enter Tryz.func5, Tryz.ntmps5
  go_wp2_with fail
  all_goals go_ret
  all_goals exact ⟨by first | rfl | simp_all, by repeat (first | with_reducible exact HBB.out | with_reducible exact Below.refl _ _ | with_reducible refine Below.drew ?_ | with_reducible refine belowN ?_ _ | with_reducible refine Below.setCell ?_ (by first | omega | (simp; done) | (simp; omega)) _ | with_reducible refine Below.alloc ?_ (by first | omega | (simp; done) | (simp; omega)) _)⟩

set_option maxRecDepth 100000 in
set_option maxHeartbeats 1600000 in
theorem rv_subp (m e : Int) (w : World) (s1 : 0 < m) (s2 : m ≤ 9223372036854775807) (h1 : m < 16777216) (h2 : -150 ≤ e) (h3 : e ≤ 150) (h4 : m < 8388608) (h5 : (e == -150) = true) :
    Calls Tryz.prog 5 #[realV m e] w fun r w' => r = .returned (.bool true) ∧ Below w.heap.size w w' := by
  go_enter Tryz.func5, Tryz.ntmps5
  go_wp2_with fail
  all_goals go_ret
  all_goals exact ⟨by first | rfl | simp_all, by repeat (first | with_reducible exact HBB.out | with_reducible exact Below.refl _ _ | with_reducible refine Below.drew ?_ | with_reducible refine belowN ?_ _ | with_reducible refine Below.setCell ?_ (by first | omega | (simp; done) | (simp; omega)) _ | with_reducible refine Below.alloc ?_ (by first | omega | (simp; done) | (simp; omega)) _)⟩

set_option maxRecDepth 100000 in
set_option maxHeartbeats 1600000 in
theorem rv_notp (m e : Int) (w : World) (s1 : 0 < m) (s2 : m ≤ 9223372036854775807) (h1 : m < 16777216) (h2 : -150 ≤ e) (h3 : e ≤ 150) (h4 : m < 8388608) (h5 : (e == -150) = false) :
    Calls Tryz.prog 5 #[realV m e] w fun r w' => r = .returned (.bool false) ∧ Below w.heap.size w w' := by
  go_enter Tryz.func5, Tryz.ntmps5
  go_wp2_with fail
  all_goals go_ret
  all_goals exact ⟨by first | rfl | simp_all, by repeat (first | with_reducible exact HBB.out | with_reducible exact Below.refl _ _ | with_reducible refine Below.drew ?_ | with_reducible refine belowN ?_ _ | with_reducible refine Below.setCell ?_ (by first | omega | (simp; done) | (simp; omega)) _ | with_reducible refine Below.alloc ?_ (by first | omega | (simp; done) | (simp; omega)) _)⟩

set_option maxRecDepth 100000 in
set_option maxHeartbeats 1600000 in
theorem rv_bign (m e : Int) (w : World) (s1 : m < 0) (s2 : -9223372036854775807 ≤ m) (h1 : 16777216 ≤ (-m)) :
    Calls Tryz.prog 5 #[realV m e] w fun r w' => r = .returned (.bool false) ∧ Below w.heap.size w w' := by
  go_enter Tryz.func5, Tryz.ntmps5
  go_wp2_with fail
  all_goals go_ret
  all_goals exact ⟨by first | rfl | simp_all, by repeat (first | with_reducible exact HBB.out | with_reducible exact Below.refl _ _ | with_reducible refine Below.drew ?_ | with_reducible refine belowN ?_ _ | with_reducible refine Below.setCell ?_ (by first | omega | (simp; done) | (simp; omega)) _ | with_reducible refine Below.alloc ?_ (by first | omega | (simp; done) | (simp; omega)) _)⟩

set_option maxRecDepth 100000 in
set_option maxHeartbeats 1600000 in
theorem rv_lon (m e : Int) (w : World) (s1 : m < 0) (s2 : -9223372036854775807 ≤ m) (h1 : (-m) < 16777216) (h2 : e < -150) :
    Calls Tryz.prog 5 #[realV m e] w fun r w' => r = .returned (.bool false) ∧ Below w.heap.size w w' := by
  go_enter Tryz.func5, Tryz.ntmps5
  go_wp2_with fail
  all_goals go_ret
  all_goals exact ⟨by first | rfl | simp_all, by repeat (first | with_reducible exact HBB.out | with_reducible exact Below.refl _ _ | with_reducible refine Below.drew ?_ | with_reducible refine belowN ?_ _ | with_reducible refine Below.setCell ?_ (by first | omega | (simp; done) | (simp; omega)) _ | with_reducible refine Below.alloc ?_ (by first | omega | (simp; done) | (simp; omega)) _)⟩

set_option maxRecDepth 100000 in
set_option maxHeartbeats 1600000 in
theorem rv_hin (m e : Int) (w : World) (s1 : m < 0) (s2 : -9223372036854775807 ≤ m) (h1 : (-m) < 16777216) (h2 : -150 ≤ e) (h3 : 150 < e) :
    Calls Tryz.prog 5 #[realV m e] w fun r w' => r = .returned (.bool false) ∧ Below w.heap.size w w' := by
  go_enter Tryz.func5, Tryz.ntmps5
  go_wp2_with fail
  all_goals go_ret
  all_goals exact ⟨by first | rfl | simp_all, by repeat (first | with_reducible exact HBB.out | with_reducible exact Below.refl _ _ | with_reducible refine Below.drew ?_ | with_reducible refine belowN ?_ _ | with_reducible refine Below.setCell ?_ (by first | omega | (simp; done) | (simp; omega)) _ | with_reducible refine Below.alloc ?_ (by first | omega | (simp; done) | (simp; omega)) _)⟩

set_option maxRecDepth 100000 in
set_option maxHeartbeats 1600000 in
theorem rv_nrmn (m e : Int) (w : World) (s1 : m < 0) (s2 : -9223372036854775807 ≤ m) (h1 : (-m) < 16777216) (h2 : -150 ≤ e) (h3 : e ≤ 150) (h4 : 8388608 ≤ (-m)) :
    Calls Tryz.prog 5 #[realV m e] w fun r w' => r = .returned (.bool true) ∧ Below w.heap.size w w' := by
  go_enter Tryz.func5, Tryz.ntmps5
  go_wp2_with fail
  all_goals go_ret
  all_goals exact ⟨by first | rfl | simp_all, by repeat (first | with_reducible exact HBB.out | with_reducible exact Below.refl _ _ | with_reducible refine Below.drew ?_ | with_reducible refine belowN ?_ _ | with_reducible refine Below.setCell ?_ (by first | omega | (simp; done) | (simp; omega)) _ | with_reducible refine Below.alloc ?_ (by first | omega | (simp; done) | (simp; omega)) _)⟩

set_option maxRecDepth 100000 in
set_option maxHeartbeats 1600000 in
theorem rv_subn (m e : Int) (w : World) (s1 : m < 0) (s2 : -9223372036854775807 ≤ m) (h1 : (-m) < 16777216) (h2 : -150 ≤ e) (h3 : e ≤ 150) (h4 : (-m) < 8388608) (h5 : (e == -150) = true) :
    Calls Tryz.prog 5 #[realV m e] w fun r w' => r = .returned (.bool true) ∧ Below w.heap.size w w' := by
  go_enter Tryz.func5, Tryz.ntmps5
  go_wp2_with fail
  all_goals go_ret
  all_goals exact ⟨by first | rfl | simp_all, by repeat (first | with_reducible exact HBB.out | with_reducible exact Below.refl _ _ | with_reducible refine Below.drew ?_ | with_reducible refine belowN ?_ _ | with_reducible refine Below.setCell ?_ (by first | omega | (simp; done) | (simp; omega)) _ | with_reducible refine Below.alloc ?_ (by first | omega | (simp; done) | (simp; omega)) _)⟩

set_option maxRecDepth 100000 in
set_option maxHeartbeats 1600000 in
theorem rv_notn (m e : Int) (w : World) (s1 : m < 0) (s2 : -9223372036854775807 ≤ m) (h1 : (-m) < 16777216) (h2 : -150 ≤ e) (h3 : e ≤ 150) (h4 : (-m) < 8388608) (h5 : (e == -150) = false) :
    Calls Tryz.prog 5 #[realV m e] w fun r w' => r = .returned (.bool false) ∧ Below w.heap.size w w' := by
  go_enter Tryz.func5, Tryz.ntmps5
  go_wp2_with fail
  all_goals go_ret
  all_goals exact ⟨by first | rfl | simp_all, by repeat (first | with_reducible exact HBB.out | with_reducible exact Below.refl _ _ | with_reducible refine Below.drew ?_ | with_reducible refine belowN ?_ _ | with_reducible refine Below.setCell ?_ (by first | omega | (simp; done) | (simp; omega)) _ | with_reducible refine Below.alloc ?_ (by first | omega | (simp; done) | (simp; omega)) _)⟩

set_option maxRecDepth 100000 in
set_option maxHeartbeats 1600000 in
theorem rv_min (e : Int) (w : World) :
    Calls Tryz.prog 5 #[realV (-9223372036854775808) e] w fun r w' => r = .returned (.bool false) ∧ Below w.heap.size w w' := by
  have hw : wrap64 9223372036854775808 = -9223372036854775808 := by unfold wrap64; decide
  go_enter Tryz.func5, Tryz.ntmps5
  go_wp2_with fail
  all_goals go_ret
  all_goals exact ⟨by first | rfl | simp_all, by repeat (first | with_reducible exact HBB.out | with_reducible exact Below.refl _ _ | with_reducible refine Below.drew ?_ | with_reducible refine belowN ?_ _ | with_reducible refine Below.setCell ?_ (by first | omega | (simp; done) | (simp; omega)) _ | with_reducible refine Below.alloc ?_ (by first | omega | (simp; done) | (simp; omega)) _)⟩

set_option maxRecDepth 100000 in
set_option maxHeartbeats 1600000 in
theorem rv_zt (e : Int) (w : World) (h : (e == 0) = true) :
    Calls Tryz.prog 5 #[realV 0 e] w fun r w' => r = .returned (.bool true) ∧ Below w.heap.size w w' := by
  go_enter Tryz.func5, Tryz.ntmps5
  go_wp2_with fail
  all_goals go_ret
  all_goals exact ⟨by first | rfl | simp_all, by repeat (first | with_reducible exact HBB.out | with_reducible exact Below.refl _ _ | with_reducible refine Below.drew ?_ | with_reducible refine belowN ?_ _ | with_reducible refine Below.setCell ?_ (by first | omega | (simp; done) | (simp; omega)) _ | with_reducible refine Below.alloc ?_ (by first | omega | (simp; done) | (simp; omega)) _)⟩

set_option maxRecDepth 100000 in
set_option maxHeartbeats 1600000 in
theorem rv_zf (e : Int) (w : World) (h : (e == 0) = false) :
    Calls Tryz.prog 5 #[realV 0 e] w fun r w' => r = .returned (.bool false) ∧ Below w.heap.size w w' := by
  go_enter Tryz.func5, Tryz.ntmps5
  go_wp2_with fail
  all_goals go_ret
  all_goals exact ⟨by first | rfl | simp_all, by repeat (first | with_reducible exact HBB.out | with_reducible exact Below.refl _ _ | with_reducible refine Below.drew ?_ | with_reducible refine belowN ?_ _ | with_reducible refine Below.setCell ?_ (by first | omega | (simp; done) | (simp; omega)) _ | with_reducible refine Below.alloc ?_ (by first | omega | (simp; done) | (simp; omega)) _)⟩

theorem rvalid_any (m e : Int) (w : World) (h1 : -9223372036854775808 ≤ m) (h2 : m ≤ 9223372036854775807) :
    Calls Tryz.prog 5 #[realV m e] w fun r w' => r = .returned (.bool (vr m e)) ∧ Below w.heap.size w w' := by
  have tr : ∀ b, (vr m e = b) → ∀ r, r = Ending.returned (.bool b) → r = Ending.returned (.bool (vr m e)) := fun b hb r hr => by rw [hb]; exact hr
  have T : ∀ b, vr m e = b → Calls Tryz.prog 5 #[realV m e] w (fun r w' => r = .returned (.bool b) ∧ Below w.heap.size w w') → Calls Tryz.prog 5 #[realV m e] w fun r w' => r = .returned (.bool (vr m e)) ∧ Below w.heap.size w w' := fun b hb h => h.mono fun r w' k => ⟨by rw [hb]; exact k.1, k.2⟩
  have fl : ∀ (k : ¬ ((m = 0 ∧ e = 0) ∨ (8388608 ≤ ab m ∧ ab m < 16777216 ∧ -150 ≤ e ∧ e ≤ 150) ∨ (1 ≤ ab m ∧ ab m < 8388608 ∧ e = -150))), vr m e = false := fun k => by
    cases hv : vr m e
    · rfl
    · exact absurd (vr_iff.1 hv) k
  rcases Int.lt_trichotomy m 0 with hm | hm | hm
  · have ha : ab m = -m := by unfold ab; rw [if_pos hm]
    by_cases hmin : m = -9223372036854775808
    · subst hmin
      exact T false (fl (by rw [ha]; omega)) (rv_min e w)
    · by_cases a1 : 16777216 ≤ -m
      · exact T false (fl (by rw [ha]; omega)) (rv_bign m e w hm (by omega) a1)
      · by_cases a2 : e < -150
        · exact T false (fl (by rw [ha]; omega)) (rv_lon m e w hm (by omega) (by omega) a2)
        · by_cases a3 : 150 < e
          · exact T false (fl (by rw [ha]; omega)) (rv_hin m e w hm (by omega) (by omega) (by omega) a3)
          · by_cases a4 : 8388608 ≤ -m
            · exact T true (vr_iff.2 (by rw [ha]; omega)) (rv_nrmn m e w hm (by omega) (by omega) (by omega) (by omega) a4)
            · by_cases a5 : e = -150
              · exact T true (vr_iff.2 (by rw [ha]; omega)) (rv_subn m e w hm (by omega) (by omega) (by omega) (by omega) (by omega) (by simp [a5]))
              · exact T false (fl (by rw [ha]; omega)) (rv_notn m e w hm (by omega) (by omega) (by omega) (by omega) (by omega) (by simpa using a5))
  · subst hm
    by_cases a5 : e = 0
    · exact T true (vr_iff.2 (by omega)) (rv_zt e w (by simp [a5]))
    · exact T false (fl (by unfold ab; simp; omega)) (rv_zf e w (by simpa using a5))
  · have ha : ab m = m := by unfold ab; rw [if_neg (by omega)]
    by_cases a1 : 16777216 ≤ m
    · exact T false (fl (by rw [ha]; omega)) (rv_bigp m e w hm (by omega) a1)
    · by_cases a2 : e < -150
      · exact T false (fl (by rw [ha]; omega)) (rv_lop m e w hm (by omega) (by omega) a2)
      · by_cases a3 : 150 < e
        · exact T false (fl (by rw [ha]; omega)) (rv_hip m e w hm (by omega) (by omega) (by omega) a3)
        · by_cases a4 : 8388608 ≤ m
          · exact T true (vr_iff.2 (by rw [ha]; omega)) (rv_nrmp m e w hm (by omega) (by omega) (by omega) (by omega) a4)
          · by_cases a5 : e = -150
            · exact T true (vr_iff.2 (by rw [ha]; omega)) (rv_subp m e w hm (by omega) (by omega) (by omega) (by omega) (by omega) (by simp [a5]))
            · exact T false (fl (by rw [ha]; omega)) (rv_notp m e w hm (by omega) (by omega) (by omega) (by omega) (by omega) (by simpa using a5))

theorem hv_step (v : Int) : (v.tmod 2 = 0 ∧ v.tdiv 2 = v / 2) ∨ (v < 0 ∧ v.tmod 2 = -1 ∧ (v - 1).tdiv 2 = v / 2) ∨ (0 ≤ v ∧ v.tmod 2 = 1 ∧ v.tdiv 2 = v / 2) := by
  rcases Int.le_total 0 v with h | h
  · rw [Int.tmod_eq_emod_of_nonneg h, Int.tdiv_eq_ediv_of_nonneg h]
    omega
  · have h1 : v.tmod 2 = -((-v) % 2) := by rw [← Int.tmod_eq_emod_of_nonneg (by omega), Int.neg_tmod]; omega
    have h2 : v.tdiv 2 = -((-v) / 2) := by rw [← Int.tdiv_eq_ediv_of_nonneg (by omega), Int.neg_tdiv]; omega
    have h3 : (v - 1).tdiv 2 = -((-(v - 1)) / 2) := by rw [← Int.tdiv_eq_ediv_of_nonneg (by omega), Int.neg_tdiv]; omega
    rw [h1, h2, h3]
    omega

theorem dv_step (m : Int) (j : Nat) : m / 2 ^ j / 2 = m / 2 ^ (j + 1) := by
  rw [Int.pow_succ, Int.ediv_ediv_of_nonneg (Int.le_of_lt (pow_pos j))]

theorem dv_bd (m : Int) (j : Nat) (h1 : -1000000000000 ≤ m) (h2 : m ≤ 1000000000000) : -1000000000000 ≤ m / 2 ^ j ∧ m / 2 ^ j ≤ 1000000000000 := by
  have p : (0 : Int) < 2 ^ j := pow_pos j
  have a := @Int.le_ediv_iff_mul_le (-1000000000000) m (2 ^ j) p
  have b := @Int.ediv_lt_iff_lt_mul m 1000000000001 (2 ^ j) p
  have p1 : (1 : Int) ≤ 2 ^ j := p
  have c := a.2 (by generalize (2 : Int) ^ j = p at *; omega)
  have d := b.2 (by generalize (2 : Int) ^ j = p at *; omega)
  omega

def rfV (m e : Int) : Int := if 0 ≤ e then m * 2 ^ e.toNat else m / 2 ^ (-e).toNat
def rfB (m e : Int) : Bool := decide (m = 0) || (decide (e ≤ 8) && inR (rfV m e))
def rfN (m e : Int) : Int := if rfB m e then rfV m e else 0
def rfE (m e : Int) : Int := if rfB m e then 0 else 3

theorem inR_cases (u : Int) : (-2147483647 ≤ u ∧ u ≤ 2147483647 ∧ inR u = true) ∨ (u < -2147483647 ∧ inR u = false) ∨ (¬ u < -2147483647 ∧ 2147483647 < u ∧ inR u = false) := by
  unfold inR
  by_cases h1 : u < -2147483647
  · exact Or.inr (Or.inl ⟨h1, decide_eq_false (by omega)⟩)
  · by_cases h2 : 2147483647 < u
    · exact Or.inr (Or.inr ⟨h1, h2, decide_eq_false (by omega)⟩)
    · exact Or.inl ⟨by omega, by omega, decide_eq_true (by omega)⟩

end Go.Proofs.YticiabgnegbbmaaGreatDoor
