/-
  PACKAGE real: the document's own answers on whole numbers.
-/
import Derived.Test.YtdhcahidpiiplaaGreatDoorReal16

namespace Go.Proofs.YtdhcahidpiiplaaGreatDoor
open Go.RowKit
set_option linter.unusedVariables false

set_option maxRecDepth 100000 in
set_option maxHeartbeats 1600000 in
theorem rv_bigp (m e : Int) (w : World) (s1 : 0 < m) (s2 : m ≤ 9223372036854775807) (h1 : 16777216 ≤ m) :
    Calls Tryz.prog 24 #[realV m e] w fun r w' => r = .returned (.bool false) ∧ Below w.heap.size w w' := by
  go_enter Tryz.func24, Tryz.ntmps24
  go_wp2_with fail
  all_goals go_ret
  all_goals exact ⟨by first | rfl | simp_all, by repeat (first | with_reducible exact HBB.out | with_reducible exact Below.refl _ _ | with_reducible refine Below.drew ?_ | with_reducible refine belowN ?_ _ | with_reducible refine Below.setCell ?_ (by first | omega | (simp; done) | (simp; omega)) _ | with_reducible refine Below.alloc ?_ (by first | omega | (simp; done) | (simp; omega)) _)⟩

set_option maxRecDepth 100000 in
set_option maxHeartbeats 1600000 in
theorem rv_lop (m e : Int) (w : World) (s1 : 0 < m) (s2 : m ≤ 9223372036854775807) (h1 : m < 16777216) (h2 : e < -150) :
    Calls Tryz.prog 24 #[realV m e] w fun r w' => r = .returned (.bool false) ∧ Below w.heap.size w w' := by
  go_enter Tryz.func24, Tryz.ntmps24
  go_wp2_with fail
  all_goals go_ret
  all_goals exact ⟨by first | rfl | simp_all, by repeat (first | with_reducible exact HBB.out | with_reducible exact Below.refl _ _ | with_reducible refine Below.drew ?_ | with_reducible refine belowN ?_ _ | with_reducible refine Below.setCell ?_ (by first | omega | (simp; done) | (simp; omega)) _ | with_reducible refine Below.alloc ?_ (by first | omega | (simp; done) | (simp; omega)) _)⟩

set_option maxRecDepth 100000 in
set_option maxHeartbeats 1600000 in
theorem rv_hip (m e : Int) (w : World) (s1 : 0 < m) (s2 : m ≤ 9223372036854775807) (h1 : m < 16777216) (h2 : -150 ≤ e) (h3 : 150 < e) :
    Calls Tryz.prog 24 #[realV m e] w fun r w' => r = .returned (.bool false) ∧ Below w.heap.size w w' := by
  go_enter Tryz.func24, Tryz.ntmps24
  go_wp2_with fail
  all_goals go_ret
  all_goals exact ⟨by first | rfl | simp_all, by repeat (first | with_reducible exact HBB.out | with_reducible exact Below.refl _ _ | with_reducible refine Below.drew ?_ | with_reducible refine belowN ?_ _ | with_reducible refine Below.setCell ?_ (by first | omega | (simp; done) | (simp; omega)) _ | with_reducible refine Below.alloc ?_ (by first | omega | (simp; done) | (simp; omega)) _)⟩

set_option maxRecDepth 100000 in
set_option maxHeartbeats 1600000 in
theorem rv_nrmp (m e : Int) (w : World) (s1 : 0 < m) (s2 : m ≤ 9223372036854775807) (h1 : m < 16777216) (h2 : -150 ≤ e) (h3 : e ≤ 150) (h4 : 8388608 ≤ m) :
    Calls Tryz.prog 24 #[realV m e] w fun r w' => r = .returned (.bool true) ∧ Below w.heap.size w w' := by
  go_enter Tryz.func24, Tryz.ntmps24
  go_wp2_with fail
  all_goals go_ret
  all_goals exact ⟨by first | rfl | simp_all, by repeat (first | with_reducible exact HBB.out | with_reducible exact Below.refl _ _ | with_reducible refine Below.drew ?_ | with_reducible refine belowN ?_ _ | with_reducible refine Below.setCell ?_ (by first | omega | (simp; done) | (simp; omega)) _ | with_reducible refine Below.alloc ?_ (by first | omega | (simp; done) | (simp; omega)) _)⟩

set_option maxRecDepth 100000 in
set_option maxHeartbeats 1600000 in
theorem rv_subp (m e : Int) (w : World) (s1 : 0 < m) (s2 : m ≤ 9223372036854775807) (h1 : m < 16777216) (h2 : -150 ≤ e) (h3 : e ≤ 150) (h4 : m < 8388608) (h5 : (e == -150) = true) :
    Calls Tryz.prog 24 #[realV m e] w fun r w' => r = .returned (.bool true) ∧ Below w.heap.size w w' := by
  go_enter Tryz.func24, Tryz.ntmps24
  go_wp2_with fail
  all_goals go_ret
  all_goals exact ⟨by first | rfl | simp_all, by repeat (first | with_reducible exact HBB.out | with_reducible exact Below.refl _ _ | with_reducible refine Below.drew ?_ | with_reducible refine belowN ?_ _ | with_reducible refine Below.setCell ?_ (by first | omega | (simp; done) | (simp; omega)) _ | with_reducible refine Below.alloc ?_ (by first | omega | (simp; done) | (simp; omega)) _)⟩

set_option maxRecDepth 100000 in
set_option maxHeartbeats 1600000 in
theorem rv_notp (m e : Int) (w : World) (s1 : 0 < m) (s2 : m ≤ 9223372036854775807) (h1 : m < 16777216) (h2 : -150 ≤ e) (h3 : e ≤ 150) (h4 : m < 8388608) (h5 : (e == -150) = false) :
    Calls Tryz.prog 24 #[realV m e] w fun r w' => r = .returned (.bool false) ∧ Below w.heap.size w w' := by
  go_enter Tryz.func24, Tryz.ntmps24
  go_wp2_with fail
  all_goals go_ret
  all_goals exact ⟨by first | rfl | simp_all, by repeat (first | with_reducible exact HBB.out | with_reducible exact Below.refl _ _ | with_reducible refine Below.drew ?_ | with_reducible refine belowN ?_ _ | with_reducible refine Below.setCell ?_ (by first | omega | (simp; done) | (simp; omega)) _ | with_reducible refine Below.alloc ?_ (by first | omega | (simp; done) | (simp; omega)) _)⟩

set_option maxRecDepth 100000 in
set_option maxHeartbeats 1600000 in
theorem rv_bign (m e : Int) (w : World) (s1 : m < 0) (s2 : -9223372036854775807 ≤ m) (h1 : 16777216 ≤ (-m)) :
    Calls Tryz.prog 24 #[realV m e] w fun r w' => r = .returned (.bool false) ∧ Below w.heap.size w w' := by
  go_enter Tryz.func24, Tryz.ntmps24
  go_wp2_with fail
  all_goals go_ret
  all_goals exact ⟨by first | rfl | simp_all, by repeat (first | with_reducible exact HBB.out | with_reducible exact Below.refl _ _ | with_reducible refine Below.drew ?_ | with_reducible refine belowN ?_ _ | with_reducible refine Below.setCell ?_ (by first | omega | (simp; done) | (simp; omega)) _ | with_reducible refine Below.alloc ?_ (by first | omega | (simp; done) | (simp; omega)) _)⟩

set_option maxRecDepth 100000 in
set_option maxHeartbeats 1600000 in
theorem rv_lon (m e : Int) (w : World) (s1 : m < 0) (s2 : -9223372036854775807 ≤ m) (h1 : (-m) < 16777216) (h2 : e < -150) :
    Calls Tryz.prog 24 #[realV m e] w fun r w' => r = .returned (.bool false) ∧ Below w.heap.size w w' := by
  go_enter Tryz.func24, Tryz.ntmps24
  go_wp2_with fail
  all_goals go_ret
  all_goals exact ⟨by first | rfl | simp_all, by repeat (first | with_reducible exact HBB.out | with_reducible exact Below.refl _ _ | with_reducible refine Below.drew ?_ | with_reducible refine belowN ?_ _ | with_reducible refine Below.setCell ?_ (by first | omega | (simp; done) | (simp; omega)) _ | with_reducible refine Below.alloc ?_ (by first | omega | (simp; done) | (simp; omega)) _)⟩

set_option maxRecDepth 100000 in
set_option maxHeartbeats 1600000 in
theorem rv_hin (m e : Int) (w : World) (s1 : m < 0) (s2 : -9223372036854775807 ≤ m) (h1 : (-m) < 16777216) (h2 : -150 ≤ e) (h3 : 150 < e) :
    Calls Tryz.prog 24 #[realV m e] w fun r w' => r = .returned (.bool false) ∧ Below w.heap.size w w' := by
  go_enter Tryz.func24, Tryz.ntmps24
  go_wp2_with fail
  all_goals go_ret
  all_goals exact ⟨by first | rfl | simp_all, by repeat (first | with_reducible exact HBB.out | with_reducible exact Below.refl _ _ | with_reducible refine Below.drew ?_ | with_reducible refine belowN ?_ _ | with_reducible refine Below.setCell ?_ (by first | omega | (simp; done) | (simp; omega)) _ | with_reducible refine Below.alloc ?_ (by first | omega | (simp; done) | (simp; omega)) _)⟩

set_option maxRecDepth 100000 in
set_option maxHeartbeats 1600000 in
theorem rv_nrmn (m e : Int) (w : World) (s1 : m < 0) (s2 : -9223372036854775807 ≤ m) (h1 : (-m) < 16777216) (h2 : -150 ≤ e) (h3 : e ≤ 150) (h4 : 8388608 ≤ (-m)) :
    Calls Tryz.prog 24 #[realV m e] w fun r w' => r = .returned (.bool true) ∧ Below w.heap.size w w' := by
  go_enter Tryz.func24, Tryz.ntmps24
  go_wp2_with fail
  all_goals go_ret
  all_goals exact ⟨by first | rfl | simp_all, by repeat (first | with_reducible exact HBB.out | with_reducible exact Below.refl _ _ | with_reducible refine Below.drew ?_ | with_reducible refine belowN ?_ _ | with_reducible refine Below.setCell ?_ (by first | omega | (simp; done) | (simp; omega)) _ | with_reducible refine Below.alloc ?_ (by first | omega | (simp; done) | (simp; omega)) _)⟩

set_option maxRecDepth 100000 in
set_option maxHeartbeats 1600000 in
theorem rv_subn (m e : Int) (w : World) (s1 : m < 0) (s2 : -9223372036854775807 ≤ m) (h1 : (-m) < 16777216) (h2 : -150 ≤ e) (h3 : e ≤ 150) (h4 : (-m) < 8388608) (h5 : (e == -150) = true) :
    Calls Tryz.prog 24 #[realV m e] w fun r w' => r = .returned (.bool true) ∧ Below w.heap.size w w' := by
  go_enter Tryz.func24, Tryz.ntmps24
  go_wp2_with fail
  all_goals go_ret
  all_goals exact ⟨by first | rfl | simp_all, by repeat (first | with_reducible exact HBB.out | with_reducible exact Below.refl _ _ | with_reducible refine Below.drew ?_ | with_reducible refine belowN ?_ _ | with_reducible refine Below.setCell ?_ (by first | omega | (simp; done) | (simp; omega)) _ | with_reducible refine Below.alloc ?_ (by first | omega | (simp; done) | (simp; omega)) _)⟩

set_option maxRecDepth 100000 in
set_option maxHeartbeats 1600000 in
theorem rv_notn (m e : Int) (w : World) (s1 : m < 0) (s2 : -9223372036854775807 ≤ m) (h1 : (-m) < 16777216) (h2 : -150 ≤ e) (h3 : e ≤ 150) (h4 : (-m) < 8388608) (h5 : (e == -150) = false) :
    Calls Tryz.prog 24 #[realV m e] w fun r w' => r = .returned (.bool false) ∧ Below w.heap.size w w' := by
  go_enter Tryz.func24, Tryz.ntmps24
  go_wp2_with fail
  all_goals go_ret
  all_goals exact ⟨by first | rfl | simp_all, by repeat (first | with_reducible exact HBB.out | with_reducible exact Below.refl _ _ | with_reducible refine Below.drew ?_ | with_reducible refine belowN ?_ _ | with_reducible refine Below.setCell ?_ (by first | omega | (simp; done) | (simp; omega)) _ | with_reducible refine Below.alloc ?_ (by first | omega | (simp; done) | (simp; omega)) _)⟩

set_option maxRecDepth 100000 in
set_option maxHeartbeats 1600000 in
theorem rv_min (e : Int) (w : World) :
    Calls Tryz.prog 24 #[realV (-9223372036854775808) e] w fun r w' => r = .returned (.bool false) ∧ Below w.heap.size w w' := by
  have hw : wrap64 9223372036854775808 = -9223372036854775808 := by unfold wrap64; decide
  go_enter Tryz.func24, Tryz.ntmps24
  go_wp2_with fail
  all_goals go_ret
  all_goals exact ⟨by first | rfl | simp_all, by repeat (first | with_reducible exact HBB.out | with_reducible exact Below.refl _ _ | with_reducible refine Below.drew ?_ | with_reducible refine belowN ?_ _ | with_reducible refine Below.setCell ?_ (by first | omega | (simp; done) | (simp; omega)) _ | with_reducible refine Below.alloc ?_ (by first | omega | (simp; done) | (simp; omega)) _)⟩

set_option maxRecDepth 100000 in
set_option maxHeartbeats 1600000 in
theorem rv_zt (e : Int) (w : World) (h : (e == 0) = true) :
    Calls Tryz.prog 24 #[realV 0 e] w fun r w' => r = .returned (.bool true) ∧ Below w.heap.size w w' := by
  go_enter Tryz.func24, Tryz.ntmps24
  go_wp2_with fail
  all_goals go_ret
  all_goals exact ⟨by first | rfl | simp_all, by repeat (first | with_reducible exact HBB.out | with_reducible exact Below.refl _ _ | with_reducible refine Below.drew ?_ | with_reducible refine belowN ?_ _ | with_reducible refine Below.setCell ?_ (by first | omega | (simp; done) | (simp; omega)) _ | with_reducible refine Below.alloc ?_ (by first | omega | (simp; done) | (simp; omega)) _)⟩

set_option maxRecDepth 100000 in
set_option maxHeartbeats 1600000 in
theorem rv_zf (e : Int) (w : World) (h : (e == 0) = false) :
    Calls Tryz.prog 24 #[realV 0 e] w fun r w' => r = .returned (.bool false) ∧ Below w.heap.size w w' := by
  go_enter Tryz.func24, Tryz.ntmps24
  go_wp2_with fail
  all_goals go_ret
  all_goals exact ⟨by first | rfl | simp_all, by repeat (first | with_reducible exact HBB.out | with_reducible exact Below.refl _ _ | with_reducible refine Below.drew ?_ | with_reducible refine belowN ?_ _ | with_reducible refine Below.setCell ?_ (by first | omega | (simp; done) | (simp; omega)) _ | with_reducible refine Below.alloc ?_ (by first | omega | (simp; done) | (simp; omega)) _)⟩

theorem rvalid_any (m e : Int) (w : World) (h1 : -9223372036854775808 ≤ m) (h2 : m ≤ 9223372036854775807) :
    Calls Tryz.prog 24 #[realV m e] w fun r w' => r = .returned (.bool (vr m e)) ∧ Below w.heap.size w w' := by
  have tr : ∀ b, (vr m e = b) → ∀ r, r = Ending.returned (.bool b) → r = Ending.returned (.bool (vr m e)) := fun b hb r hr => by rw [hb]; exact hr
  have T : ∀ b, vr m e = b → Calls Tryz.prog 24 #[realV m e] w (fun r w' => r = .returned (.bool b) ∧ Below w.heap.size w w') → Calls Tryz.prog 24 #[realV m e] w fun r w' => r = .returned (.bool (vr m e)) ∧ Below w.heap.size w w' := fun b hb h => h.mono fun r w' k => ⟨by rw [hb]; exact k.1, k.2⟩
  have fl : ∀ (k : ¬ ((m = 0 ∧ e = 0) ∨ (8388608 ≤ ab m ∧ ab m < 16777216 ∧ -150 ≤ e ∧ e ≤ 150) ∨ (1 ≤ ab m ∧ ab m < 8388608 ∧ e = -150))), vr m e = false := fun k => by
    cases hv : vr m e
    · rfl
    · exact absurd (vr_iff.1 hv) k
  rcases Int.lt_trichotomy m 0 with hm | hm | hm
  · have ha : ab m = -m := by unfold ab; rw [if_pos hm]
    by_cases hmin : m = -9223372036854775808
    · subst hmin
      exact T false (fl (by rw [ha]; omega)) (rv_min e w)
    · by_cases a1 : 16777216 ≤ -m
      · exact T false (fl (by rw [ha]; omega)) (rv_bign m e w hm (by omega) a1)
      · by_cases a2 : e < -150
        · exact T false (fl (by rw [ha]; omega)) (rv_lon m e w hm (by omega) (by omega) a2)
        · by_cases a3 : 150 < e
          · exact T false (fl (by rw [ha]; omega)) (rv_hin m e w hm (by omega) (by omega) (by omega) a3)
          · by_cases a4 : 8388608 ≤ -m
            · exact T true (vr_iff.2 (by rw [ha]; omega)) (rv_nrmn m e w hm (by omega) (by omega) (by omega) (by omega) a4)
            · by_cases a5 : e = -150
              · exact T true (vr_iff.2 (by rw [ha]; omega)) (rv_subn m e w hm (by omega) (by omega) (by omega) (by omega) (by omega) (by simp [a5]))
              · exact T false (fl (by rw [ha]; omega)) (rv_notn m e w hm (by omega) (by omega) (by omega) (by omega) (by omega) (by simpa using a5))
  · subst hm
    by_cases a5 : e = 0
    · exact T true (vr_iff.2 (by omega)) (rv_zt e w (by simp [a5]))
    · exact T false (fl (by unfold ab; simp; omega)) (rv_zf e w (by simpa using a5))
  · have ha : ab m = m := by unfold ab; rw [if_neg (by omega)]
    by_cases a1 : 16777216 ≤ m
    · exact T false (fl (by rw [ha]; omega)) (rv_bigp m e w hm (by omega) a1)
    · by_cases a2 : e < -150
      · exact T false (fl (by rw [ha]; omega)) (rv_lop m e w hm (by omega) (by omega) a2)
      · by_cases a3 : 150 < e
        · exact T false (fl (by rw [ha]; omega)) (rv_hip m e w hm (by omega) (by omega) (by omega) a3)
        · by_cases a4 : 8388608 ≤ m
          · exact T true (vr_iff.2 (by rw [ha]; omega)) (rv_nrmp m e w hm (by omega) (by omega) (by omega) (by omega) a4)
          · by_cases a5 : e = -150
            · exact T true (vr_iff.2 (by rw [ha]; omega)) (rv_subp m e w hm (by omega) (by omega) (by omega) (by omega) (by omega) (by simp [a5]))
            · exact T false (fl (by rw [ha]; omega)) (rv_notp m e w hm (by omega) (by omega) (by omega) (by omega) (by omega) (by simpa using a5))

theorem hv_step (v : Int) : (v.tmod 2 = 0 ∧ v.tdiv 2 = v / 2) ∨ (v < 0 ∧ v.tmod 2 = -1 ∧ (v - 1).tdiv 2 = v / 2) ∨ (0 ≤ v ∧ v.tmod 2 = 1 ∧ v.tdiv 2 = v / 2) := by
  rcases Int.le_total 0 v with h | h
  · rw [Int.tmod_eq_emod_of_nonneg h, Int.tdiv_eq_ediv_of_nonneg h]
    omega
  · have h1 : v.tmod 2 = -((-v) % 2) := by rw [← Int.tmod_eq_emod_of_nonneg (by omega), Int.neg_tmod]; omega
    have h2 : v.tdiv 2 = -((-v) / 2) := by rw [← Int.tdiv_eq_ediv_of_nonneg (by omega), Int.neg_tdiv]; omega
    have h3 : (v - 1).tdiv 2 = -((-(v - 1)) / 2) := by rw [← Int.tdiv_eq_ediv_of_nonneg (by omega), Int.neg_tdiv]; omega
    rw [h1, h2, h3]
    omega

theorem dv_step (m : Int) (j : Nat) : m / 2 ^ j / 2 = m / 2 ^ (j + 1) := by
  rw [Int.pow_succ, Int.ediv_ediv_of_nonneg (Int.le_of_lt (pow_pos j))]

theorem dv_bd (m : Int) (j : Nat) (h1 : -1000000000000 ≤ m) (h2 : m ≤ 1000000000000) : -1000000000000 ≤ m / 2 ^ j ∧ m / 2 ^ j ≤ 1000000000000 := by
  have p : (0 : Int) < 2 ^ j := pow_pos j
  have a := @Int.le_ediv_iff_mul_le (-1000000000000) m (2 ^ j) p
  have b := @Int.ediv_lt_iff_lt_mul m 1000000000001 (2 ^ j) p
  have p1 : (1 : Int) ≤ 2 ^ j := p
  have c := a.2 (by generalize (2 : Int) ^ j = p at *; omega)
  have d := b.2 (by generalize (2 : Int) ^ j = p at *; omega)
  omega

set_option maxRecDepth 100000 in
set_option maxHeartbeats 1600000 in
theorem rfl_z (e : Int) (w : World) :
    Calls Tryz.prog 61 #[.int .i64 0, .int .i64 e] w fun r w' => r = .returned (.agg #[.int .i64 0, .bool true]) ∧ Below w.heap.size w w' := by
  go_enter Tryz.func61, Tryz.ntmps61
  go_wp2_with fail
  refine bodyPost_ret (v := .agg #[.int .i64 0, .bool true]) (by simp [results, Tryz.results61, go_sem]) rfl ⟨rfl, by repeat (first | with_reducible exact HBB.out | with_reducible exact Below.refl _ _ | with_reducible refine Below.drew ?_ | with_reducible refine belowN ?_ _ | with_reducible refine Below.setCell ?_ (by first | omega | (simp; done) | (simp; omega)) _ | with_reducible refine Below.alloc ?_ (by first | omega | (simp; done) | (simp; omega)) _)⟩

set_option maxRecDepth 100000 in
set_option maxHeartbeats 1600000 in
theorem rfl_big (m e : Int) (w : World) (hm : (m == 0) = false) (he : 8 < e) :
    Calls Tryz.prog 61 #[.int .i64 m, .int .i64 e] w fun r w' => r = .returned (.agg #[.int .i64 0, .bool false]) ∧ Below w.heap.size w w' := by
  go_enter Tryz.func61, Tryz.ntmps61
  go_wp2_with fail
  refine bodyPost_ret (v := .agg #[.int .i64 0, .bool false]) (by simp [results, Tryz.results61, go_sem]) rfl ⟨rfl, by repeat (first | with_reducible exact HBB.out | with_reducible exact Below.refl _ _ | with_reducible refine Below.drew ?_ | with_reducible refine belowN ?_ _ | with_reducible refine Below.setCell ?_ (by first | omega | (simp; done) | (simp; omega)) _ | with_reducible refine Below.alloc ?_ (by first | omega | (simp; done) | (simp; omega)) _)⟩

set_option maxRecDepth 100000 in
set_option maxHeartbeats 1600000 in
set_option maxHeartbeats 1600000 in
theorem rfl_up (m u n : Int) (b : Bool) (e : Nat) (w : World) (hm : (m == 0) = false) (h1 : -1000000000000 ≤ m) (h2 : m ≤ 1000000000000) (he : e ≤ 8) (hu : m * 2 ^ e = u) (hin : ((-2147483647 ≤ u ∧ u ≤ 2147483647 ∧ n = u ∧ b = true) ∨ (u < -2147483647 ∧ n = 0 ∧ b = false) ∨ (¬ u < -2147483647 ∧ 2147483647 < u ∧ n = 0 ∧ b = false))) :
    Calls Tryz.prog 61 #[.int .i64 m, .int .i64 (e : Int)] w fun r w' => r = .returned (.agg #[.int .i64 n, .bool b]) ∧ Below w.heap.size w w' := by
  have hei : ¬ (8 : Int) < (e : Int) := by omega
  have HM : Hid (∀ j : Nat, j ≤ 8 → -256000000000000 ≤ m * 2 ^ j ∧ m * 2 ^ j ≤ 256000000000000) := Lib.hid (fun j hj => by
    have := pow_le j (by omega)
    have p8 : (2 : Int) ^ j ≤ 256 := by have := Nat.pow_le_pow_right (n := 2) (by decide) hj; have e : ((2 ^ j : Nat) : Int) = (2 : Int) ^ j := by push_cast; rfl
                                        rw [← e]; omega
    have a := Int.mul_le_mul_of_nonneg_right h2 (show (0 : Int) ≤ 2 ^ j by omega)
    have c := Int.mul_le_mul_of_nonneg_right h1 (show (0 : Int) ≤ 2 ^ j by omega)
    omega)
  have HU := Lib.hid hu
  clear hu h1 h2
  go_enter Tryz.func61, Tryz.ntmps61
  go_wp2_with fail
  go_loopw [0, 5] (fun v i wr => ∃ j : Nat, j ≤ e ∧ i = .int .i64 (j : Int) ∧ v = .int .i64 (m * 2 ^ j) ∧ wr = w.alloc (Obj.cells #[.int .i64 0, .bool false] 66)) (fun _ i _ => e - (intOf i).toNat)
  case atStart => exact ⟨0, by omega, rfl, by simp, rfl⟩
  case round =>
    obtain ⟨j, hj, rfl, rfl, rfl⟩ := hrel
    have hb := HM.out j (by omega)
    by_cases hlt : j < e
    · have hlt2 : (j : Int) < (e : Int) := by omega
      have hp : m * 2 ^ j * 2 = m * 2 ^ (j + 1) := by rw [Int.pow_succ, Int.mul_assoc]
      have HP := Lib.hid hp
      generalize m * 2 ^ j = v at hb HP ⊢
      clear hp
      obtain ⟨b1, b2⟩ := hb
      go_wp2_with fail
      exact ⟨⟨j + 1, by omega, by simp, by rw [HP.out], by first | rfl | trivial⟩, by simp [intOf]; omega⟩
    · obtain rfl : j = e := by omega
      rw [HU.out] at hb ⊢
      obtain ⟨b1, b2⟩ := hb
      go_wp2_with fail
      go_loopw [0, 6] (fun v i wr => v = .int .i64 u ∧ i = .int .i64 0 ∧ wr = w.alloc (Obj.cells #[.int .i64 0, .bool false] 66)) (fun _ _ _ => 0)
      case atStart => exact ⟨rfl, rfl, rfl⟩
      case round =>
        obtain ⟨rfl, rfl, rfl⟩ := hrel
        have hj0 : ¬ (j : Int) < 0 := by omega
        rcases hin with ⟨hi1, hi2, hnu, rfl⟩ | ⟨hi1, rfl, rfl⟩ | ⟨hi1, hi2, rfl, rfl⟩
        · obtain rfl : u = n := hnu.symm
          go_wp2_with fail
          refine bodyPost_ret (v := .agg #[.int .i64 u, .bool true]) (by simp [results, Tryz.results61, go_sem]) rfl ⟨rfl, by repeat (first | with_reducible exact HBB.out | with_reducible exact Below.refl _ _ | with_reducible refine Below.drew ?_ | with_reducible refine belowN ?_ _ | with_reducible refine Below.setCell ?_ (by first | omega | (simp; done) | (simp; omega)) _ | with_reducible refine Below.alloc ?_ (by first | omega | (simp; done) | (simp; omega)) _)⟩
        · go_wp2_with fail
          refine bodyPost_ret (v := .agg #[.int .i64 0, .bool false]) (by simp [results, Tryz.results61, go_sem]) rfl ⟨rfl, by repeat (first | with_reducible exact HBB.out | with_reducible exact Below.refl _ _ | with_reducible refine Below.drew ?_ | with_reducible refine belowN ?_ _ | with_reducible refine Below.setCell ?_ (by first | omega | (simp; done) | (simp; omega)) _ | with_reducible refine Below.alloc ?_ (by first | omega | (simp; done) | (simp; omega)) _)⟩
        · go_wp2_with fail
          refine bodyPost_ret (v := .agg #[.int .i64 0, .bool false]) (by simp [results, Tryz.results61, go_sem]) rfl ⟨rfl, by repeat (first | with_reducible exact HBB.out | with_reducible exact Below.refl _ _ | with_reducible refine Below.drew ?_ | with_reducible refine belowN ?_ _ | with_reducible refine Below.setCell ?_ (by first | omega | (simp; done) | (simp; omega)) _ | with_reducible refine Below.alloc ?_ (by first | omega | (simp; done) | (simp; omega)) _)⟩

set_option maxRecDepth 100000 in
set_option maxHeartbeats 1600000 in
set_option maxHeartbeats 3200000 in
theorem rfl_dn (m u n : Int) (b : Bool) (e : Nat) (w : World) (hm : (m == 0) = false) (h1 : -1000000000000 ≤ m) (h2 : m ≤ 1000000000000) (he1 : 1 ≤ e) (he : e ≤ 200) (hu : m / 2 ^ e = u) (hin : ((-2147483647 ≤ u ∧ u ≤ 2147483647 ∧ n = u ∧ b = true) ∨ (u < -2147483647 ∧ n = 0 ∧ b = false) ∨ (¬ u < -2147483647 ∧ 2147483647 < u ∧ n = 0 ∧ b = false))) :
    Calls Tryz.prog 61 #[.int .i64 m, .int .i64 (-(e : Int))] w fun r w' => r = .returned (.agg #[.int .i64 n, .bool b]) ∧ Below w.heap.size w w' := by
  have hei : ¬ (8 : Int) < -(e : Int) := by omega
  have hen : ¬ (0 : Int) < -(e : Int) := by omega
  have HM := Lib.hid (fun j => dv_bd m j h1 h2)
  have HU := Lib.hid hu
  clear hu h1 h2
  go_enter Tryz.func61, Tryz.ntmps61
  go_wp2_with fail
  go_loopw [0, 5] (fun v i wr => v = .int .i64 m ∧ i = .int .i64 0 ∧ wr = w.alloc (Obj.cells #[.int .i64 0, .bool false] 66)) (fun _ _ _ => 0)
  case atStart => exact ⟨rfl, rfl, rfl⟩
  case round =>
    obtain ⟨rfl, rfl, rfl⟩ := hrel
    go_wp2_with fail
    go_loopw [0, 6] (fun v i wr => ∃ j : Nat, j ≤ e ∧ i = .int .i64 (-(j : Int)) ∧ v = .int .i64 (m / 2 ^ j) ∧ wr = w.alloc (Obj.cells #[.int .i64 0, .bool false] 66)) (fun _ i _ => e - (-(intOf i)).toNat)
    case atStart => exact ⟨0, by omega, rfl, by simp, rfl⟩
    case round =>
      obtain ⟨j, hj, rfl, rfl, rfl⟩ := hrel
      have hb := HM.out j
      by_cases hlt : j < e
      · have hlt2 : -(e : Int) < -(j : Int) := by omega
        have hji : (j : Int) ≤ 200 := by omega
        have HP := Lib.hid (dv_step m j)
        generalize m / 2 ^ j = v at hb HP ⊢
        obtain ⟨b1, b2⟩ := hb
        have HS := Lib.hid (hv_step v)
        obtain ⟨x, hx⟩ : ∃ x, v / 2 = x := ⟨_, rfl⟩
        rw [hx] at HS HP
        have HX := Lib.hid hx
        have hxb1 : -1000000000000 ≤ x := by omega
        have hxb2 : x ≤ 1000000000000 := by omega
        have hjm : -(j : Int) - 1 = -((j + 1 : Nat) : Int) := by omega
        clear hx
        rcases Int.lt_or_le v 0 with hv | hv
        · have hs3 : (v.tmod 2 = 0 ∧ v.tdiv 2 = x) ∨ (v.tmod 2 = -1 ∧ (v - 1).tdiv 2 = x) := by have := HS.out; omega
          have hvn : ¬ 0 ≤ v := by omega
          rcases hs3 with ⟨k1, k2⟩ | ⟨k1, k2⟩
          · go_wp2_with fail
            exact ⟨⟨j + 1, by omega, by simp <;> omega, by rw [HP.out], by first | rfl | trivial⟩, by simp [intOf] <;> omega⟩
          · go_wp2_with fail
            exact ⟨⟨j + 1, by omega, by simp <;> omega, by rw [HP.out], by first | rfl | trivial⟩, by simp [intOf] <;> omega⟩
        · have k2 : v / 2 = x := HX.out
          have hvn : ¬ v < 0 := by omega
          have k1 : v % 2 = 0 ∨ v % 2 = 1 := by omega
          rcases k1 with k1 | k1
          · go_wp2_with fail
            exact ⟨⟨j + 1, by omega, by simp <;> omega, by rw [HX.out, HP.out], by first | rfl | trivial⟩, by simp [intOf] <;> omega⟩
          · go_wp2_with fail
            exact ⟨⟨j + 1, by omega, by simp <;> omega, by rw [HX.out, HP.out], by first | rfl | trivial⟩, by simp [intOf] <;> omega⟩
      · obtain rfl : j = e := by omega
        rw [HU.out] at hb ⊢
        obtain ⟨b1, b2⟩ := hb
        rcases hin with ⟨hi1, hi2, hnu, rfl⟩ | ⟨hi1, rfl, rfl⟩ | ⟨hi1, hi2, rfl, rfl⟩
        · obtain rfl : u = n := hnu.symm
          go_wp2_with fail
          refine bodyPost_ret (v := .agg #[.int .i64 u, .bool true]) (by simp [results, Tryz.results61, go_sem]) rfl ⟨rfl, by repeat (first | with_reducible exact HBB.out | with_reducible exact Below.refl _ _ | with_reducible refine Below.drew ?_ | with_reducible refine belowN ?_ _ | with_reducible refine Below.setCell ?_ (by first | omega | (simp; done) | (simp; omega)) _ | with_reducible refine Below.alloc ?_ (by first | omega | (simp; done) | (simp; omega)) _)⟩
        · go_wp2_with fail
          refine bodyPost_ret (v := .agg #[.int .i64 0, .bool false]) (by simp [results, Tryz.results61, go_sem]) rfl ⟨rfl, by repeat (first | with_reducible exact HBB.out | with_reducible exact Below.refl _ _ | with_reducible refine Below.drew ?_ | with_reducible refine belowN ?_ _ | with_reducible refine Below.setCell ?_ (by first | omega | (simp; done) | (simp; omega)) _ | with_reducible refine Below.alloc ?_ (by first | omega | (simp; done) | (simp; omega)) _)⟩
        · go_wp2_with fail
          refine bodyPost_ret (v := .agg #[.int .i64 0, .bool false]) (by simp [results, Tryz.results61, go_sem]) rfl ⟨rfl, by repeat (first | with_reducible exact HBB.out | with_reducible exact Below.refl _ _ | with_reducible refine Below.drew ?_ | with_reducible refine belowN ?_ _ | with_reducible refine Below.setCell ?_ (by first | omega | (simp; done) | (simp; omega)) _ | with_reducible refine Below.alloc ?_ (by first | omega | (simp; done) | (simp; omega)) _)⟩

def rfV (m e : Int) : Int := if 0 ≤ e then m * 2 ^ e.toNat else m / 2 ^ (-e).toNat
def rfB (m e : Int) : Bool := decide (m = 0) || (decide (e ≤ 8) && inR (rfV m e))
def rfN (m e : Int) : Int := if rfB m e then rfV m e else 0
def rfE (m e : Int) : Int := if rfB m e then 0 else 3

theorem inR_cases (u : Int) : (-2147483647 ≤ u ∧ u ≤ 2147483647 ∧ inR u = true) ∨ (u < -2147483647 ∧ inR u = false) ∨ (¬ u < -2147483647 ∧ 2147483647 < u ∧ inR u = false) := by
  unfold inR
  by_cases h1 : u < -2147483647
  · exact Or.inr (Or.inl ⟨h1, decide_eq_false (by omega)⟩)
  · by_cases h2 : 2147483647 < u
    · exact Or.inr (Or.inr ⟨h1, h2, decide_eq_false (by omega)⟩)
    · exact Or.inl ⟨by omega, by omega, decide_eq_true (by omega)⟩

theorem rfl_any (m e : Int) (w : World) (h1 : -1000000000000 ≤ m) (h2 : m ≤ 1000000000000) (he : -200 ≤ e) :
    Calls Tryz.prog 61 #[.int .i64 m, .int .i64 e] w fun r w' => r = .returned (.agg #[.int .i64 (rfN m e), .bool (rfB m e)]) ∧ Below w.heap.size w w' := by
  unfold rfN rfB
  by_cases hz : m = 0
  · subst hz
    have hv : rfV 0 e = 0 := by unfold rfV; split <;> simp
    simp only [hv, decide_true, Bool.true_or, if_true]
    exact rfl_z e w
  · have hm : (m == 0) = false := by simpa using hz
    have hmd : decide (m = 0) = false := decide_eq_false hz
    rw [hmd, Bool.false_or]
    by_cases h8 : 8 < e
    · rw [show decide (e ≤ 8) = false from decide_eq_false (by omega), Bool.false_and]
      exact rfl_big m e w hm h8
    · rw [show decide (e ≤ 8) = true from decide_eq_true (by omega), Bool.true_and]
      have hin := inR_cases (rfV m e)
      by_cases h0 : 0 ≤ e
      · obtain ⟨k, rfl⟩ : ∃ k : Nat, e = k := ⟨e.toNat, by omega⟩
        have hv : m * 2 ^ k = rfV m (k : Int) := by unfold rfV; rw [if_pos h0, Int.toNat_natCast]
        refine rfl_up m (rfV m k) _ _ k w hm h1 h2 (by omega) hv ?_
        rcases hin with ⟨a, b, c⟩ | ⟨a, c⟩ | ⟨a, b, c⟩
        · exact Or.inl ⟨a, b, by rw [c]; rfl, c⟩
        · exact Or.inr (Or.inl ⟨a, by rw [c]; rfl, c⟩)
        · exact Or.inr (Or.inr ⟨a, b, by rw [c]; rfl, c⟩)
      · obtain ⟨k, rfl⟩ : ∃ k : Nat, e = -(k : Int) := ⟨(-e).toNat, by omega⟩
        have hv : m / 2 ^ k = rfV m (-(k : Int)) := by unfold rfV; rw [if_neg h0, Int.neg_neg, Int.toNat_natCast]
        refine rfl_dn m (rfV m (-(k : Int))) _ _ k w hm h1 h2 (by omega) (by omega) hv ?_
        rcases hin with ⟨a, b, c⟩ | ⟨a, c⟩ | ⟨a, b, c⟩
        · exact Or.inl ⟨a, b, by rw [c]; rfl, c⟩
        · exact Or.inr (Or.inl ⟨a, by rw [c]; rfl, c⟩)
        · exact Or.inr (Or.inr ⟨a, b, by rw [c]; rfl, c⟩)

set_option maxRecDepth 100000 in
set_option maxHeartbeats 1600000 in
theorem md_t (n : Int) (w : World) :
    Calls Tryz.prog 60 #[.agg #[.int .i64 n, .bool true]] w fun r w' => r = .returned (.agg #[.int .i64 n, .int .i64 0]) ∧ Below w.heap.size w w' := by
  go_enter Tryz.func60, Tryz.ntmps60
  go_wp2_with fail
  refine bodyPost_ret (v := .agg #[.int .i64 n, .int .i64 0]) (by simp [results, Tryz.results60, go_sem]) rfl ⟨rfl, by repeat (first | with_reducible exact HBB.out | with_reducible exact Below.refl _ _ | with_reducible refine Below.drew ?_ | with_reducible refine belowN ?_ _ | with_reducible refine Below.setCell ?_ (by first | omega | (simp; done) | (simp; omega)) _ | with_reducible refine Below.alloc ?_ (by first | omega | (simp; done) | (simp; omega)) _)⟩

set_option maxRecDepth 100000 in
set_option maxHeartbeats 1600000 in
theorem md_f (n : Int) (w : World) :
    Calls Tryz.prog 60 #[.agg #[.int .i64 n, .bool false]] w fun r w' => r = .returned (.agg #[.int .i64 0, .int .i64 3]) ∧ Below w.heap.size w w' := by
  go_enter Tryz.func60, Tryz.ntmps60
  go_wp2_with fail
  refine bodyPost_ret (v := .agg #[.int .i64 0, .int .i64 3]) (by simp [results, Tryz.results60, go_sem]) rfl ⟨rfl, by repeat (first | with_reducible exact HBB.out | with_reducible exact Below.refl _ _ | with_reducible refine Below.drew ?_ | with_reducible refine belowN ?_ _ | with_reducible refine Below.setCell ?_ (by first | omega | (simp; done) | (simp; omega)) _ | with_reducible refine Below.alloc ?_ (by first | omega | (simp; done) | (simp; omega)) _)⟩

theorem md_any (m e : Int) (w : World) :
    Calls Tryz.prog 60 #[.agg #[.int .i64 (rfN m e), .bool (rfB m e)]] w fun r w' => r = .returned (.agg #[.int .i64 (rfN m e), .int .i64 (rfE m e)]) ∧ Below w.heap.size w w' := by
  unfold rfN rfE
  cases rfB m e
  · exact md_f _ w
  · exact md_t _ w

set_option maxRecDepth 100000 in
set_option maxHeartbeats 1600000 in
set_option maxHeartbeats 1600000 in
theorem rent_any (m e : Int) (w : World) (h1 : -1000000000000 ≤ m) (h2 : m ≤ 1000000000000) (he : -200 ≤ e) :
    Calls Tryz.prog 25 #[realV m e] w fun r w' => r = .returned (.agg #[.int .i64 (rfN m e), .int .i64 (rfE m e)]) ∧ Below w.heap.size w w' := by
  have HF := Lib.hid (fun w => rfl_any m e w h1 h2 he)
  have HM := Lib.hid (fun w => md_any m e w)
  generalize rfN m e = an at HF HM ⊢
  generalize rfB m e = ab at HF HM
  generalize rfE m e = ae at HM ⊢
  go_enter Tryz.func25, Tryz.ntmps25
  go_wp2_with fail
  refine (HF.out _).mono ?_
  rintro r w1 ⟨rfl, hb1⟩
  have f1_0 : w1.frozen? ⟨w.heap.size + 1, 0, none⟩ = false := carryF hb1 (v := .int .i64 0) (by first | with_reducible assumption | go_simp) (by first | with_reducible assumption | go_simp)
  have f1_1 : w1.frozen? ⟨w.heap.size + 1, 1, none⟩ = false := carryF hb1 (v := .int .i64 0) (by first | with_reducible assumption | go_simp) (by first | with_reducible assumption | go_simp)
  have c1_0 : w1.cell? ⟨w.heap.size + 1, 0, none⟩ = some (.int .i64 0) := carry hb1 (by first | with_reducible assumption | go_simp)
  have c1_1 : w1.cell? ⟨w.heap.size + 1, 1, none⟩ = some (.int .i64 0) := carry hb1 (by first | with_reducible assumption | go_simp)
  have z1 : w.heap.size + 1 < w1.heap.size := by have := hb1.size; first | omega | (simp at this; omega)
  have HBB := Lib.hid ((by repeat (first | with_reducible exact Below.refl _ _ | with_reducible refine Below.setCell ?_ (by first | omega | (simp; done) | (simp; omega)) _ | with_reducible refine Below.drew ?_ | with_reducible refine belowN ?_ _ | with_reducible refine Below.alloc ?_ (by first | omega | (simp; done) | (simp; omega)) _) : Below w.heap.size w _).trans (hb1.mono (by first | omega | (simp; done) | (simp; omega))))
  clear hb1
  go_wp2_with fail
  refine (HM.out _).mono ?_
  rintro r w2 ⟨rfl, hb2⟩
  have f1_0 : w2.frozen? ⟨w.heap.size + 1, 0, none⟩ = false := carryF hb2 (v := .int .i64 0) (by first | with_reducible assumption | go_simp) (by first | with_reducible assumption | go_simp)
  have f1_1 : w2.frozen? ⟨w.heap.size + 1, 1, none⟩ = false := carryF hb2 (v := .int .i64 0) (by first | with_reducible assumption | go_simp) (by first | with_reducible assumption | go_simp)
  have c1_0 : w2.cell? ⟨w.heap.size + 1, 0, none⟩ = some (.int .i64 0) := carry hb2 (by first | with_reducible assumption | go_simp)
  have c1_1 : w2.cell? ⟨w.heap.size + 1, 1, none⟩ = some (.int .i64 0) := carry hb2 (by first | with_reducible assumption | go_simp)
  have z1 : w.heap.size + 1 < w2.heap.size := by have := hb2.size; first | omega | (simp at this; omega)
  have HBB := Lib.hid ((by repeat (first | with_reducible exact HBB.out | with_reducible refine Below.setCell ?_ (by first | omega | (simp; done) | (simp; omega)) _ | with_reducible refine Below.drew ?_ | with_reducible refine belowN ?_ _ | with_reducible refine Below.alloc ?_ (by first | omega | (simp; done) | (simp; omega)) _) : Below w.heap.size w _).trans (hb2.mono (by first | omega | (simp; done) | (simp; omega))))
  clear hb2
  go_wp2_with fail
  refine bodyPost_ret (v := .agg #[.int .i64 an, .int .i64 ae]) (by simp [results, Tryz.results25, go_sem, c1_0, c1_1]) rfl ⟨rfl, by repeat (first | with_reducible exact HBB.out | with_reducible exact Below.refl _ _ | with_reducible refine Below.drew ?_ | with_reducible refine belowN ?_ _ | with_reducible refine Below.setCell ?_ (by first | omega | (simp; done) | (simp; omega)) _ | with_reducible refine Below.alloc ?_ (by first | omega | (simp; done) | (simp; omega)) _)⟩

set_option maxRecDepth 100000 in
set_option maxHeartbeats 1600000 in
set_option maxHeartbeats 1600000 in
theorem rrd_int (m e : Int) (w : World) (h1 : -1000000000000 ≤ m) (h2 : m ≤ 1000000000000) (he : 0 ≤ e) :
    Calls Tryz.prog 26 #[realV m e] w fun r w' => r = .returned (.agg #[.int .i64 (rfN m e), .int .i64 (rfE m e)]) ∧ Below w.heap.size w w' := by
  have HF := Lib.hid (fun w => rent_any m e w h1 h2 (by omega))
  generalize rfN m e = an at HF ⊢
  generalize rfE m e = ae at HF ⊢
  have he2 : ¬ e < -40 := by omega
  go_enter Tryz.func26, Tryz.ntmps26
  go_wp2_with fail
  refine (HF.out _).mono ?_
  rintro r w1 ⟨rfl, hb1⟩
  have f1_0 : w1.frozen? ⟨w.heap.size + 1, 0, none⟩ = false := carryF hb1 (v := .int .i64 0) (by first | with_reducible assumption | go_simp) (by first | with_reducible assumption | go_simp)
  have f1_1 : w1.frozen? ⟨w.heap.size + 1, 1, none⟩ = false := carryF hb1 (v := .int .i64 0) (by first | with_reducible assumption | go_simp) (by first | with_reducible assumption | go_simp)
  have c1_0 : w1.cell? ⟨w.heap.size + 1, 0, none⟩ = some (.int .i64 0) := carry hb1 (by first | with_reducible assumption | go_simp)
  have c1_1 : w1.cell? ⟨w.heap.size + 1, 1, none⟩ = some (.int .i64 0) := carry hb1 (by first | with_reducible assumption | go_simp)
  have z1 : w.heap.size + 1 < w1.heap.size := by have := hb1.size; first | omega | (simp at this; omega)
  have HBB := Lib.hid ((by repeat (first | with_reducible exact Below.refl _ _ | with_reducible refine Below.setCell ?_ (by first | omega | (simp; done) | (simp; omega)) _ | with_reducible refine Below.drew ?_ | with_reducible refine belowN ?_ _ | with_reducible refine Below.alloc ?_ (by first | omega | (simp; done) | (simp; omega)) _) : Below w.heap.size w _).trans (hb1.mono (by first | omega | (simp; done) | (simp; omega))))
  clear hb1
  go_wp2_with fail
  refine bodyPost_ret (v := .agg #[.int .i64 an, .int .i64 ae]) (by simp [results, Tryz.results26, go_sem, c1_0, c1_1]) rfl ⟨rfl, by repeat (first | with_reducible exact HBB.out | with_reducible exact Below.refl _ _ | with_reducible refine Below.drew ?_ | with_reducible refine belowN ?_ _ | with_reducible refine Below.setCell ?_ (by first | omega | (simp; done) | (simp; omega)) _ | with_reducible refine Below.alloc ?_ (by first | omega | (simp; done) | (simp; omega)) _)⟩

set_option maxRecDepth 100000 in
set_option maxHeartbeats 1600000 in
set_option maxHeartbeats 1600000 in
theorem rrd_far (m e : Int) (w : World) (he : e < -40) :
    Calls Tryz.prog 26 #[realV m e] w fun r w' => r = .returned (.agg #[.int .i64 0, .int .i64 0]) ∧ Below w.heap.size w w' := by
  have he2 : ¬ 0 ≤ e := by omega
  go_enter Tryz.func26, Tryz.ntmps26
  go_wp2_with fail
  refine bodyPost_ret (v := .agg #[.int .i64 0, .int .i64 0]) (by simp [results, Tryz.results26, go_sem]) rfl ⟨rfl, by repeat (first | with_reducible exact HBB.out | with_reducible exact Below.refl _ _ | with_reducible refine Below.drew ?_ | with_reducible refine belowN ?_ _ | with_reducible refine Below.setCell ?_ (by first | omega | (simp; done) | (simp; omega)) _ | with_reducible refine Below.alloc ?_ (by first | omega | (simp; done) | (simp; omega)) _)⟩

set_option maxRecDepth 100000 in
set_option maxHeartbeats 1600000 in
set_option maxHeartbeats 1600000 in
theorem rrd_mid (m : Int) (k : Nat) (w : World) (h1 : -100000000000 ≤ m) (h2 : m ≤ 100000000000) (hk1 : 1 ≤ k) (hk : k ≤ 40) :
    Calls Tryz.prog 26 #[realV m (-(k : Int))] w fun r w' => r = .returned (.agg #[.int .i64 (rfN (m + 2 ^ (k - 1)) (-(k : Int))), .int .i64 (rfE (m + 2 ^ (k - 1)) (-(k : Int)))]) ∧ Below w.heap.size w w' := by
  have HP : Hid (∀ j : Nat, j ≤ 39 → 1 ≤ (2 : Int) ^ j ∧ (2 : Int) ^ j ≤ 549755813888) := Lib.hid (fun j hj => by
    have a := Nat.pow_le_pow_right (n := 2) (by decide) hj
    have b := Nat.pow_pos (n := j) (a := 2) (by decide)
    have e : ((2 ^ j : Nat) : Int) = (2 : Int) ^ j := by push_cast; rfl
    rw [← e]
    omega)
  have hp9 := HP.out (k - 1) (by omega)
  have HF := Lib.hid (fun w => rfl_any (m + 2 ^ (k - 1)) (-(k : Int)) w (by omega) (by omega) (by omega))
  have HM := Lib.hid (fun w => md_any (m + 2 ^ (k - 1)) (-(k : Int)) w)
  generalize rfN (m + 2 ^ (k - 1)) (-(k : Int)) = an at HF HM ⊢
  generalize rfB (m + 2 ^ (k - 1)) (-(k : Int)) = ab at HF HM
  generalize rfE (m + 2 ^ (k - 1)) (-(k : Int)) = ae at HM ⊢
  have hk0 : ¬ (0 : Int) ≤ -(k : Int) := by omega
  have hk4 : ¬ -(k : Int) < -40 := by omega
  have hk5 : (1 : Int) ≤ (k : Int) := by omega
  have hk6 : (k : Int) ≤ 40 := by omega
  have HB0 := Lib.hid (((Below.refl w.heap.size w).alloc (Nat.le_refl _) (Obj.cells #[.int .i64 m, .int .i64 (-(k : Int))] 23)).alloc (by simp) (Obj.cells #[.int .i64 0, .int .i64 0] 36))
  have HPK := Lib.hid hp9
  clear hp9
  go_enter Tryz.func26, Tryz.ntmps26
  go_wp2_with fail
  go_loopw [3, 4] (fun h i wr => ∃ j : Nat, j + 1 ≤ k ∧ i = .int .i64 (-(j : Int) - 1) ∧ h = .int .i64 (2 ^ j) ∧ wr = (w.alloc (Obj.cells #[.int .i64 m, .int .i64 (-(k : Int))] 23)).alloc (Obj.cells #[.int .i64 0, .int .i64 0] 36)) (fun _ i _ => k - (-(intOf i)).toNat)
  case atStart => exact ⟨0, by omega, by rfl, by rfl, rfl⟩
  case round =>
    obtain ⟨j, hj, rfl, rfl, rfl⟩ := hrel
    have hb := HP.out j (by omega)
    have hji : (j : Int) ≤ 40 := by omega
    by_cases hlt : j + 1 < k
    · have hlt2 : -(k : Int) < -(j : Int) - 1 := by omega
      have HS := Lib.hid (show (2 : Int) ^ j * 2 = 2 ^ (j + 1) from by rw [Int.pow_succ])
      generalize (2 : Int) ^ j = v at hb HS ⊢
      obtain ⟨b1, b2⟩ := hb
      go_wp2_with fail
      exact ⟨⟨j + 1, by omega, by simp <;> omega, by rw [HS.out], by first | rfl | trivial⟩, by simp [intOf] <;> omega⟩
    · obtain rfl : k = j + 1 := by omega
      have hlt2 : ¬ -((j + 1 : Nat) : Int) < -(j : Int) - 1 := by omega
      rw [show j + 1 - 1 = j from rfl] at HF HPK
      generalize (2 : Int) ^ j = v at hb HF HPK ⊢
      obtain ⟨b1, b2⟩ := hb
      go_wp2_with fail
      refine (HF.out _).mono ?_
      rintro r w1 ⟨rfl, hb1⟩
      have f1_0 : w1.frozen? ⟨w.heap.size + 1, 0, none⟩ = false := carryF hb1 (v := .int .i64 0) (by first | with_reducible assumption | go_simp) (by first | with_reducible assumption | go_simp)
      have f1_1 : w1.frozen? ⟨w.heap.size + 1, 1, none⟩ = false := carryF hb1 (v := .int .i64 0) (by first | with_reducible assumption | go_simp) (by first | with_reducible assumption | go_simp)
      have c1_0 : w1.cell? ⟨w.heap.size + 1, 0, none⟩ = some (.int .i64 0) := carry hb1 (by first | with_reducible assumption | go_simp)
      have c1_1 : w1.cell? ⟨w.heap.size + 1, 1, none⟩ = some (.int .i64 0) := carry hb1 (by first | with_reducible assumption | go_simp)
      have z1 : w.heap.size + 1 < w1.heap.size := by have := hb1.size; first | omega | (simp at this; omega)
      have HBB := Lib.hid ((by repeat (first | with_reducible exact Below.refl _ _ | with_reducible refine Below.setCell ?_ (by first | omega | (simp; done) | (simp; omega)) _ | with_reducible refine Below.drew ?_ | with_reducible refine belowN ?_ _ | with_reducible refine Below.alloc ?_ (by first | omega | (simp; done) | (simp; omega)) _) : Below w.heap.size w _).trans (hb1.mono (by first | omega | (simp; done) | (simp; omega))))
      clear hb1
      go_wp2_with fail
      refine (HM.out _).mono ?_
      rintro r w2 ⟨rfl, hb2⟩
      have f1_0 : w2.frozen? ⟨w.heap.size + 1, 0, none⟩ = false := carryF hb2 (v := .int .i64 0) (by first | with_reducible assumption | go_simp) (by first | with_reducible assumption | go_simp)
      have f1_1 : w2.frozen? ⟨w.heap.size + 1, 1, none⟩ = false := carryF hb2 (v := .int .i64 0) (by first | with_reducible assumption | go_simp) (by first | with_reducible assumption | go_simp)
      have c1_0 : w2.cell? ⟨w.heap.size + 1, 0, none⟩ = some (.int .i64 0) := carry hb2 (by first | with_reducible assumption | go_simp)
      have c1_1 : w2.cell? ⟨w.heap.size + 1, 1, none⟩ = some (.int .i64 0) := carry hb2 (by first | with_reducible assumption | go_simp)
      have z1 : w.heap.size + 1 < w2.heap.size := by have := hb2.size; first | omega | (simp at this; omega)
      have HBB := Lib.hid ((by repeat (first | with_reducible exact HBB.out | with_reducible refine Below.setCell ?_ (by first | omega | (simp; done) | (simp; omega)) _ | with_reducible refine Below.drew ?_ | with_reducible refine belowN ?_ _ | with_reducible refine Below.alloc ?_ (by first | omega | (simp; done) | (simp; omega)) _) : Below w.heap.size w _).trans (hb2.mono (by first | omega | (simp; done) | (simp; omega))))
      clear hb2
      go_wp2_with fail
      refine bodyPost_ret (v := .agg #[.int .i64 an, .int .i64 ae]) (by simp [results, Tryz.results26, go_sem, c1_0, c1_1]) rfl ⟨rfl, by repeat (first | with_reducible exact HBB.out | with_reducible exact Below.refl _ _ | with_reducible refine Below.drew ?_ | with_reducible refine belowN ?_ _ | with_reducible refine Below.setCell ?_ (by first | omega | (simp; done) | (simp; omega)) _ | with_reducible refine Below.alloc ?_ (by first | omega | (simp; done) | (simp; omega)) _)⟩

end Go.Proofs.YtdhcahidpiiplaaGreatDoor
