/-
  RealNearest: the ways together.
-/
import Derived.Test.YtoofdihnflnaiaaGreatDoorNearA
import Derived.Test.YtoofdihnflnaiaaGreatDoorNearB
import Derived.Test.YtoofdihnflnaiaaGreatDoorNearC
import Derived.Test.YtoofdihnflnaiaaGreatDoorNear0

namespace Go.Proofs.YtoofdihnflnaiaaGreatDoor.realNearest
open Go.RowKit
set_option linter.unusedVariables false

theorem sc_cases {m e : Int} (h : vr m e = true) : (m = 0 ∧ e = 0 ∧ Hid (∀ W : World, Calls Tryz.prog 20 #[realV m e] W fun r w' => r = .returned (.tuple #[.int .i64 0, .bool true]) ∧ Below W.heap.size W w') ∧ UU m e = 0 * 2 ^ 90) ∨ (m ≠ 0 ∧ e < -60 ∧ Hid (∀ W : World, Calls Tryz.prog 20 #[realV m e] W fun r w' => r = .returned (.tuple #[.int .i64 0, .bool false]) ∧ Below W.heap.size W w')) ∨ (m ≠ 0 ∧ -22 < e ∧ Hid (∀ W : World, Calls Tryz.prog 20 #[realV m e] W fun r w' => r = .returned (.tuple #[.int .i64 0, .bool false]) ∧ Below W.heap.size W w')) ∨ (m ≠ 0 ∧ -60 ≤ e ∧ e ≤ -22 ∧ Hid (∀ W : World, Calls Tryz.prog 20 #[realV m e] W fun r w' => r = .returned (.tuple #[.int .i64 (scV m e), .bool true]) ∧ Below W.heap.size W w') ∧ UU m e = scV m e * 2 ^ 90 ∧ -4611686018427387904 ≤ scV m e ∧ scV m e ≤ 4611686018427387904 ∧ (e ≤ -24 → -1152921504606846976 ≤ scV m e ∧ scV m e ≤ 1152921504606846976)) := by
  obtain ⟨m1, m2, e1, e2⟩ := vr_bd h
  by_cases h0 : m = 0
  · left
    have he : e = 0 := by
      rcases vr_iff.1 h with k | k | k
      · exact k.2
      · unfold ab at k; split at k <;> omega
      · unfold ab at k; split at k <;> omega
    subst h0
    exact ⟨rfl, he, Lib.hid (fun W => sc_z e W), by rw [UU_zero, Int.zero_mul]⟩
  · right
    have hb : (m == 0) = false := by simpa using h0
    by_cases h1 : e < -60
    · exact .inl ⟨h0, h1, Lib.hid (fun W => sc_lo m e W hb h1 (by omega) (by omega) (by omega) (by omega))⟩
    · right
      by_cases h2 : -22 < e
      · exact .inl ⟨h0, h2, Lib.hid (fun W => sc_hi m e W hb h1 h2 (by omega) (by omega) (by omega) (by omega))⟩
      · right
        have k := mul_bd m (2 ^ (e + 60).toNat) (by omega) (by omega) (pow_le (e + 60).toNat (by omega))
        refine ⟨h0, by omega, by omega, Lib.hid (fun W => sc_in m e W hb h1 h2 (by omega) (by omega)), scV_UU (by omega), k.1, k.2, fun h3 => ?_⟩
        have p1 : (2 : Int) ^ (e + 60).toNat ≤ 2 ^ 36 := by exact_mod_cast Nat.pow_le_pow_right (n := 2) (by decide) (show (e + 60).toNat ≤ 36 by omega)
        have p0 : (0 : Int) ≤ 2 ^ (e + 60).toNat := Int.le_of_lt (pow_pos _)
        unfold scV
        generalize (2 : Int) ^ (e + 60).toNat = p at *
        have q1 : m * p ≤ 16777216 * 68719476736 := Int.le_trans (Int.mul_le_mul_of_nonneg_right (show m ≤ 16777216 by omega) p0) (Int.mul_le_mul_of_nonneg_left (by omega) (by decide))
        have q2 : -m * p ≤ 16777216 * 68719476736 := Int.le_trans (Int.mul_le_mul_of_nonneg_right (show -m ≤ 16777216 by omega) p0) (Int.mul_le_mul_of_nonneg_left (by omega) (by decide))
        rw [Int.neg_mul] at q2
        omega

theorem top_rep : RI (2 ^ 151) 0 = 1082130432 := by
  have h : UU 8388608 (-22) = 2 ^ 151 := by decide +kernel
  rw [← h, ← ix_val (by decide : vr 8388608 (-22) = true)]
  decide

theorem in_top {p : Int} (h1 : -2305843009213693952 ≤ p) (h2 : p ≤ 2305843009213693952) : -1082130432 ≤ RI (p * 2 ^ 90) 0 ∧ RI (p * 2 ^ 90) 0 ≤ 1082130432 := by
  have e : (2 : Int) ^ 151 = 2305843009213693952 * 2 ^ 90 := by decide +kernel
  have a := RI_mono (show p * 2 ^ 90 ≤ 2 ^ 151 by rw [e]; exact Int.mul_le_mul_of_nonneg_right h2 (Int.le_of_lt (pow_pos _))) 0
  have b := RI_mono (show -(2 ^ 151) ≤ p * 2 ^ 90 by rw [e, ← Int.neg_mul]; exact Int.mul_le_mul_of_nonneg_right h1 (Int.le_of_lt (pow_pos _))) 0
  rw [RI_neg] at b
  rw [top_rep] at a b
  exact ⟨b, a⟩

/-- a sum of the exact value p times 2 to the -60th -/
theorem sum_cases {p : Int} (h1 : -2305843009213693952 ≤ p) (h2 : p ≤ 2305843009213693952) : ∃ m e : Int, oR (RI (p * 2 ^ 90) 0) = rE m e 0 ∧ vr m e = true ∧ ix m e = RI (p * 2 ^ 90) 0 ∧ m = oM (RI (p * 2 ^ 90) 0) ∧ e = oE (RI (p * 2 ^ 90) 0) ∧
    ((Hid (∀ W : World, Calls Tryz.prog 20 #[realV m e] W fun r w' => r = .returned (.tuple #[.int .i64 0, .bool false]) ∧ Below W.heap.size W w') ∧ ¬ -60 ≤ e) ∨ ∃ u, Hid (∀ W : World, Calls Tryz.prog 20 #[realV m e] W fun r w' => r = .returned (.tuple #[.int .i64 u, .bool true]) ∧ Below W.heap.size W w') ∧ UU m e = u * 2 ^ 90 ∧ -4611686018427387904 ≤ u ∧ u ≤ 4611686018427387904) := by
  obtain ⟨a, b⟩ := in_top h1 h2
  have hin := o_in (I := RI (p * 2 ^ 90) 0) (by omega) (by omega)
  have hv := o_vr (RI (p * 2 ^ 90) 0)
  refine ⟨oM (RI (p * 2 ^ 90) 0), oE (RI (p * 2 ^ 90) 0), by unfold oR; rw [hin.1], hv, hin.2, rfl, rfl, ?_⟩
  have hix := hin.2
  rw [← hix] at a b
  clear hin hix
  generalize oM (RI (p * 2 ^ 90) 0) = m at *
  generalize oE (RI (p * 2 ^ 90) 0) = e at *
  rcases sc_cases hv with ⟨_, _, k1, k2⟩ | ⟨_, k1, k2⟩ | ⟨k0, k1, k2⟩ | ⟨_, _, _, k1, k2, k3, k4, _⟩
  · exact .inr ⟨0, k1, k2, by decide, by decide⟩
  · exact .inl ⟨k2, by omega⟩
  · exfalso
    rcases vr_iff.1 hv with k | k | k
    · exact k0 k.1
    · unfold ix ab at *
      split at a
      · omega
      · split at a <;> split at k <;> omega
    · omega
  · exact .inr ⟨_, k1, k2, k3, k4⟩

theorem same_at {p m e c : Int} (h : vr m e = true) (hc : UU m e = c * 2 ^ 90) (hp : c = p) : oM (RI (p * 2 ^ 90) 0) = m ∧ oE (RI (p * 2 ^ 90) 0) = e := by
  rw [← hp, ← hc, ← ix_val h]
  exact ⟨(o_ix h).1, (o_ix h).2.1⟩

theorem near_at {p m e c m' e' u : Int} (h1 : -2305843009213693952 ≤ p) (h2 : p ≤ 2305843009213693952) (h : vr m e = true) (hc : UU m e = c * 2 ^ 90) (em : m' = oM (RI (p * 2 ^ 90) 0)) (ee : e' = oE (RI (p * 2 ^ 90) 0)) (hu : UU m' e' = u * 2 ^ 90) : ab (u - p) ≤ ab (c - p) := by
  obtain ⟨a, b⟩ := in_top h1 h2
  have k := near h (N := p * 2 ^ 90) (by omega) (by omega)
  rw [← em, ← ee, hu, hc] at k
  exact near_sc (a := 0) (b := 0) (2 ^ 90) (pow_pos _) k

set_option maxRecDepth 100000 in
set_option maxHeartbeats 1600000 in
theorem fin_nn (i j k xm xe ym ye zm ze a b c : Int) (w : World) (x1 : ¬ -24 < xe) (y1 : ¬ -24 < ye) 
    (HAx : Hid (∀ W : World, Calls Tryz.prog 8 #[.int .i64 i] W fun r w' => r = .returned (realV xm xe) ∧ Below W.heap.size W w')) (HAy : Hid (∀ W : World, Calls Tryz.prog 8 #[.int .i64 j] W fun r w' => r = .returned (realV ym ye) ∧ Below W.heap.size W w')) (HAz : Hid (∀ W : World, Calls Tryz.prog 8 #[.int .i64 k] W fun r w' => r = .returned (realV zm ze) ∧ Below W.heap.size W w'))
    (HSx : Hid (∀ W : World, Calls Tryz.prog 20 #[realV xm xe] W fun r w' => r = .returned (.tuple #[.int .i64 a, .bool true]) ∧ Below W.heap.size W w')) (HSy : Hid (∀ W : World, Calls Tryz.prog 20 #[realV ym ye] W fun r w' => r = .returned (.tuple #[.int .i64 b, .bool true]) ∧ Below W.heap.size W w')) (HSz : Hid (∀ W : World, Calls Tryz.prog 20 #[realV zm ze] W fun r w' => r = .returned (.tuple #[.int .i64 c, .bool true]) ∧ Below W.heap.size W w')) (HSan : Hid (∀ W, Below w.heap.size w W → Calls Tryz.prog 19 #[] W fun r W' => r = .returned (.bool true) ∧ Below W.heap.size W W')) 
    (VX : vr xm xe = true) (VY : vr ym ye = true) (VZ : vr zm ze = true) (UX : UU xm xe = a * 2 ^ 90) (UY : UU ym ye = b * 2 ^ 90) (UZ : UU zm ze = c * 2 ^ 90)
    (a1 : -1152921504606846976 ≤ a) (a2 : a ≤ 1152921504606846976) (b1 : -1152921504606846976 ≤ b) (b2 : b ≤ 1152921504606846976) (c1 : -4611686018427387904 ≤ c) (c2 : c ≤ 4611686018427387904) :
    Calls Tryz.prog 4 #[.int .i64 i, .int .i64 j, .int .i64 k] w fun r w' => r = .returned (.bool true) ∧ Below w.heap.size w w' := by
  have HAdd : Hid (∀ W : World, Calls Tryz.prog 11 #[realV xm xe, realV ym ye] W fun r w' => r = .returned (oR (RI ((a + b) * 2 ^ 90) 0)) ∧ Below W.heap.size W w') := Lib.hid (fun W => by
    have h := add_ok xm xe ym ye W (Lib.hid (by simp [VX, VY]))
    rw [add_i VX VY, show UU xm xe + UU ym ye = (a + b) * 2 ^ 90 from by rw [Int.add_mul]; omega] at h
    exact h)
  have HSub : Hid (∀ W : World, Calls Tryz.prog 15 #[realV xm xe, realV ym ye] W fun r w' => r = .returned (oR (RI ((a - b) * 2 ^ 90) 0)) ∧ Below W.heap.size W w') := Lib.hid (fun W => by
    have h := sub_ok xm xe ym ye W (Lib.hid (by simp [VX, VY]))
    rw [sub_i VX VY, show UU xm xe - UU ym ye = (a - b) * 2 ^ 90 from by rw [Int.sub_mul]; omega] at h
    exact h)
  obtain ⟨p, hp⟩ : ∃ p, a + b = p := ⟨_, rfl⟩
  obtain ⟨q, hq⟩ : ∃ q, a - b = q := ⟨_, rfl⟩
  have wp : IntKind.i64.wrap (a + b) = p := by rw [i64_in _ (by omega) (by omega)]; exact hp
  have wq : IntKind.i64.wrap (a - b) = q := by rw [i64_in _ (by omega) (by omega)]; exact hq
  rw [hp] at HAdd
  rw [hq] at HSub
  have p1 : -2305843009213693952 ≤ p := by omega
  have p2 : p ≤ 2305843009213693952 := by omega
  have q1 : -2305843009213693952 ≤ q := by omega
  have q2 : q ≤ 2305843009213693952 := by omega
  obtain ⟨sm, se, s1, s2, s3, s4, s5, s6⟩ := sum_cases p1 p2
  obtain ⟨dm, de, t1, t2, t3, t4, t5, t6⟩ := sum_cases q1 q2
  rw [s1] at HAdd
  rw [t1] at HSub
  rcases s6 with ⟨HSs, s6⟩ | ⟨u, HSs, hu, u1, u2⟩
  · rcases t6 with ⟨HSd, t6⟩ | ⟨v, HSd, hv, v1, v2⟩
    · exact m_nn_ff i j k xm xe ym ye zm ze a b c sm se dm de 0 0 w HAx HAy HAz HSx HSy HSz HAdd HSub HSan x1 y1 HSs HSd s6 t6
    · exact m_nn_ft i j k xm xe ym ye zm ze a b c sm se dm de 0 v w HAx HAy HAz HSx HSy HSz HAdd HSub HSan x1 y1 HSs HSd s6
  · rcases t6 with ⟨HSd, t6⟩ | ⟨v, HSd, hv, v1, v2⟩
    · exact m_nn_tf i j k xm xe ym ye zm ze a b c sm se dm de u 0 w HAx HAy HAz HSx HSy HSz HAdd HSub HSan x1 y1 HSs HSd t6
    · have n1 := near_at p1 p2 VZ UZ s4 s5 hu
      have n2 := near_at q1 q2 VZ UZ t4 t5 hv
      have HD1 := Lib.hid (fun W => dist_any u p W (by omega) (by omega))
      have HD2 := Lib.hid (fun W => dist_any c p W (by omega) (by omega))
      have HD3 := Lib.hid (fun W => dist_any v q W (by omega) (by omega))
      have HD4 := Lib.hid (fun W => dist_any c q W (by omega) (by omega))
      by_cases k1 : c = p
      · obtain ⟨g1, g2⟩ := same_at VZ UZ k1
        rw [g1] at s4
        rw [g2] at s5
        replace s4 := s4.symm
        subst s4
        replace s5 := s5.symm
        subst s5
        by_cases k2 : c = q
        · obtain ⟨g3, g4⟩ := same_at VZ UZ k2
          rw [g3] at t4
          rw [g4] at t5
          replace t4 := t4.symm
          subst t4
          replace t5 := t5.symm
          subst t5
          exact m_nn_ee i j k xm xe ym ye zm ze a b c 0 0 0 0 u v p q (ab (u - p)) (ab (c - p)) (ab (v - q)) (ab (c - q)) w HAx HAy HAz HSx HSy HSz HAdd HSub HSan x1 y1 HSs HSd wp wq n1 n2 HD1 HD2 HD3 HD4 (by simpa using k1) (by simpa using k2)
        · exact m_nn_en i j k xm xe ym ye zm ze a b c 0 0 dm de u v p q (ab (u - p)) (ab (c - p)) (ab (v - q)) (ab (c - q)) w HAx HAy HAz HSx HSy HSz HAdd HSub HSan x1 y1 HSs HSd wp wq n1 n2 HD1 HD2 HD3 HD4 (by simpa using k1) (by simpa using k2)
      · by_cases k2 : c = q
        · obtain ⟨g3, g4⟩ := same_at VZ UZ k2
          rw [g3] at t4
          rw [g4] at t5
          replace t4 := t4.symm
          subst t4
          replace t5 := t5.symm
          subst t5
          exact m_nn_ne i j k xm xe ym ye zm ze a b c sm se 0 0 u v p q (ab (u - p)) (ab (c - p)) (ab (v - q)) (ab (c - q)) w HAx HAy HAz HSx HSy HSz HAdd HSub HSan x1 y1 HSs HSd wp wq n1 n2 HD1 HD2 HD3 HD4 (by simpa using k1) (by simpa using k2)
        · exact m_nn_nn i j k xm xe ym ye zm ze a b c sm se dm de u v p q (ab (u - p)) (ab (c - p)) (ab (v - q)) (ab (c - q)) w HAx HAy HAz HSx HSy HSz HAdd HSub HSan x1 y1 HSs HSd wp wq n1 n2 HD1 HD2 HD3 HD4 (by simpa using k1) (by simpa using k2)

set_option maxRecDepth 100000 in
set_option maxHeartbeats 1600000 in
theorem fin_nz (i j k xm xe zm ze a b c : Int) (w : World) (x1 : ¬ -24 < xe) 
    (HAx : Hid (∀ W : World, Calls Tryz.prog 8 #[.int .i64 i] W fun r w' => r = .returned (realV xm xe) ∧ Below W.heap.size W w')) (HAy : Hid (∀ W : World, Calls Tryz.prog 8 #[.int .i64 j] W fun r w' => r = .returned (realV 0 0) ∧ Below W.heap.size W w')) (HAz : Hid (∀ W : World, Calls Tryz.prog 8 #[.int .i64 k] W fun r w' => r = .returned (realV zm ze) ∧ Below W.heap.size W w'))
    (HSx : Hid (∀ W : World, Calls Tryz.prog 20 #[realV xm xe] W fun r w' => r = .returned (.tuple #[.int .i64 a, .bool true]) ∧ Below W.heap.size W w')) (HSy : Hid (∀ W : World, Calls Tryz.prog 20 #[realV 0 0] W fun r w' => r = .returned (.tuple #[.int .i64 b, .bool true]) ∧ Below W.heap.size W w')) (HSz : Hid (∀ W : World, Calls Tryz.prog 20 #[realV zm ze] W fun r w' => r = .returned (.tuple #[.int .i64 c, .bool true]) ∧ Below W.heap.size W w')) (HSan : Hid (∀ W, Below w.heap.size w W → Calls Tryz.prog 19 #[] W fun r W' => r = .returned (.bool true) ∧ Below W.heap.size W W')) 
    (VX : vr xm xe = true) (VY : vr 0 0 = true) (VZ : vr zm ze = true) (UX : UU xm xe = a * 2 ^ 90) (UY : UU 0 0 = b * 2 ^ 90) (UZ : UU zm ze = c * 2 ^ 90)
    (a1 : -1152921504606846976 ≤ a) (a2 : a ≤ 1152921504606846976) (b1 : -1152921504606846976 ≤ b) (b2 : b ≤ 1152921504606846976) (c1 : -4611686018427387904 ≤ c) (c2 : c ≤ 4611686018427387904) :
    Calls Tryz.prog 4 #[.int .i64 i, .int .i64 j, .int .i64 k] w fun r w' => r = .returned (.bool true) ∧ Below w.heap.size w w' := by
  have HAdd : Hid (∀ W : World, Calls Tryz.prog 11 #[realV xm xe, realV 0 0] W fun r w' => r = .returned (oR (RI ((a + b) * 2 ^ 90) 0)) ∧ Below W.heap.size W w') := Lib.hid (fun W => by
    have h := add_ok xm xe 0 0 W (Lib.hid (by simp [VX, VY]))
    rw [add_i VX VY, show UU xm xe + UU 0 0 = (a + b) * 2 ^ 90 from by rw [Int.add_mul]; omega] at h
    exact h)
  have HSub : Hid (∀ W : World, Calls Tryz.prog 15 #[realV xm xe, realV 0 0] W fun r w' => r = .returned (oR (RI ((a - b) * 2 ^ 90) 0)) ∧ Below W.heap.size W w') := Lib.hid (fun W => by
    have h := sub_ok xm xe 0 0 W (Lib.hid (by simp [VX, VY]))
    rw [sub_i VX VY, show UU xm xe - UU 0 0 = (a - b) * 2 ^ 90 from by rw [Int.sub_mul]; omega] at h
    exact h)
  obtain ⟨p, hp⟩ : ∃ p, a + b = p := ⟨_, rfl⟩
  obtain ⟨q, hq⟩ : ∃ q, a - b = q := ⟨_, rfl⟩
  have wp : IntKind.i64.wrap (a + b) = p := by rw [i64_in _ (by omega) (by omega)]; exact hp
  have wq : IntKind.i64.wrap (a - b) = q := by rw [i64_in _ (by omega) (by omega)]; exact hq
  rw [hp] at HAdd
  rw [hq] at HSub
  have p1 : -2305843009213693952 ≤ p := by omega
  have p2 : p ≤ 2305843009213693952 := by omega
  have q1 : -2305843009213693952 ≤ q := by omega
  have q2 : q ≤ 2305843009213693952 := by omega
  obtain ⟨sm, se, s1, s2, s3, s4, s5, s6⟩ := sum_cases p1 p2
  obtain ⟨dm, de, t1, t2, t3, t4, t5, t6⟩ := sum_cases q1 q2
  rw [s1] at HAdd
  rw [t1] at HSub
  rcases s6 with ⟨HSs, s6⟩ | ⟨u, HSs, hu, u1, u2⟩
  · rcases t6 with ⟨HSd, t6⟩ | ⟨v, HSd, hv, v1, v2⟩
    · exact m_nz_ff i j k xm xe 0 0 zm ze a b c sm se dm de 0 0 w HAx HAy HAz HSx HSy HSz HAdd HSub HSan x1 HSs HSd s6 t6
    · exact m_nz_ft i j k xm xe 0 0 zm ze a b c sm se dm de 0 v w HAx HAy HAz HSx HSy HSz HAdd HSub HSan x1 HSs HSd s6
  · rcases t6 with ⟨HSd, t6⟩ | ⟨v, HSd, hv, v1, v2⟩
    · exact m_nz_tf i j k xm xe 0 0 zm ze a b c sm se dm de u 0 w HAx HAy HAz HSx HSy HSz HAdd HSub HSan x1 HSs HSd t6
    · have n1 := near_at p1 p2 VZ UZ s4 s5 hu
      have n2 := near_at q1 q2 VZ UZ t4 t5 hv
      have HD1 := Lib.hid (fun W => dist_any u p W (by omega) (by omega))
      have HD2 := Lib.hid (fun W => dist_any c p W (by omega) (by omega))
      have HD3 := Lib.hid (fun W => dist_any v q W (by omega) (by omega))
      have HD4 := Lib.hid (fun W => dist_any c q W (by omega) (by omega))
      by_cases k1 : c = p
      · obtain ⟨g1, g2⟩ := same_at VZ UZ k1
        rw [g1] at s4
        rw [g2] at s5
        replace s4 := s4.symm
        subst s4
        replace s5 := s5.symm
        subst s5
        by_cases k2 : c = q
        · obtain ⟨g3, g4⟩ := same_at VZ UZ k2
          rw [g3] at t4
          rw [g4] at t5
          replace t4 := t4.symm
          subst t4
          replace t5 := t5.symm
          subst t5
          exact m_nz_ee i j k xm xe 0 0 zm ze a b c 0 0 0 0 u v p q (ab (u - p)) (ab (c - p)) (ab (v - q)) (ab (c - q)) w HAx HAy HAz HSx HSy HSz HAdd HSub HSan x1 HSs HSd wp wq n1 n2 HD1 HD2 HD3 HD4 (by simpa using k1) (by simpa using k2)
        · exact m_nz_en i j k xm xe 0 0 zm ze a b c 0 0 dm de u v p q (ab (u - p)) (ab (c - p)) (ab (v - q)) (ab (c - q)) w HAx HAy HAz HSx HSy HSz HAdd HSub HSan x1 HSs HSd wp wq n1 n2 HD1 HD2 HD3 HD4 (by simpa using k1) (by simpa using k2)
      · by_cases k2 : c = q
        · obtain ⟨g3, g4⟩ := same_at VZ UZ k2
          rw [g3] at t4
          rw [g4] at t5
          replace t4 := t4.symm
          subst t4
          replace t5 := t5.symm
          subst t5
          exact m_nz_ne i j k xm xe 0 0 zm ze a b c sm se 0 0 u v p q (ab (u - p)) (ab (c - p)) (ab (v - q)) (ab (c - q)) w HAx HAy HAz HSx HSy HSz HAdd HSub HSan x1 HSs HSd wp wq n1 n2 HD1 HD2 HD3 HD4 (by simpa using k1) (by simpa using k2)
        · exact m_nz_nn i j k xm xe 0 0 zm ze a b c sm se dm de u v p q (ab (u - p)) (ab (c - p)) (ab (v - q)) (ab (c - q)) w HAx HAy HAz HSx HSy HSz HAdd HSub HSan x1 HSs HSd wp wq n1 n2 HD1 HD2 HD3 HD4 (by simpa using k1) (by simpa using k2)

set_option maxRecDepth 100000 in
set_option maxHeartbeats 1600000 in
theorem fin_zn (i j k ym ye zm ze a b c : Int) (w : World) (y1 : ¬ -24 < ye) 
    (HAx : Hid (∀ W : World, Calls Tryz.prog 8 #[.int .i64 i] W fun r w' => r = .returned (realV 0 0) ∧ Below W.heap.size W w')) (HAy : Hid (∀ W : World, Calls Tryz.prog 8 #[.int .i64 j] W fun r w' => r = .returned (realV ym ye) ∧ Below W.heap.size W w')) (HAz : Hid (∀ W : World, Calls Tryz.prog 8 #[.int .i64 k] W fun r w' => r = .returned (realV zm ze) ∧ Below W.heap.size W w'))
    (HSx : Hid (∀ W : World, Calls Tryz.prog 20 #[realV 0 0] W fun r w' => r = .returned (.tuple #[.int .i64 a, .bool true]) ∧ Below W.heap.size W w')) (HSy : Hid (∀ W : World, Calls Tryz.prog 20 #[realV ym ye] W fun r w' => r = .returned (.tuple #[.int .i64 b, .bool true]) ∧ Below W.heap.size W w')) (HSz : Hid (∀ W : World, Calls Tryz.prog 20 #[realV zm ze] W fun r w' => r = .returned (.tuple #[.int .i64 c, .bool true]) ∧ Below W.heap.size W w')) (HSan : Hid (∀ W, Below w.heap.size w W → Calls Tryz.prog 19 #[] W fun r W' => r = .returned (.bool true) ∧ Below W.heap.size W W')) 
    (VX : vr 0 0 = true) (VY : vr ym ye = true) (VZ : vr zm ze = true) (UX : UU 0 0 = a * 2 ^ 90) (UY : UU ym ye = b * 2 ^ 90) (UZ : UU zm ze = c * 2 ^ 90)
    (a1 : -1152921504606846976 ≤ a) (a2 : a ≤ 1152921504606846976) (b1 : -1152921504606846976 ≤ b) (b2 : b ≤ 1152921504606846976) (c1 : -4611686018427387904 ≤ c) (c2 : c ≤ 4611686018427387904) :
    Calls Tryz.prog 4 #[.int .i64 i, .int .i64 j, .int .i64 k] w fun r w' => r = .returned (.bool true) ∧ Below w.heap.size w w' := by
  have HAdd : Hid (∀ W : World, Calls Tryz.prog 11 #[realV 0 0, realV ym ye] W fun r w' => r = .returned (oR (RI ((a + b) * 2 ^ 90) 0)) ∧ Below W.heap.size W w') := Lib.hid (fun W => by
    have h := add_ok 0 0 ym ye W (Lib.hid (by simp [VX, VY]))
    rw [add_i VX VY, show UU 0 0 + UU ym ye = (a + b) * 2 ^ 90 from by rw [Int.add_mul]; omega] at h
    exact h)
  have HSub : Hid (∀ W : World, Calls Tryz.prog 15 #[realV 0 0, realV ym ye] W fun r w' => r = .returned (oR (RI ((a - b) * 2 ^ 90) 0)) ∧ Below W.heap.size W w') := Lib.hid (fun W => by
    have h := sub_ok 0 0 ym ye W (Lib.hid (by simp [VX, VY]))
    rw [sub_i VX VY, show UU 0 0 - UU ym ye = (a - b) * 2 ^ 90 from by rw [Int.sub_mul]; omega] at h
    exact h)
  obtain ⟨p, hp⟩ : ∃ p, a + b = p := ⟨_, rfl⟩
  obtain ⟨q, hq⟩ : ∃ q, a - b = q := ⟨_, rfl⟩
  have wp : IntKind.i64.wrap (a + b) = p := by rw [i64_in _ (by omega) (by omega)]; exact hp
  have wq : IntKind.i64.wrap (a - b) = q := by rw [i64_in _ (by omega) (by omega)]; exact hq
  rw [hp] at HAdd
  rw [hq] at HSub
  have p1 : -2305843009213693952 ≤ p := by omega
  have p2 : p ≤ 2305843009213693952 := by omega
  have q1 : -2305843009213693952 ≤ q := by omega
  have q2 : q ≤ 2305843009213693952 := by omega
  obtain ⟨sm, se, s1, s2, s3, s4, s5, s6⟩ := sum_cases p1 p2
  obtain ⟨dm, de, t1, t2, t3, t4, t5, t6⟩ := sum_cases q1 q2
  rw [s1] at HAdd
  rw [t1] at HSub
  rcases s6 with ⟨HSs, s6⟩ | ⟨u, HSs, hu, u1, u2⟩
  · rcases t6 with ⟨HSd, t6⟩ | ⟨v, HSd, hv, v1, v2⟩
    · exact m_zn_ff i j k 0 0 ym ye zm ze a b c sm se dm de 0 0 w HAx HAy HAz HSx HSy HSz HAdd HSub HSan y1 HSs HSd s6 t6
    · exact m_zn_ft i j k 0 0 ym ye zm ze a b c sm se dm de 0 v w HAx HAy HAz HSx HSy HSz HAdd HSub HSan y1 HSs HSd s6
  · rcases t6 with ⟨HSd, t6⟩ | ⟨v, HSd, hv, v1, v2⟩
    · exact m_zn_tf i j k 0 0 ym ye zm ze a b c sm se dm de u 0 w HAx HAy HAz HSx HSy HSz HAdd HSub HSan y1 HSs HSd t6
    · have n1 := near_at p1 p2 VZ UZ s4 s5 hu
      have n2 := near_at q1 q2 VZ UZ t4 t5 hv
      have HD1 := Lib.hid (fun W => dist_any u p W (by omega) (by omega))
      have HD2 := Lib.hid (fun W => dist_any c p W (by omega) (by omega))
      have HD3 := Lib.hid (fun W => dist_any v q W (by omega) (by omega))
      have HD4 := Lib.hid (fun W => dist_any c q W (by omega) (by omega))
      by_cases k1 : c = p
      · obtain ⟨g1, g2⟩ := same_at VZ UZ k1
        rw [g1] at s4
        rw [g2] at s5
        replace s4 := s4.symm
        subst s4
        replace s5 := s5.symm
        subst s5
        by_cases k2 : c = q
        · obtain ⟨g3, g4⟩ := same_at VZ UZ k2
          rw [g3] at t4
          rw [g4] at t5
          replace t4 := t4.symm
          subst t4
          replace t5 := t5.symm
          subst t5
          exact m_zn_ee i j k 0 0 ym ye zm ze a b c 0 0 0 0 u v p q (ab (u - p)) (ab (c - p)) (ab (v - q)) (ab (c - q)) w HAx HAy HAz HSx HSy HSz HAdd HSub HSan y1 HSs HSd wp wq n1 n2 HD1 HD2 HD3 HD4 (by simpa using k1) (by simpa using k2)
        · exact m_zn_en i j k 0 0 ym ye zm ze a b c 0 0 dm de u v p q (ab (u - p)) (ab (c - p)) (ab (v - q)) (ab (c - q)) w HAx HAy HAz HSx HSy HSz HAdd HSub HSan y1 HSs HSd wp wq n1 n2 HD1 HD2 HD3 HD4 (by simpa using k1) (by simpa using k2)
      · by_cases k2 : c = q
        · obtain ⟨g3, g4⟩ := same_at VZ UZ k2
          rw [g3] at t4
          rw [g4] at t5
          replace t4 := t4.symm
          subst t4
          replace t5 := t5.symm
          subst t5
          exact m_zn_ne i j k 0 0 ym ye zm ze a b c sm se 0 0 u v p q (ab (u - p)) (ab (c - p)) (ab (v - q)) (ab (c - q)) w HAx HAy HAz HSx HSy HSz HAdd HSub HSan y1 HSs HSd wp wq n1 n2 HD1 HD2 HD3 HD4 (by simpa using k1) (by simpa using k2)
        · exact m_zn_nn i j k 0 0 ym ye zm ze a b c sm se dm de u v p q (ab (u - p)) (ab (c - p)) (ab (v - q)) (ab (c - q)) w HAx HAy HAz HSx HSy HSz HAdd HSub HSan y1 HSs HSd wp wq n1 n2 HD1 HD2 HD3 HD4 (by simpa using k1) (by simpa using k2)

set_option maxRecDepth 100000 in
set_option maxHeartbeats 1600000 in
theorem fin_zz (i j k  zm ze a b c : Int) (w : World) 
    (HAx : Hid (∀ W : World, Calls Tryz.prog 8 #[.int .i64 i] W fun r w' => r = .returned (realV 0 0) ∧ Below W.heap.size W w')) (HAy : Hid (∀ W : World, Calls Tryz.prog 8 #[.int .i64 j] W fun r w' => r = .returned (realV 0 0) ∧ Below W.heap.size W w')) (HAz : Hid (∀ W : World, Calls Tryz.prog 8 #[.int .i64 k] W fun r w' => r = .returned (realV zm ze) ∧ Below W.heap.size W w'))
    (HSx : Hid (∀ W : World, Calls Tryz.prog 20 #[realV 0 0] W fun r w' => r = .returned (.tuple #[.int .i64 a, .bool true]) ∧ Below W.heap.size W w')) (HSy : Hid (∀ W : World, Calls Tryz.prog 20 #[realV 0 0] W fun r w' => r = .returned (.tuple #[.int .i64 b, .bool true]) ∧ Below W.heap.size W w')) (HSz : Hid (∀ W : World, Calls Tryz.prog 20 #[realV zm ze] W fun r w' => r = .returned (.tuple #[.int .i64 c, .bool true]) ∧ Below W.heap.size W w')) (HSan : Hid (∀ W, Below w.heap.size w W → Calls Tryz.prog 19 #[] W fun r W' => r = .returned (.bool true) ∧ Below W.heap.size W W')) 
    (VX : vr 0 0 = true) (VY : vr 0 0 = true) (VZ : vr zm ze = true) (UX : UU 0 0 = a * 2 ^ 90) (UY : UU 0 0 = b * 2 ^ 90) (UZ : UU zm ze = c * 2 ^ 90)
    (a1 : -1152921504606846976 ≤ a) (a2 : a ≤ 1152921504606846976) (b1 : -1152921504606846976 ≤ b) (b2 : b ≤ 1152921504606846976) (c1 : -4611686018427387904 ≤ c) (c2 : c ≤ 4611686018427387904) :
    Calls Tryz.prog 4 #[.int .i64 i, .int .i64 j, .int .i64 k] w fun r w' => r = .returned (.bool true) ∧ Below w.heap.size w w' := by
  have HAdd : Hid (∀ W : World, Calls Tryz.prog 11 #[realV 0 0, realV 0 0] W fun r w' => r = .returned (oR (RI ((a + b) * 2 ^ 90) 0)) ∧ Below W.heap.size W w') := Lib.hid (fun W => by
    have h := add_ok 0 0 0 0 W (Lib.hid (by simp [VX, VY]))
    rw [add_i VX VY, show UU 0 0 + UU 0 0 = (a + b) * 2 ^ 90 from by rw [Int.add_mul]; omega] at h
    exact h)
  have HSub : Hid (∀ W : World, Calls Tryz.prog 15 #[realV 0 0, realV 0 0] W fun r w' => r = .returned (oR (RI ((a - b) * 2 ^ 90) 0)) ∧ Below W.heap.size W w') := Lib.hid (fun W => by
    have h := sub_ok 0 0 0 0 W (Lib.hid (by simp [VX, VY]))
    rw [sub_i VX VY, show UU 0 0 - UU 0 0 = (a - b) * 2 ^ 90 from by rw [Int.sub_mul]; omega] at h
    exact h)
  obtain ⟨p, hp⟩ : ∃ p, a + b = p := ⟨_, rfl⟩
  obtain ⟨q, hq⟩ : ∃ q, a - b = q := ⟨_, rfl⟩
  have wp : IntKind.i64.wrap (a + b) = p := by rw [i64_in _ (by omega) (by omega)]; exact hp
  have wq : IntKind.i64.wrap (a - b) = q := by rw [i64_in _ (by omega) (by omega)]; exact hq
  rw [hp] at HAdd
  rw [hq] at HSub
  have p1 : -2305843009213693952 ≤ p := by omega
  have p2 : p ≤ 2305843009213693952 := by omega
  have q1 : -2305843009213693952 ≤ q := by omega
  have q2 : q ≤ 2305843009213693952 := by omega
  obtain ⟨sm, se, s1, s2, s3, s4, s5, s6⟩ := sum_cases p1 p2
  obtain ⟨dm, de, t1, t2, t3, t4, t5, t6⟩ := sum_cases q1 q2
  rw [s1] at HAdd
  rw [t1] at HSub
  rcases s6 with ⟨HSs, s6⟩ | ⟨u, HSs, hu, u1, u2⟩
  · rcases t6 with ⟨HSd, t6⟩ | ⟨v, HSd, hv, v1, v2⟩
    · exact m_zz_ff i j k 0 0 0 0 zm ze a b c sm se dm de 0 0 w HAx HAy HAz HSx HSy HSz HAdd HSub HSan HSs HSd s6 t6
    · exact m_zz_ft i j k 0 0 0 0 zm ze a b c sm se dm de 0 v w HAx HAy HAz HSx HSy HSz HAdd HSub HSan HSs HSd s6
  · rcases t6 with ⟨HSd, t6⟩ | ⟨v, HSd, hv, v1, v2⟩
    · exact m_zz_tf i j k 0 0 0 0 zm ze a b c sm se dm de u 0 w HAx HAy HAz HSx HSy HSz HAdd HSub HSan HSs HSd t6
    · have n1 := near_at p1 p2 VZ UZ s4 s5 hu
      have n2 := near_at q1 q2 VZ UZ t4 t5 hv
      have HD1 := Lib.hid (fun W => dist_any u p W (by omega) (by omega))
      have HD2 := Lib.hid (fun W => dist_any c p W (by omega) (by omega))
      have HD3 := Lib.hid (fun W => dist_any v q W (by omega) (by omega))
      have HD4 := Lib.hid (fun W => dist_any c q W (by omega) (by omega))
      by_cases k1 : c = p
      · obtain ⟨g1, g2⟩ := same_at VZ UZ k1
        rw [g1] at s4
        rw [g2] at s5
        replace s4 := s4.symm
        subst s4
        replace s5 := s5.symm
        subst s5
        by_cases k2 : c = q
        · obtain ⟨g3, g4⟩ := same_at VZ UZ k2
          rw [g3] at t4
          rw [g4] at t5
          replace t4 := t4.symm
          subst t4
          replace t5 := t5.symm
          subst t5
          exact m_zz_ee i j k 0 0 0 0 zm ze a b c 0 0 0 0 u v p q (ab (u - p)) (ab (c - p)) (ab (v - q)) (ab (c - q)) w HAx HAy HAz HSx HSy HSz HAdd HSub HSan HSs HSd wp wq n1 n2 HD1 HD2 HD3 HD4 (by simpa using k1) (by simpa using k2)
        · exact m_zz_en i j k 0 0 0 0 zm ze a b c 0 0 dm de u v p q (ab (u - p)) (ab (c - p)) (ab (v - q)) (ab (c - q)) w HAx HAy HAz HSx HSy HSz HAdd HSub HSan HSs HSd wp wq n1 n2 HD1 HD2 HD3 HD4 (by simpa using k1) (by simpa using k2)
      · by_cases k2 : c = q
        · obtain ⟨g3, g4⟩ := same_at VZ UZ k2
          rw [g3] at t4
          rw [g4] at t5
          replace t4 := t4.symm
          subst t4
          replace t5 := t5.symm
          subst t5
          exact m_zz_ne i j k 0 0 0 0 zm ze a b c sm se 0 0 u v p q (ab (u - p)) (ab (c - p)) (ab (v - q)) (ab (c - q)) w HAx HAy HAz HSx HSy HSz HAdd HSub HSan HSs HSd wp wq n1 n2 HD1 HD2 HD3 HD4 (by simpa using k1) (by simpa using k2)
        · exact m_zz_nn i j k 0 0 0 0 zm ze a b c sm se dm de u v p q (ab (u - p)) (ab (c - p)) (ab (v - q)) (ab (c - q)) w HAx HAy HAz HSx HSy HSz HAdd HSub HSan HSs HSd wp wq n1 n2 HD1 HD2 HD3 HD4 (by simpa using k1) (by simpa using k2)

set_option maxRecDepth 100000 in
set_option maxHeartbeats 1600000 in
theorem run (i j k : Int) (w : World) (w0 : (Lit.int .i64 i).wf = true) (w1 : (Lit.int .i64 j).wf = true) (w2 : (Lit.int .i64 k).wf = true) (hP : P10 w) (hQ : TabQ w) :
    Calls Tryz.prog 4 #[.int .i64 i, .int .i64 j, .int .i64 k] w fun r w' => r = .returned (.bool true) ∧ Below w.heap.size w w' := by
  have HS := hsan w hP hQ
  obtain ⟨x1, x2⟩ := tm_bd i
  obtain ⟨i', hi⟩ : ∃ n, i.tmod 2533359616 = n := ⟨_, rfl⟩
  rw [hi] at x1 x2
  have HAx : Hid (∀ W : World, Calls Tryz.prog 8 #[.int .i64 i] W fun r w' => r = .returned (realV (aM i') (aE i')) ∧ Below W.heap.size W w') := Lib.hid (fun W => lat_any i i' W hi x1 x2)
  have VX := at_vr x1 x2
  generalize aM i' = xm at HAx VX
  generalize aE i' = xe at HAx VX
  obtain ⟨y1, y2⟩ := tm_bd j
  obtain ⟨j', hj⟩ : ∃ n, j.tmod 2533359616 = n := ⟨_, rfl⟩
  rw [hj] at y1 y2
  have HAy : Hid (∀ W : World, Calls Tryz.prog 8 #[.int .i64 j] W fun r w' => r = .returned (realV (aM j') (aE j')) ∧ Below W.heap.size W w') := Lib.hid (fun W => lat_any j j' W hj y1 y2)
  have VY := at_vr y1 y2
  generalize aM j' = ym at HAy VY
  generalize aE j' = ye at HAy VY
  obtain ⟨z1, z2⟩ := tm_bd k
  obtain ⟨k', hk⟩ : ∃ n, k.tmod 2533359616 = n := ⟨_, rfl⟩
  rw [hk] at z1 z2
  have HAz : Hid (∀ W : World, Calls Tryz.prog 8 #[.int .i64 k] W fun r w' => r = .returned (realV (aM k') (aE k')) ∧ Below W.heap.size W w') := Lib.hid (fun W => lat_any k k' W hk z1 z2)
  have VZ := at_vr z1 z2
  generalize aM k' = zm at HAz VZ
  generalize aE k' = ze at HAz VZ
  have HAdd : Hid (∀ W : World, Calls Tryz.prog 11 #[realV xm xe, realV ym ye] W fun r w' => r = .returned (rE (oM (RI (UU xm xe + UU ym ye) 0)) (oE (RI (UU xm xe + UU ym ye) 0)) (oX (RI (UU xm xe + UU ym ye) 0))) ∧ Below W.heap.size W w') := Lib.hid (fun W => by
    have h := add_ok xm xe ym ye W (Lib.hid (by simp [VX, VY]))
    rwa [add_i VX VY] at h)
  have HSub : Hid (∀ W : World, Calls Tryz.prog 15 #[realV xm xe, realV ym ye] W fun r w' => r = .returned (rE (oM (RI (UU xm xe - UU ym ye) 0)) (oE (RI (UU xm xe - UU ym ye) 0)) (oX (RI (UU xm xe - UU ym ye) 0))) ∧ Below W.heap.size W w') := Lib.hid (fun W => by
    have h := sub_ok xm xe ym ye W (Lib.hid (by simp [VX, VY]))
    rwa [sub_i VX VY] at h)
  have some : ∀ m e, vr m e = true → ∃ (v : Int) (b : Bool), Hid (∀ W : World, Calls Tryz.prog 20 #[realV m e] W fun r w' => r = .returned (.tuple #[.int .i64 v, .bool b]) ∧ Below W.heap.size W w') := fun m e h => by
    rcases sc_cases h with ⟨_, _, k, _⟩ | ⟨_, _, k⟩ | ⟨_, _, k⟩ | ⟨_, _, _, k, _⟩
    · exact ⟨_, _, k⟩
    · exact ⟨_, _, k⟩
    · exact ⟨_, _, k⟩
    · exact ⟨_, _, k⟩
  obtain ⟨yb, yo, HYs⟩ := some ym ye VY
  obtain ⟨zb, zo, HZs⟩ := some zm ze VZ
  rcases sc_cases VX with ⟨hx0, hx1, k1, k2⟩ | ⟨_, _, k1⟩ | ⟨_, _, k1⟩ | ⟨k0, _, _, k1, k2, k3, k4, k5⟩
  · subst hx0
    subst hx1
    rcases sc_cases VY with ⟨hy0, hy1, g1, g2⟩ | ⟨_, _, g1⟩ | ⟨_, _, g1⟩ | ⟨g0, _, _, g1, g2, g3, g4, g5⟩
    · subst hy0
      subst hy1
      rcases sc_cases VZ with ⟨_, _, z1, z2⟩ | ⟨_, _, z1⟩ | ⟨_, _, z1⟩ | ⟨_, _, _, z1, z2, z3, z4, _⟩
      · exact fin_zz i j k zm ze 0 0 0 w HAx HAy HAz k1 g1 z1 HS VX VY VZ k2 g2 z2 (by decide) (by decide) (by decide) (by decide) (by decide) (by decide)
      · exact e3 i j k 0 0 0 0 zm ze 0 0 0 _ _ _ _ _ _ w HAx HAy HAz k1 g1 z1 HAdd HSub HS
      · exact e3 i j k 0 0 0 0 zm ze 0 0 0 _ _ _ _ _ _ w HAx HAy HAz k1 g1 z1 HAdd HSub HS
      · exact fin_zz i j k zm ze 0 0 _ w HAx HAy HAz k1 g1 z1 HS VX VY VZ k2 g2 z2 (by decide) (by decide) (by decide) (by decide) z3 z4
    · exact e2 zo i j k 0 0 ym ye zm ze 0 0 zb _ _ _ _ _ _ w HAx HAy HAz k1 g1 HZs HAdd HSub HS
    · exact e2 zo i j k 0 0 ym ye zm ze 0 0 zb _ _ _ _ _ _ w HAx HAy HAz k1 g1 HZs HAdd HSub HS
    · rcases sc_cases VZ with ⟨_, _, z1, z2⟩ | ⟨_, _, z1⟩ | ⟨_, _, z1⟩ | ⟨_, _, _, z1, z2, z3, z4, _⟩
      · by_cases y9 : -24 < ye
        · exact e6 i j k 0 0 ym ye zm ze 0 _ 0 _ _ _ _ _ _ w HAx HAy HAz k1 g1 z1 HAdd HSub HS y9 (by simpa using g0)
        · exact fin_zn i j k ym ye zm ze 0 _ 0 w y9 HAx HAy HAz k1 g1 z1 HS VX VY VZ k2 g2 z2 (by decide) (by decide) (g5 (by omega)).1 (g5 (by omega)).2 (by decide) (by decide)
      · exact e3 i j k 0 0 ym ye zm ze 0 _ 0 _ _ _ _ _ _ w HAx HAy HAz k1 g1 z1 HAdd HSub HS
      · exact e3 i j k 0 0 ym ye zm ze 0 _ 0 _ _ _ _ _ _ w HAx HAy HAz k1 g1 z1 HAdd HSub HS
      · by_cases y9 : -24 < ye
        · exact e6 i j k 0 0 ym ye zm ze 0 _ _ _ _ _ _ _ _ w HAx HAy HAz k1 g1 z1 HAdd HSub HS y9 (by simpa using g0)
        · exact fin_zn i j k ym ye zm ze 0 _ _ w y9 HAx HAy HAz k1 g1 z1 HS VX VY VZ k2 g2 z2 (by decide) (by decide) (g5 (by omega)).1 (g5 (by omega)).2 z3 z4
  · exact e1 yo zo i j k xm xe ym ye zm ze 0 yb zb _ _ _ _ _ _ w HAx HAy HAz k1 HYs HZs HAdd HSub HS
  · exact e1 yo zo i j k xm xe ym ye zm ze 0 yb zb _ _ _ _ _ _ w HAx HAy HAz k1 HYs HZs HAdd HSub HS
  · rcases sc_cases VY with ⟨hy0, hy1, g1, g2⟩ | ⟨_, _, g1⟩ | ⟨_, _, g1⟩ | ⟨g0, _, _, g1, g2, g3, g4, g5⟩
    · subst hy0
      subst hy1
      rcases sc_cases VZ with ⟨_, _, z1, z2⟩ | ⟨_, _, z1⟩ | ⟨_, _, z1⟩ | ⟨_, _, _, z1, z2, z3, z4, _⟩
      · by_cases x9 : -24 < xe
        · exact e4 i j k xm xe 0 0 zm ze _ 0 0 _ _ _ _ _ _ w HAx HAy HAz k1 g1 z1 HAdd HSub HS x9 (by simpa using k0)
        · exact fin_nz i j k xm xe zm ze _ 0 0 w x9 HAx HAy HAz k1 g1 z1 HS VX VY VZ k2 g2 z2 (k5 (by omega)).1 (k5 (by omega)).2 (by decide) (by decide) (by decide) (by decide)
      · exact e3 i j k xm xe 0 0 zm ze _ 0 0 _ _ _ _ _ _ w HAx HAy HAz k1 g1 z1 HAdd HSub HS
      · exact e3 i j k xm xe 0 0 zm ze _ 0 0 _ _ _ _ _ _ w HAx HAy HAz k1 g1 z1 HAdd HSub HS
      · by_cases x9 : -24 < xe
        · exact e4 i j k xm xe 0 0 zm ze _ 0 _ _ _ _ _ _ _ w HAx HAy HAz k1 g1 z1 HAdd HSub HS x9 (by simpa using k0)
        · exact fin_nz i j k xm xe zm ze _ 0 _ w x9 HAx HAy HAz k1 g1 z1 HS VX VY VZ k2 g2 z2 (k5 (by omega)).1 (k5 (by omega)).2 (by decide) (by decide) z3 z4
    · exact e2 zo i j k xm xe ym ye zm ze _ 0 zb _ _ _ _ _ _ w HAx HAy HAz k1 g1 HZs HAdd HSub HS
    · exact e2 zo i j k xm xe ym ye zm ze _ 0 zb _ _ _ _ _ _ w HAx HAy HAz k1 g1 HZs HAdd HSub HS
    · rcases sc_cases VZ with ⟨_, _, z1, z2⟩ | ⟨_, _, z1⟩ | ⟨_, _, z1⟩ | ⟨_, _, _, z1, z2, z3, z4, _⟩
      · by_cases x9 : -24 < xe
        · exact e4 i j k xm xe ym ye zm ze _ _ 0 _ _ _ _ _ _ w HAx HAy HAz k1 g1 z1 HAdd HSub HS x9 (by simpa using k0)
        · by_cases y9 : -24 < ye
          · exact e5 i j k xm xe ym ye zm ze _ _ 0 _ _ _ _ _ _ w HAx HAy HAz k1 g1 z1 HAdd HSub HS x9 y9 (by simpa using g0)
          · exact fin_nn i j k xm xe ym ye zm ze _ _ 0 w x9 y9 HAx HAy HAz k1 g1 z1 HS VX VY VZ k2 g2 z2 (k5 (by omega)).1 (k5 (by omega)).2 (g5 (by omega)).1 (g5 (by omega)).2 (by decide) (by decide)
      · exact e3 i j k xm xe ym ye zm ze _ _ 0 _ _ _ _ _ _ w HAx HAy HAz k1 g1 z1 HAdd HSub HS
      · exact e3 i j k xm xe ym ye zm ze _ _ 0 _ _ _ _ _ _ w HAx HAy HAz k1 g1 z1 HAdd HSub HS
      · by_cases x9 : -24 < xe
        · exact e4 i j k xm xe ym ye zm ze _ _ _ _ _ _ _ _ _ w HAx HAy HAz k1 g1 z1 HAdd HSub HS x9 (by simpa using k0)
        · by_cases y9 : -24 < ye
          · exact e5 i j k xm xe ym ye zm ze _ _ _ _ _ _ _ _ _ w HAx HAy HAz k1 g1 z1 HAdd HSub HS x9 y9 (by simpa using g0)
          · exact fin_nn i j k xm xe ym ye zm ze _ _ _ w x9 y9 HAx HAy HAz k1 g1 z1 HS VX VY VZ k2 g2 z2 (k5 (by omega)).1 (k5 (by omega)).2 (g5 (by omega)).1 (g5 (by omega)).2 z3 z4

end Go.Proofs.YtoofdihnflnaiaaGreatDoor.realNearest
