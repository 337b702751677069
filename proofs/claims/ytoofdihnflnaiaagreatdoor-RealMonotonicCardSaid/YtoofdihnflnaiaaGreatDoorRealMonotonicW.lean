/-
  RealMonotonic: the ways together.
-/
import Derived.Test.YtoofdihnflnaiaaGreatDoorMonoC

namespace Go.Proofs.YtoofdihnflnaiaaGreatDoor.realMonotonic
open Go.RowKit
set_option linter.unusedVariables false

theorem sqrt_cases {xm xe ym ye : Int} (VX : vr xm xe = true) (VY : vr ym ye = true) (h : UU xm xe ≤ UU ym ye) : ∃ rm re rx qm qe qx : Int, Hid (∀ W : World, Calls Tryz.prog 25 #[realV xm xe] W fun r w' => r = .returned (rE rm re rx) ∧ Below W.heap.size W w') ∧ Hid (∀ W : World, Calls Tryz.prog 25 #[realV ym ye] W fun r w' => r = .returned (rE qm qe qx) ∧ Below W.heap.size W w') ∧ Hid (∀ W : World, Calls Tryz.prog 24 #[realV rm re, .int .i64 rx, realV qm qe, .int .i64 qx] W fun r w' => r = .returned (.bool true) ∧ Below W.heap.size W w') := by
  have ok : ∀ {m e : Int}, vr m e = true → ¬ m < 0 → Hid (∀ W : World, Calls Tryz.prog 25 #[realV m e] W fun r w' => r = .returned (rE (oM (SI (UU m e))) (oE (SI (UU m e))) (oX (SI (UU m e)))) ∧ Below W.heap.size W w') := fun {m e} hv hm => Lib.hid (fun W => by
    have h := sqrt_ok m e W (Lib.hid hv) hm
    rwa [oV_oR, sq_val hv (by omega)] at h)
  by_cases hx : xm < 0
  · have H1 := Lib.hid (fun W => sqrt_neg xm xe W (Lib.hid VX) hx)
    by_cases hy : ym < 0
    · exact ⟨_, _, _, _, _, _, H1, Lib.hid (fun W => sqrt_neg ym ye W (Lib.hid VY) hy), ord_err _ _ _ _ _⟩
    · exact ⟨_, _, _, _, _, _, H1, ok VY hy, ord_err _ _ _ _ _⟩
  · have hy : ¬ ym < 0 := by
      intro hy
      have h1 : UU ym ye < 0 := by
        unfold UU
        exact Int.mul_neg_of_neg_of_pos hy (pow_pos _)
      have h2 : 0 ≤ UU xm xe := by
        unfold UU
        exact Int.mul_nonneg (by omega) (Int.le_of_lt (pow_pos _))
      omega
    exact ⟨_, _, _, _, _, _, ok VX hx, ok VY hy, ord_oR (SI_mono h)⟩

set_option maxRecDepth 100000 in
set_option maxHeartbeats 1600000 in
theorem fin_n (i j k c xm xe ym ye zm ze : Int) (w : World) (HAi : Hid (∀ W : World, Calls Tryz.prog 8 #[.int .i64 i] W fun r w' => r = .returned (realV xm xe) ∧ Below W.heap.size W w')) (HAj : Hid (∀ W : World, Calls Tryz.prog 8 #[.int .i64 j] W fun r w' => r = .returned (realV ym ye) ∧ Below W.heap.size W w')) (HAk : Hid (∀ W : World, Calls Tryz.prog 8 #[.int .i64 k] W fun r w' => r = .returned (realV zm ze) ∧ Below W.heap.size W w')) (HC : Hid (∀ W : World, Calls Tryz.prog 18 #[realV xm xe, realV ym ye] W fun r w' => r = .returned (.tuple #[.int .i64 c, .int .i64 0]) ∧ Below W.heap.size W w')) (hc : ¬ 0 < c)
    (VX : vr xm xe = true) (VY : vr ym ye = true) (VZ : vr zm ze = true) (h : UU xm xe ≤ UU ym ye) (HSan : Hid (∀ W, Below w.heap.size w W → Calls Tryz.prog 19 #[] W fun r W' => r = .returned (.bool true) ∧ Below W.heap.size W W')) :
    Calls Tryz.prog 6 #[.int .i64 i, .int .i64 j, .int .i64 k] w fun r w' => r = .returned (.bool true) ∧ Below w.heap.size w w' := by
  have HA1 : Hid (∀ W : World, Calls Tryz.prog 11 #[realV xm xe, realV zm ze] W fun r w' => r = .returned (rE (oM (RI (UU xm xe + UU zm ze) 0)) (oE (RI (UU xm xe + UU zm ze) 0)) (oX (RI (UU xm xe + UU zm ze) 0))) ∧ Below W.heap.size W w') := Lib.hid (fun W => by
    have h := add_ok xm xe zm ze W (Lib.hid (by simp [VX, VZ]))
    rwa [add_i VX VZ] at h)
  have HA2 : Hid (∀ W : World, Calls Tryz.prog 11 #[realV ym ye, realV zm ze] W fun r w' => r = .returned (rE (oM (RI (UU ym ye + UU zm ze) 0)) (oE (RI (UU ym ye + UU zm ze) 0)) (oX (RI (UU ym ye + UU zm ze) 0))) ∧ Below W.heap.size W w') := Lib.hid (fun W => by
    have h := add_ok ym ye zm ze W (Lib.hid (by simp [VY, VZ]))
    rwa [add_i VY VZ] at h)
  have HS1 : Hid (∀ W : World, Calls Tryz.prog 15 #[realV zm ze, realV ym ye] W fun r w' => r = .returned (rE (oM (RI (UU zm ze - UU ym ye) 0)) (oE (RI (UU zm ze - UU ym ye) 0)) (oX (RI (UU zm ze - UU ym ye) 0))) ∧ Below W.heap.size W w') := Lib.hid (fun W => by
    have h := sub_ok zm ze ym ye W (Lib.hid (by simp [VY, VZ]))
    rwa [sub_i VZ VY] at h)
  have HS2 : Hid (∀ W : World, Calls Tryz.prog 15 #[realV zm ze, realV xm xe] W fun r w' => r = .returned (rE (oM (RI (UU zm ze - UU xm xe) 0)) (oE (RI (UU zm ze - UU xm xe) 0)) (oX (RI (UU zm ze - UU xm xe) 0))) ∧ Below W.heap.size W w') := Lib.hid (fun W => by
    have h := sub_ok zm ze xm xe W (Lib.hid (by simp [VX, VZ]))
    rwa [sub_i VZ VX] at h)
  have HO1 := ord_oR (RI_mono (show UU xm xe + UU zm ze ≤ UU ym ye + UU zm ze by omega) 0)
  have HO2 := ord_oR (RI_mono (show UU zm ze - UU ym ye ≤ UU zm ze - UU xm xe by omega) 0)
  obtain ⟨rm, re, rx, qm, qe, qx, HQ1, HQ2, HO3⟩ := sqrt_cases VX VY h
  by_cases hz : zm ≤ 0
  · exact nn i j k c xm xe ym ye zm ze _ _ _ _ _ _ _ _ _ _ _ _ rm re rx qm qe qx w HAi HAj HAk HC HA1 HA2 HS1 HS2 HO1 HO2 HQ1 HQ2 HO3 hc hz HSan
  · have k0 : zm ≠ 0 := by omega
    have hU : 0 ≤ UU zm ze := by
      unfold UU
      exact Int.mul_nonneg (by omega) (Int.le_of_lt (pow_pos _))
    have hZ : decide (zm = 0 ∧ ze = 0) = false := by simp [k0]
    have HM1 : Hid (∀ W : World, Calls Tryz.prog 13 #[realV xm xe, realV zm ze] W fun r w' => r = .returned (rE (oM (RI (UU xm xe * UU zm ze) 150)) (oE (RI (UU xm xe * UU zm ze) 150)) (oX (RI (UU xm xe * UU zm ze) 150))) ∧ Below W.heap.size W w') := Lib.hid (fun W => by
      have h := mul_ok xm xe zm ze W (Lib.hid (by simp [VX, VZ]))
      rwa [mul_i VX VZ] at h)
    have HM2 : Hid (∀ W : World, Calls Tryz.prog 13 #[realV ym ye, realV zm ze] W fun r w' => r = .returned (rE (oM (RI (UU ym ye * UU zm ze) 150)) (oE (RI (UU ym ye * UU zm ze) 150)) (oX (RI (UU ym ye * UU zm ze) 150))) ∧ Below W.heap.size W w') := Lib.hid (fun W => by
      have h := mul_ok ym ye zm ze W (Lib.hid (by simp [VY, VZ]))
      rwa [mul_i VY VZ] at h)
    have HD1 : Hid (∀ W : World, Calls Tryz.prog 14 #[realV xm xe, realV zm ze] W fun r w' => r = .returned (rE (oM (DI (UU xm xe) zm ze)) (oE (DI (UU xm xe) zm ze)) (oX (DI (UU xm xe) zm ze))) ∧ Below W.heap.size W w') := Lib.hid (fun W => by
      have h := div_ok xm xe zm ze W (Lib.hid (by simp [VX, VZ])) (Lib.hid hZ) k0
      rwa [oV_oR, div_val VX VZ (by omega)] at h)
    have HD2 : Hid (∀ W : World, Calls Tryz.prog 14 #[realV ym ye, realV zm ze] W fun r w' => r = .returned (rE (oM (DI (UU ym ye) zm ze)) (oE (DI (UU ym ye) zm ze)) (oX (DI (UU ym ye) zm ze))) ∧ Below W.heap.size W w') := Lib.hid (fun W => by
      have h := div_ok ym ye zm ze W (Lib.hid (by simp [VY, VZ])) (Lib.hid hZ) k0
      rwa [oV_oR, div_val VY VZ (by omega)] at h)
    have HO4 := ord_oR (RI_mono (Int.mul_le_mul_of_nonneg_right h hU) 150)
    have HO5 := ord_oR (DI_mono h (k := zm) (f := ze) (by omega))
    exact np i j k c xm xe ym ye zm ze _ _ _ _ _ _ _ _ _ _ _ _ rm re rx qm qe qx _ _ _ _ _ _ _ _ _ _ _ _ w HAi HAj HAk HC HA1 HA2 HS1 HS2 HO1 HO2 HQ1 HQ2 HO3 hc hz HM1 HM2 HD1 HD2 HO4 HO5 HSan

set_option maxRecDepth 100000 in
set_option maxHeartbeats 1600000 in
theorem fin_s (i j k c xm xe ym ye zm ze : Int) (w : World) (HAi : Hid (∀ W : World, Calls Tryz.prog 8 #[.int .i64 i] W fun r w' => r = .returned (realV ym ye) ∧ Below W.heap.size W w')) (HAj : Hid (∀ W : World, Calls Tryz.prog 8 #[.int .i64 j] W fun r w' => r = .returned (realV xm xe) ∧ Below W.heap.size W w')) (HAk : Hid (∀ W : World, Calls Tryz.prog 8 #[.int .i64 k] W fun r w' => r = .returned (realV zm ze) ∧ Below W.heap.size W w')) (HC : Hid (∀ W : World, Calls Tryz.prog 18 #[realV ym ye, realV xm xe] W fun r w' => r = .returned (.tuple #[.int .i64 c, .int .i64 0]) ∧ Below W.heap.size W w')) (hc : 0 < c)
    (VX : vr xm xe = true) (VY : vr ym ye = true) (VZ : vr zm ze = true) (h : UU xm xe ≤ UU ym ye) (HSan : Hid (∀ W, Below w.heap.size w W → Calls Tryz.prog 19 #[] W fun r W' => r = .returned (.bool true) ∧ Below W.heap.size W W')) :
    Calls Tryz.prog 6 #[.int .i64 i, .int .i64 j, .int .i64 k] w fun r w' => r = .returned (.bool true) ∧ Below w.heap.size w w' := by
  have HA1 : Hid (∀ W : World, Calls Tryz.prog 11 #[realV xm xe, realV zm ze] W fun r w' => r = .returned (rE (oM (RI (UU xm xe + UU zm ze) 0)) (oE (RI (UU xm xe + UU zm ze) 0)) (oX (RI (UU xm xe + UU zm ze) 0))) ∧ Below W.heap.size W w') := Lib.hid (fun W => by
    have h := add_ok xm xe zm ze W (Lib.hid (by simp [VX, VZ]))
    rwa [add_i VX VZ] at h)
  have HA2 : Hid (∀ W : World, Calls Tryz.prog 11 #[realV ym ye, realV zm ze] W fun r w' => r = .returned (rE (oM (RI (UU ym ye + UU zm ze) 0)) (oE (RI (UU ym ye + UU zm ze) 0)) (oX (RI (UU ym ye + UU zm ze) 0))) ∧ Below W.heap.size W w') := Lib.hid (fun W => by
    have h := add_ok ym ye zm ze W (Lib.hid (by simp [VY, VZ]))
    rwa [add_i VY VZ] at h)
  have HS1 : Hid (∀ W : World, Calls Tryz.prog 15 #[realV zm ze, realV ym ye] W fun r w' => r = .returned (rE (oM (RI (UU zm ze - UU ym ye) 0)) (oE (RI (UU zm ze - UU ym ye) 0)) (oX (RI (UU zm ze - UU ym ye) 0))) ∧ Below W.heap.size W w') := Lib.hid (fun W => by
    have h := sub_ok zm ze ym ye W (Lib.hid (by simp [VY, VZ]))
    rwa [sub_i VZ VY] at h)
  have HS2 : Hid (∀ W : World, Calls Tryz.prog 15 #[realV zm ze, realV xm xe] W fun r w' => r = .returned (rE (oM (RI (UU zm ze - UU xm xe) 0)) (oE (RI (UU zm ze - UU xm xe) 0)) (oX (RI (UU zm ze - UU xm xe) 0))) ∧ Below W.heap.size W w') := Lib.hid (fun W => by
    have h := sub_ok zm ze xm xe W (Lib.hid (by simp [VX, VZ]))
    rwa [sub_i VZ VX] at h)
  have HO1 := ord_oR (RI_mono (show UU xm xe + UU zm ze ≤ UU ym ye + UU zm ze by omega) 0)
  have HO2 := ord_oR (RI_mono (show UU zm ze - UU ym ye ≤ UU zm ze - UU xm xe by omega) 0)
  obtain ⟨rm, re, rx, qm, qe, qx, HQ1, HQ2, HO3⟩ := sqrt_cases VX VY h
  by_cases hz : zm ≤ 0
  · exact sn i j k c xm xe ym ye zm ze _ _ _ _ _ _ _ _ _ _ _ _ rm re rx qm qe qx w HAi HAj HAk HC HA1 HA2 HS1 HS2 HO1 HO2 HQ1 HQ2 HO3 hc hz HSan
  · have k0 : zm ≠ 0 := by omega
    have hU : 0 ≤ UU zm ze := by
      unfold UU
      exact Int.mul_nonneg (by omega) (Int.le_of_lt (pow_pos _))
    have hZ : decide (zm = 0 ∧ ze = 0) = false := by simp [k0]
    have HM1 : Hid (∀ W : World, Calls Tryz.prog 13 #[realV xm xe, realV zm ze] W fun r w' => r = .returned (rE (oM (RI (UU xm xe * UU zm ze) 150)) (oE (RI (UU xm xe * UU zm ze) 150)) (oX (RI (UU xm xe * UU zm ze) 150))) ∧ Below W.heap.size W w') := Lib.hid (fun W => by
      have h := mul_ok xm xe zm ze W (Lib.hid (by simp [VX, VZ]))
      rwa [mul_i VX VZ] at h)
    have HM2 : Hid (∀ W : World, Calls Tryz.prog 13 #[realV ym ye, realV zm ze] W fun r w' => r = .returned (rE (oM (RI (UU ym ye * UU zm ze) 150)) (oE (RI (UU ym ye * UU zm ze) 150)) (oX (RI (UU ym ye * UU zm ze) 150))) ∧ Below W.heap.size W w') := Lib.hid (fun W => by
      have h := mul_ok ym ye zm ze W (Lib.hid (by simp [VY, VZ]))
      rwa [mul_i VY VZ] at h)
    have HD1 : Hid (∀ W : World, Calls Tryz.prog 14 #[realV xm xe, realV zm ze] W fun r w' => r = .returned (rE (oM (DI (UU xm xe) zm ze)) (oE (DI (UU xm xe) zm ze)) (oX (DI (UU xm xe) zm ze))) ∧ Below W.heap.size W w') := Lib.hid (fun W => by
      have h := div_ok xm xe zm ze W (Lib.hid (by simp [VX, VZ])) (Lib.hid hZ) k0
      rwa [oV_oR, div_val VX VZ (by omega)] at h)
    have HD2 : Hid (∀ W : World, Calls Tryz.prog 14 #[realV ym ye, realV zm ze] W fun r w' => r = .returned (rE (oM (DI (UU ym ye) zm ze)) (oE (DI (UU ym ye) zm ze)) (oX (DI (UU ym ye) zm ze))) ∧ Below W.heap.size W w') := Lib.hid (fun W => by
      have h := div_ok ym ye zm ze W (Lib.hid (by simp [VY, VZ])) (Lib.hid hZ) k0
      rwa [oV_oR, div_val VY VZ (by omega)] at h)
    have HO4 := ord_oR (RI_mono (Int.mul_le_mul_of_nonneg_right h hU) 150)
    have HO5 := ord_oR (DI_mono h (k := zm) (f := ze) (by omega))
    exact sp i j k c xm xe ym ye zm ze _ _ _ _ _ _ _ _ _ _ _ _ rm re rx qm qe qx _ _ _ _ _ _ _ _ _ _ _ _ w HAi HAj HAk HC HA1 HA2 HS1 HS2 HO1 HO2 HQ1 HQ2 HO3 hc hz HM1 HM2 HD1 HD2 HO4 HO5 HSan

set_option maxRecDepth 100000 in
set_option maxHeartbeats 1600000 in
theorem run (i j k : Int) (w : World) (w0 : (Lit.int .i64 i).wf = true) (w1 : (Lit.int .i64 j).wf = true) (w2 : (Lit.int .i64 k).wf = true) (hP : P10 w) (hQ : TabQ w) :
    Calls Tryz.prog 6 #[.int .i64 i, .int .i64 j, .int .i64 k] w fun r w' => r = .returned (.bool true) ∧ Below w.heap.size w w' := by
  have HS := hsan w hP hQ
  obtain ⟨x1, x2⟩ := tm_bd i
  obtain ⟨i', hi⟩ : ∃ n, i.tmod 2533359616 = n := ⟨_, rfl⟩
  rw [hi] at x1 x2
  have HAx : Hid (∀ W : World, Calls Tryz.prog 8 #[.int .i64 i] W fun r w' => r = .returned (realV (aM i') (aE i')) ∧ Below W.heap.size W w') := Lib.hid (fun W => lat_any i i' W hi x1 x2)
  have VX := at_vr x1 x2
  generalize aM i' = xm at HAx VX
  generalize aE i' = xe at HAx VX
  obtain ⟨y1, y2⟩ := tm_bd j
  obtain ⟨j', hj⟩ : ∃ n, j.tmod 2533359616 = n := ⟨_, rfl⟩
  rw [hj] at y1 y2
  have HAy : Hid (∀ W : World, Calls Tryz.prog 8 #[.int .i64 j] W fun r w' => r = .returned (realV (aM j') (aE j')) ∧ Below W.heap.size W w') := Lib.hid (fun W => lat_any j j' W hj y1 y2)
  have VY := at_vr y1 y2
  generalize aM j' = ym at HAy VY
  generalize aE j' = ye at HAy VY
  obtain ⟨z1, z2⟩ := tm_bd k
  obtain ⟨k', hk⟩ : ∃ n, k.tmod 2533359616 = n := ⟨_, rfl⟩
  rw [hk] at z1 z2
  have HAz : Hid (∀ W : World, Calls Tryz.prog 8 #[.int .i64 k] W fun r w' => r = .returned (realV (aM k') (aE k')) ∧ Below W.heap.size W w') := Lib.hid (fun W => lat_any k k' W hk z1 z2)
  have VZ := at_vr z1 z2
  generalize aM k' = zm at HAz VZ
  generalize aE k' = ze at HAz VZ
  have HC : Hid (∀ W : World, Calls Tryz.prog 18 #[realV xm xe, realV ym ye] W fun r w' => r = .returned (.tuple #[.int .i64 (c3 (ix xm xe) (ix ym ye)), .int .i64 0]) ∧ Below W.heap.size W w') := Lib.hid (fun W => rcmp_ok xm xe ym ye W VX VY)
  by_cases hc : 0 < c3 (ix xm xe) (ix ym ye)
  · have h1 : ix ym ye ≤ ix xm xe := by unfold c3 at hc; split at hc <;> (try split at hc) <;> omega
    exact fin_s i j k _ ym ye xm xe zm ze w HAx HAy HAz HC hc VY VX VZ ((UU_le VY VX).1 h1) HS
  · have h1 : ix xm xe ≤ ix ym ye := by unfold c3 at hc; split at hc <;> (try split at hc) <;> omega
    exact fin_n i j k _ xm xe ym ye zm ze w HAx HAy HAz HC hc VX VY VZ ((UU_le VX VY).1 h1) HS

end Go.Proofs.YtoofdihnflnaiaaGreatDoor.realMonotonic
