/-
  RealExact: the ways together.
-/
import Derived.Test.YtoofdihnflnaiaaGreatDoorExactC

namespace Go.Proofs.YtoofdihnflnaiaaGreatDoor.realExact
open Go.RowKit
set_option linter.unusedVariables false

theorem pow_any (t : Int) (h1 : -100 ≤ t) (h2 : t ≤ 100) : Hid (∀ W : World, Calls Tryz.prog 23 #[realV 8388608 (-22), .int .i64 t] W fun r w' => r = .returned (rE 8388608 (t - 23) 0) ∧ Below W.heap.size W w') := Lib.hid (fun W => by
  have hv := two_vr (t := t) (by omega) (by omega)
  have ho := o_ix hv
  by_cases ht : 0 ≤ t
  · obtain ⟨n, rfl⟩ := Int.eq_ofNat_of_zero_le ht
    have h := pow_up n (by omega) W
    rw [oV_oR, rI_ix hv, oR, ho.1, ho.2.1, ho.2.2] at h
    exact h
  · obtain ⟨n, hn⟩ := Int.eq_ofNat_of_zero_le (show 0 ≤ -t by omega)
    have h := pow_dn n t (by omega) (by omega) (by omega) W
    have hw := two_vr (t := (n : Int)) (by omega) (by omega)
    have h1v := two_vr (t := 0) (by decide) (by decide)
    have hx : rI (quM 8388608 8388608) (quE 8388608 (0 - 23) ((n : Int) - 23)) = ix 8388608 (t - 23) := div_exact h1v hw hv (by decide) (by
      rw [two_UU (by decide), two_UU (by omega), two_UU (by omega), ← Int.pow_add, ← Int.pow_add]
      congr 1
      omega)
    rw [oV_oR, show (-23 : Int) = 0 - 23 from rfl, hx, oR, ho.1, ho.2.1, ho.2.2] at h
    exact h)

theorem fi_any {M : Int} (h1 : -16777216 ≤ M) (h2 : M ≤ 16777216) : ∃ a b, vr a b = true ∧ UU a b = M * 2 ^ 150 ∧ Hid (∀ W : World, Calls Tryz.prog 9 #[.int .i64 M] W fun r w' => r = .returned (realV a b) ∧ Below W.heap.size W w') := by
  obtain ⟨k, f, hkv, hku, hk1, hk2⟩ := fi_is M h1 h2
  exact ⟨k, f, hkv, hku, Lib.hid (fun W => by have h := fromInt_any M W (by omega) (by omega); rwa [hk1, hk2] at h)⟩

/-- a product whose exact value is a real -/
theorem mul_ex {m e k f n g : Int} (h1 : vr m e = true) (h2 : vr k f = true) (h3 : vr n g = true) (h : UU m e * UU k f = UU n g * 2 ^ 150) : Hid (∀ W : World, Calls Tryz.prog 13 #[realV m e, realV k f] W fun r w' => r = .returned (rE n g 0) ∧ Below W.heap.size W w') := Lib.hid (fun W => by
  have hm := mul_ok m e k f W (Lib.hid (by simp [h1, h2]))
  have ho := o_ix h3
  have hs := RI_scale (UU n g) 0 150
  rw [Nat.zero_add] at hs
  rw [mul_i h1 h2, h, hs, ← ix_val h3, oR, ho.1, ho.2.1, ho.2.2] at hm
  exact hm)

theorem small_any (m0 e0 M E : Int) (hM : m0.tmod 4096 = M) (hE : e0.tmod 21 = E) : ∃ xm xe, vr xm xe = true ∧ UU xm xe = M * 2 ^ (E + 150).toNat ∧ -4096 < M ∧ M < 4096 ∧ -21 < E ∧ E < 21 ∧ Hid (∀ W : World, Calls Tryz.prog 22 #[.int .i64 m0, .int .i64 e0] W fun r w' => r = .returned (realV xm xe) ∧ Below W.heap.size W w') := by
  have b1 := tmod_bd m0 (n := 4096) (by decide)
  have b2 := tmod_bd e0 (n := 21) (by decide)
  rw [hM] at b1
  rw [hE] at b2
  obtain ⟨a, b, v1, u1, HF⟩ := fi_any (M := M) (by omega) (by omega)
  obtain ⟨xm, xe, v2, u2⟩ := rep_sc (M := M) (by omega) (by omega) (E + 150).toNat (by omega)
  have hv := two_vr (t := E) (by omega) (by omega)
  have HM1 := mul_ex v1 hv v2 (by
    rw [u1, u2, two_UU (by omega), Int.mul_assoc, Int.mul_assoc, Int.mul_comm (2 ^ 150)])
  exact ⟨xm, xe, v2, u2, b1.1, b1.2, b2.1, b2.2, Lib.hid (fun W => small_walk m0 e0 M E a b _ _ _ xm xe _ W hM hE HF (Lib.hid two_is) (pow_any E (by omega) (by omega)) HM1)⟩

theorem run (m0 e0 n0 f0 : Int) (w : World) (w0 : (Lit.int .i64 m0).wf = true) (w1 : (Lit.int .i64 e0).wf = true) (w2 : (Lit.int .i64 n0).wf = true) (w3 : (Lit.int .i64 f0).wf = true) (hP : P10 w) (hQ : TabQ w) :
    Calls Tryz.prog 5 #[.int .i64 m0, .int .i64 e0, .int .i64 n0, .int .i64 f0] w fun r w' => r = .returned (.bool true) ∧ Below w.heap.size w w' := by
  have HS := hsan w hP hQ
  obtain ⟨M, hM⟩ : ∃ M, m0.tmod 4096 = M := ⟨_, rfl⟩
  obtain ⟨E, hE⟩ : ∃ E, e0.tmod 21 = E := ⟨_, rfl⟩
  obtain ⟨Nn, hN⟩ : ∃ Nn, n0.tmod 4096 = Nn := ⟨_, rfl⟩
  obtain ⟨G, hG⟩ : ∃ G, f0.tmod 21 = G := ⟨_, rfl⟩
  obtain ⟨xm, xe, vx, ux, m1, m2, e1, e2, HX⟩ := small_any m0 e0 M E hM hE
  obtain ⟨ym, ye, vy, uy, n1, n2, g1, g2, HY⟩ := small_any n0 f0 Nn G hN hG
  have hb : -16769025 ≤ M * Nn ∧ M * Nn ≤ 16769025 := by
    have a1 : (M * Nn).natAbs = M.natAbs * Nn.natAbs := Int.natAbs_mul _ _
    have a2 : M.natAbs * Nn.natAbs ≤ 4095 * 4095 := Nat.mul_le_mul (by omega) (by omega)
    omega
  obtain ⟨MN, hMNe⟩ : ∃ MN, M * Nn = MN := ⟨_, rfl⟩
  rw [hMNe] at hb
  obtain ⟨pm, pe, vp, up⟩ := rep_sc (M := MN) (by omega) (by omega) (E + G + 150).toNat (by omega)
  obtain ⟨a, b, va, ua, HF2⟩ := fi_any (M := MN) (by omega) (by omega)
  have vw := two_vr (t := E + G) (by omega) (by omega)
  have ht : IntKind.i64.wrap (e0.tmod 21 + f0.tmod 21) = E + G := by rw [hE, hG]; exact i64_in _ (by omega) (by omega)
  have hMN : IntKind.i64.wrap (m0.tmod 4096 * n0.tmod 4096) = MN := by rw [hM, hN, hMNe]; exact i64_in _ (by omega) (by omega)
  have pp : (2 : Int) ^ (E + 150).toNat * 2 ^ (G + 150).toNat = 2 ^ (E + G + 150).toNat * 2 ^ 150 := by
    rw [← Int.pow_add, ← Int.pow_add]
    congr 1
    omega
  have hxy : UU xm xe * UU ym ye = UU pm pe * 2 ^ 150 := by
    rw [ux, uy, up, ← hMNe, Int.mul_assoc (M * Nn), ← pp]
    generalize (2 : Int) ^ (E + 150).toNat = p
    generalize (2 : Int) ^ (G + 150).toNat = q
    rw [Int.mul_assoc, Int.mul_left_comm p, ← Int.mul_assoc]
  have HM1 := mul_ex vx vy vp hxy
  have HM2 := mul_ex va vw vp (by rw [ua, up, two_UU (by omega), Int.mul_assoc, Int.mul_assoc, Int.mul_comm (2 ^ 150)])
  have HPW := pow_any (E + G) (by omega) (by omega)
  by_cases hz : Nn = 0
  · have hp0 : UU pm pe = 0 := by rw [up, ← hMNe, hz, Int.mul_zero, Int.zero_mul]
    obtain ⟨h1, h2⟩ := UU_inj vp (by decide : vr 0 0 = true) (by rw [hp0, UU_zero])
    rw [h1, h2] at HM1 HM2
    exact ez m0 e0 n0 f0 M Nn (E + G) MN xm xe ym ye _ _ a b w ht hMN (by rw [hN, hz]; rfl) HX HY HM1 (Lib.hid two_is) HPW HF2 HM2 HS
  · have y0 : ym ≠ 0 := by
      intro h0
      rw [h0, UU_zero] at uy
      rcases Int.mul_eq_zero.1 uy.symm with g | g
      · exact hz g
      · have := pow_pos (G + 150).toNat
        omega
    have HD : Hid (∀ W : World, Calls Tryz.prog 14 #[realV pm pe, realV ym ye] W fun r w' => r = .returned (rE xm xe 0) ∧ Below W.heap.size W w') := Lib.hid (fun W => by
      have h := div_ok pm pe ym ye W (Lib.hid (by simp [vp, vy])) (Lib.hid (by simp [y0])) y0
      have ho := o_ix vx
      rw [oV_oR, div_exact vp vy vx y0 hxy.symm, oR, ho.1, ho.2.1, ho.2.2] at h
      exact h)
    exact en m0 e0 n0 f0 M Nn (E + G) MN xm xe ym ye _ _ a b pm pe w ht hMN (by rw [hN]; simpa using hz) HX HY HM1 (Lib.hid two_is) HPW HF2 HM2 HD HS

end Go.Proofs.YtoofdihnflnaiaaGreatDoor.realExact
