/-
  RealIntegerLaws: all ways together.
-/
import Derived.Test.YtdhcahidpiiplaaGreatDoorIntL

namespace Go.Proofs.YtdhcahidpiiplaaGreatDoor.realIntegerLaws
open Go.RowKit
set_option linter.unusedVariables false

theorem tm24 (a : Int) : -16777216 ≤ a.tmod 16777217 ∧ a.tmod 16777217 ≤ 16777216 := by
  rcases Int.le_total 0 a with h | h
  · have h1 := Int.tmod_nonneg (a := a) 16777217 h
    have h2 := Int.tmod_lt_of_pos a (b := 16777217) (by decide)
    omega
  · have h1 := Int.tmod_nonneg (a := -a) 16777217 (by omega)
    have h2 := Int.tmod_lt_of_pos (-a) (b := 16777217) (by decide)
    rw [Int.neg_tmod] at h1 h2
    omega

theorem nE {n : Int} (h : inR n = true) : nI n = n ∧ eI n = 0 := by
  unfold nI eI
  rw [h]
  exact ⟨rfl, rfl⟩

theorem nO {n : Int} (h : inR n = false) : nI n = 0 ∧ eI n = 3 := by
  unfold nI eI
  rw [h]
  exact ⟨rfl, rfl⟩

theorem in_24 {n : Int} (h1 : -16777216 ≤ n) (h2 : n ≤ 16777216) : inR n = true := decide_eq_true (by omega)

theorem c3_np {a b : Int} (h : a ≤ b) : ¬ 0 < c3 a b := by
  rcases Int.lt_or_eq_of_le h with h | h
  · rw [c3_lt h]; decide
  · rw [c3_eq h]; decide

theorem half_ix : ix 8388608 (-24) = RI (2 ^ 149) 0 := by rw [ix_val half_vr, half_UU]

theorem half_lt {r : Int} (h : Rep r) (hr : r < 2 ^ 149) : RI r 0 < RI (2 ^ 149) 0 := by
  obtain ⟨m, e, hv, rfl⟩ := h
  rw [← half_ix, ← ix_val hv]
  exact (UU_lt hv half_vr).2 (by rw [half_UU]; exact hr)

set_option maxRecDepth 100000 in
set_option maxHeartbeats 1600000 in
theorem run (i0 n0 : Int) (w : World) (w0 : (Lit.int .i64 i0).wf = true) (w1 : (Lit.int .i64 n0).wf = true) (hP : P10 w) (hQ : TabQ w) :
    Calls Tryz.prog 4 #[.int .i64 i0, .int .i64 n0] w fun r w' => r = .returned (.bool true) ∧ Below w.heap.size w w' := by
  have HS := hsan w hP hQ
  obtain ⟨j1, j2⟩ := tm_bd i0
  obtain ⟨n1, n2⟩ := tm24 n0
  obtain ⟨n, hn⟩ : ∃ n, n0.tmod 16777217 = n := ⟨_, rfl⟩
  obtain ⟨j, hj⟩ : ∃ j, i0.tmod 2533359616 = j := ⟨_, rfl⟩
  rw [hn] at n1 n2
  rw [hj] at j1 j2
  obtain ⟨k, f, hkv, hku, hk1, hk2⟩ := fi_is n n1 n2
  have HF1 : Hid (∀ W : World, Calls Tryz.prog 19 #[.int .i64 n] W fun r w' => r = .returned (realV k f) ∧ Below W.heap.size W w') := Lib.hid (fun W => by have h := fromInt_any n W (by omega) (by omega); rwa [hk1, hk2] at h)
  have hen : nI (ent k f) = n ∧ eI (ent k f) = 0 := by rw [ent_fi n1 n2 hkv hku]; exact nE (in_24 n1 n2)
  have HE1 : Hid (∀ W : World, Calls Tryz.prog 18 #[realV k f] W fun r w' => r = .returned (iE n 0) ∧ Below W.heap.size W w') := Lib.hid (fun W => by have h := entier_ok k f W (Lib.hid hkv); rwa [show oI (ent k f) = iE n 0 from by show iE (nI (ent k f)) (eI (ent k f)) = iE n 0; rw [hen.1, hen.2]] at h)
  have HA : Hid (∀ W : World, Calls Tryz.prog 12 #[.int .i64 i0] W fun r w' => r = .returned (realV (aM j) (aE j)) ∧ Below W.heap.size W w') := Lib.hid (fun W => lat_all i0 j W hj j1 j2)
  have VX := at_vr j1 j2
  generalize aM j = m at HA VX
  generalize aE j = e at HA VX
  have VN : vr (-m) e = true := by rw [vr_neg]; exact VX
  have HE : Hid (∀ W : World, Calls Tryz.prog 18 #[realV m e] W fun r w' => r = .returned (iE (nI (ent m e)) (eI (ent m e))) ∧ Below W.heap.size W w') := Lib.hid (fun W => entier_ok m e W (Lib.hid VX))
  have HR : Hid (∀ W : World, Calls Tryz.prog 20 #[realV m e] W fun r w' => r = .returned (iE (nI (rnd m e)) (eI (rnd m e))) ∧ Below W.heap.size W w') := Lib.hid (fun W => round_ok m e W (Lib.hid VX))
  have HN : Hid (∀ W : World, Calls Tryz.prog 21 #[realV m e] W fun r w' => r = .returned (rE (-m) e 0) ∧ Below W.heap.size W w') := Lib.hid (fun W => neg_ok m e W (Lib.hid VX))
  have HC : Hid (∀ W : World, Calls Tryz.prog 20 #[realV (-m) e] W fun r w' => r = .returned (iE (nI (rnd (-m) e)) (eI (rnd (-m) e))) ∧ Below W.heap.size W w') := Lib.hid (fun W => round_ok (-m) e W (Lib.hid VN))
  cases hp : inR (ent m e)
  · obtain ⟨p1, p2⟩ := nO hp
    rw [p1, p2] at HE
    cases hs : inR (rnd m e)
    · obtain ⟨s1, s2⟩ := nO hs
      rw [s1, s2] at HR
      exact eC n0 i0 n k f m e (-m) _ _ _ _ w hn HF1 HE1 HA HE HR HN HC HS
    · obtain ⟨s1, s2⟩ := nE hs
      rw [s1, s2] at HR
      exact eA n0 i0 n k f m e (-m) _ _ _ _ w hn HF1 HE1 HA HE HR HN HC HS
  · obtain ⟨p1, p2⟩ := nE hp
    rw [p1, p2] at HE
    cases hs : inR (rnd m e)
    · obtain ⟨s1, s2⟩ := nO hs
      rw [s1, s2] at HR
      exact eB n0 i0 n k f m e (-m) _ _ _ _ w hn HF1 HE1 HA HE HR HN HC HS
    · obtain ⟨s1, s2⟩ := nE hs
      rw [s1, s2] at HR
      have he := big_e VX hp
      have hp' := of_decide_eq_true hp
      have e0 : (2 : Int) ^ 150 = 2 * 2 ^ 149 := by rw [show (150 : Nat) = 149 + 1 from rfl, Int.pow_succ, Int.mul_comm]
      obtain ⟨a, r, hU, r0, rP, ha, hrr⟩ := parts (UU m e) (2 ^ 150) (2 ^ 149) e0 (pow_pos _)
      have ea : ent m e = a := by rw [ent_UU VX he, ha]
      have es := rnd_UU VX he
      have eu := rnd_UU VN he
      rw [UU_neg] at eu
      rw [ea] at HE hp'
      have hw : wrap64 (a + 1) = a + 1 := wrap_in _ (by omega) (by omega)
      have hw2 : IntKind.i64.wrap (a + 1) = a + 1 := i64_in _ (by omega) (by omega)
      by_cases hr : a < -8388608 ∨ 8388608 ≤ a
      · have fin : ∀ s, rnd m e = s → (s = a ∨ s = a + 1) → Calls Tryz.prog 4 #[.int .i64 i0, .int .i64 n0] w fun r w' => r = .returned (.bool true) ∧ Below w.heap.size w w' := fun s hs1 hs2 => by
          rw [hs1] at HR
          cases hu : inR (rnd (-m) e)
          · obtain ⟨u1, u2⟩ := nO hu
            rw [u1, u2] at HC
            rcases hs2 with rfl | rfl
            · rcases hr with hr | hr
              · exact o_al3 n0 i0 n k f m e (-m) _ 0 _ w hn HF1 HE1 HA HE HR HN HC HS hr
              · exact o_ah3 n0 i0 n k f m e (-m) _ 0 _ w hn HF1 HE1 HA HE HR HN HC HS (decide_eq_false (by omega)) hr
            · rcases hr with hr | hr
              · exact o_bl3 n0 i0 n k f m e (-m) _ _ _ w hn HF1 HE1 HA HE HR HN HC HS (by omega) (bne_iff_ne.2 (by omega)) (by rw [hw]; exact bne_self_eq_false _) hr
              · exact o_bh3 n0 i0 n k f m e (-m) _ _ _ w hn HF1 HE1 HA HE HR HN HC HS (by omega) (bne_iff_ne.2 (by omega)) (by rw [hw]; exact bne_self_eq_false _) (decide_eq_false (by omega)) hr
          · obtain ⟨u1, u2⟩ := nE hu
            rw [u1, u2] at HC
            rcases hs2 with rfl | rfl
            · rcases hr with hr | hr
              · exact o_al0 n0 i0 n k f m e (-m) _ 0 _ w hn HF1 HE1 HA HE HR HN HC HS hr
              · exact o_ah0 n0 i0 n k f m e (-m) _ 0 _ w hn HF1 HE1 HA HE HR HN HC HS (decide_eq_false (by omega)) hr
            · rcases hr with hr | hr
              · exact o_bl0 n0 i0 n k f m e (-m) _ _ _ w hn HF1 HE1 HA HE HR HN HC HS (by omega) (bne_iff_ne.2 (by omega)) (by rw [hw]; exact bne_self_eq_false _) hr
              · exact o_bh0 n0 i0 n k f m e (-m) _ _ _ w hn HF1 HE1 HA HE HR HN HC HS (by omega) (bne_iff_ne.2 (by omega)) (by rw [hw]; exact bne_self_eq_false _) (decide_eq_false (by omega)) hr
        rcases hrr with ⟨_, h1, _⟩ | ⟨_, h1, _⟩ | ⟨_, h1, _⟩
        · exact fin a (by rw [es, h1]) (Or.inl rfl)
        · exact fin (a + 1) (by rw [es, h1]) (Or.inr rfl)
        · exact fin (a + 1) (by rw [es, h1]) (Or.inr rfl)
      · obtain ⟨k2, f2, v2, u2, q1, q2⟩ := fi_is a (by omega) (by omega)
        obtain ⟨k3, f3, v3, u3, q3, q4⟩ := fi_is (a + 1) (by omega) (by omega)
        have HF2 : Hid (∀ W : World, Calls Tryz.prog 19 #[.int .i64 a] W fun r w' => r = .returned (realV k2 f2) ∧ Below W.heap.size W w') := Lib.hid (fun W => by have h := fromInt_any a W (by omega) (by omega); rwa [q1, q2] at h)
        have HF3 : Hid (∀ W : World, Calls Tryz.prog 19 #[.int .i64 (a + 1)] W fun r w' => r = .returned (realV k3 f3) ∧ Below W.heap.size W w') := Lib.hid (fun W => by have h := fromInt_any (a + 1) W (by omega) (by omega); rwa [q3, q4] at h)
        have lL : ix k2 f2 ≤ ix m e := (UU_le v2 VX).2 (by rw [u2]; omega)
        have hlo : decide (0 < c3 (ix k2 f2) (ix m e)) = false := decide_eq_false (c3_np lL)
        have HL : Hid (∀ W : World, Calls Tryz.prog 14 #[realV k2 f2, realV m e] W fun r w' => r = .returned (iE (c3 (ix k2 f2) (ix m e)) 0) ∧ Below W.heap.size W w') := Lib.hid (fun W => rcmp_ok k2 f2 m e W v2 VX)
        have lH : ix m e < ix k3 f3 := (UU_lt VX v3).2 (by rw [u3, Int.add_mul, Int.one_mul]; omega)
        have HH : Hid (∀ W : World, Calls Tryz.prog 14 #[realV m e, realV k3 f3] W fun r w' => r = .returned (iE (-1) 0) ∧ Below W.heap.size W w') := Lib.hid (fun W => by have h := rcmp_ok m e k3 f3 W VX v3; rwa [c3_lt lH] at h)
        obtain ⟨d, g, vd, id, d1, d2, d3⟩ := sum_small VX (by rw [vr_neg]; exact v2 : vr (-k2) f2 = true) (by rw [UU_neg, u2]; omega : UU m e + UU (-k2) f2 = r) r0 (by omega)
        have HD : Hid (∀ W : World, Calls Tryz.prog 22 #[realV m e, realV k2 f2] W fun r w' => r = .returned (rE d g 0) ∧ Below W.heap.size W w') := Lib.hid (fun W => by have h := sub_ok m e k2 f2 W (Lib.hid (by rw [VX, v2]; rfl)); rwa [show oV (smM m e (-k2) f2) (smE m e (-k2) f2) = rE d g 0 from by show rE (roM _ _) (roE _ _) (roX _ _) = _; rw [d1, d2, d3]] at h)
        have H2 : Hid (∀ W : World, Calls Tryz.prog 23 #[.int .i64 (-1)] W fun r w' => r = .returned (realV 8388608 (-24)) ∧ Below W.heap.size W w') := Lib.hid (fun W => two_any (-1) W (by decide) (by decide))
        have hx : ∀ h : Int, c3 (RI r 0) (RI (2 ^ 149) 0) = h → Hid (∀ W : World, Calls Tryz.prog 14 #[realV d g, realV 8388608 (-24)] W fun r w' => r = .returned (iE h 0) ∧ Below W.heap.size W w') := fun h hh => Lib.hid (fun W => by
          have q := rcmp_ok d g 8388608 (-24) W vd half_vr
          rwa [id, half_ix, hh] at q)
        have hC : ∀ u, rnd (-m) e = u → -9000000 ≤ u → u ≤ 9000000 → Hid (∀ W : World, Calls Tryz.prog 20 #[realV (-m) e] W fun r w' => r = .returned (iE u 0) ∧ Below W.heap.size W w') := fun u hu b1 b2 => by
          obtain ⟨u1, u2⟩ := nE (n := rnd (-m) e) (by rw [hu]; exact in_24 (by omega) (by omega))
          rw [u1, u2, hu] at HC
          exact HC
        have hr1 : decide (a < -8388608) = false := decide_eq_false (by omega)
        have hr2 : decide (8388608 ≤ a) = false := decide_eq_false (by omega)
        have hb1 : ¬ a + 1 = a := by omega
        have hb2 : (a + 1 != a) = true := bne_iff_ne.2 (by omega)
        have hb3 : (a + 1 != wrap64 (a + 1)) = false := by rw [hw]; exact bne_self_eq_false _
        have hb4 : (a + 1 == wrap64 (a + 1)) = true := by rw [hw]; exact beq_self_eq_true _
        rcases hrr with ⟨h0, h1, h2⟩ | ⟨h0, h1, h2⟩ | ⟨h0, h1, h2⟩
        · rw [es, h1] at HR
          have HCu := hC (-a) (by rw [eu, h2]) (by omega) (by omega)
          have HX := hx (-1) (c3_lt (half_lt (rest_rep VX v2 rfl u2 (by omega) r0 h0) h0))
          exact c1 n0 i0 n k f m e (-m) a 0 (-a) k2 f2 k3 f3 _ d g w hn HF1 HE1 HA HE HR HN HCu HS HF2 HF3 HL HH HD H2 HX (Lib.hid hw2) hr1 hr2 hlo (by rw [hw]; exact beq_false_of_ne (by omega)) (by rw [wrap_in _ (by omega) (by omega)]; exact beq_self_eq_true _)
        · rw [es, h1] at HR
          have HCu := hC (-a) (by rw [eu, h2]) (by omega) (by omega)
          have HX := hx 0 (c3_eq (by rw [h0]))
          exact c2 n0 i0 n k f m e (-m) a (a + 1) (-a) k2 f2 k3 f3 _ d g w hn HF1 HE1 HA HE HR HN HCu HS HF2 HF3 HL HH HD H2 HX (Lib.hid hw2) hr1 hr2 hlo hb1 hb2 hb3 hb4
        · rw [es, h1] at HR
          have HCu := hC (-(a + 1)) (by rw [eu, h2]) (by omega) (by omega)
          have hle := RI_mono (Int.le_of_lt h0) 0
          rcases Int.lt_or_le (RI (2 ^ 149) 0) (RI r 0) with h3 | h3
          · have HX := hx 1 (c3_gt h3)
            exact c9 n0 i0 n k f m e (-m) a (a + 1) (-(a + 1)) k2 f2 k3 f3 _ d g w hn HF1 HE1 HA HE HR HN HCu HS HF2 HF3 HL HH HD H2 HX (Lib.hid hw2) hr1 hr2 hlo hb1 hb2 hb3 hb4 (by rw [wrap_in _ (by omega) (by omega)]; exact beq_self_eq_true _)
          · have HX := hx 0 (c3_eq (by omega))
            exact c2 n0 i0 n k f m e (-m) a (a + 1) (-(a + 1)) k2 f2 k3 f3 _ d g w hn HF1 HE1 HA HE HR HN HCu HS HF2 HF3 HL HH HD H2 HX (Lib.hid hw2) hr1 hr2 hlo hb1 hb2 hb3 hb4

end Go.Proofs.YtdhcahidpiiplaaGreatDoor.realIntegerLaws
