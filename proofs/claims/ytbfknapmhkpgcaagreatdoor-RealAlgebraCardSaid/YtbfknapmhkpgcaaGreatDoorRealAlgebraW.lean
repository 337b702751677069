/-
  RealAlgebra: together.
-/
import Derived.Test.YtbfknapmhkpgcaaGreatDoorAlgtwice
import Derived.Test.YtbfknapmhkpgcaaGreatDoorAlglow
import Derived.Test.YtbfknapmhkpgcaaGreatDoorAlghigh
import Derived.Test.YtbfknapmhkpgcaaGreatDoorAlgin
import Derived.Test.YtbfknapmhkpgcaaGreatDoorSanH
import Derived.Test.YtbfknapmhkpgcaaGreatDoorValA

namespace Go.Proofs.YtbfknapmhkpgcaaGreatDoor.realAlgebra
open Go.RowKit
set_option linter.unusedVariables false

set_option maxRecDepth 100000 in
set_option maxHeartbeats 1600000 in
theorem lat_any (i j : Int) (w : World) (hj : i.tmod 2533359616 = j) (h1 : -2533359615 ≤ j) (h2 : j ≤ 2533359615) :
    Calls Tryz.prog 32 #[.int .i64 i] w fun r w' => r = .returned (realV (aM j) (aE j)) ∧ Below w.heap.size w w' := by
  have HA := Lib.hid (at_ok j)
  go_enter Tryz.func32, Tryz.ntmps32
  go_wp2_with fail

  refine (HA.out _ h1 h2).mono ?_
  rintro r w1 ⟨rfl, hb1⟩
  have hz1 : w.heap.size < w1.heap.size := by have := hb1.size; first | omega | (simp at this; omega)
  have f0 : w1.frozen? ⟨w.heap.size, 0, none⟩ = false := carryF hb1 (v := .int .i64 0) (by first | assumption | go_simp) (by first | assumption | go_simp)
  have f1 : w1.frozen? ⟨w.heap.size, 1, none⟩ = false := carryF hb1 (v := .int .i64 0) (by first | assumption | go_simp) (by first | assumption | go_simp)
  have r0 : w1.cell? ⟨w.heap.size, 0, none⟩ = some (.int .i64 0) := carry hb1 (by first | assumption | go_simp)
  have r1 : w1.cell? ⟨w.heap.size, 1, none⟩ = some (.int .i64 0) := carry hb1 (by first | assumption | go_simp)
  have HBB := Lib.hid ((by repeat (first | exact Below.refl _ _ | refine Below.setCell ?_ (by first | omega | (simp; done) | (simp; omega)) _ | refine Below.alloc ?_ (by first | omega | (simp; done) | (simp; omega)) _) : Below w.heap.size w _).trans (hb1.mono (by first | omega | (simp; done) | (simp; omega))))
  clear hb1
  generalize hm : aM j = am
  generalize he : aE j = ae
  have HQ := Lib.hid (And.intro hm he)
  clear hm he hj
  go_wp2_with fail
  refine bodyPost_ret (v := realV am ae) (by simp [results, Tryz.results32, go_sem, r0, r1, hz1]) rfl ⟨by rw [HQ.out.1, HQ.out.2], by repeat (first | with_reducible exact HBB.out | with_reducible exact Below.refl _ _ | with_reducible refine Below.drew ?_ | with_reducible refine belowN ?_ _ | with_reducible refine Below.setCell ?_ (by first | omega | (simp; done) | (simp; omega)) _ | with_reducible refine Below.alloc ?_ (by first | omega | (simp; done) | (simp; omega)) _)⟩

theorem tmod_bd (a : Int) {n : Int} (hn : 0 < n) : -n < a.tmod n ∧ a.tmod n < n := by
  rcases Int.le_total 0 a with h | h
  · have h1 := Int.tmod_nonneg (a := a) n h
    have h2 := Int.tmod_lt_of_pos a hn
    omega
  · have h1 := Int.tmod_nonneg (a := -a) n (by omega)
    have h2 := Int.tmod_lt_of_pos (-a) hn
    rw [Int.neg_tmod] at h1 h2
    omega

set_option maxRecDepth 100000 in
set_option maxHeartbeats 1600000 in
theorem eq_yes (a b x : Int) (w : World) :
    Calls Tryz.prog 34 #[realV a b, .int .i64 x, realV a b, .int .i64 x] w fun r w' => r = .returned (.bool true) ∧ Below w.heap.size w w' := by
  go_enter Tryz.func34, Tryz.ntmps34
  go_wp2_with fail
  go_ret
  exact ⟨rfl, by repeat (first | exact Below.refl _ _ | refine Below.drew ?_ | refine Below.alloc ?_ (by first | omega | (simp; done) | (simp; omega)) _)⟩

theorem oR_neg (I : Int) : oR (-I) = rE (-oM I) (oE I) (oX I) := by
  show rE (oM (-I)) (oE (-I)) (oX (-I)) = _
  rw [oM_neg, oE_neg, oX_neg]
theorem oR_ix {m e : Int} (h : vr m e = true) : oR (ix m e) = rE m e 0 := by
  obtain ⟨a, b, c⟩ := o_ix h
  show rE (oM (ix m e)) (oE (ix m e)) (oX (ix m e)) = _
  rw [a, b, c]
theorem neg_back (I : Int) (w : World) : Calls Tryz.prog 16 #[realV (-oM I) (oE I)] w fun r w' => r = .returned (rE (oM I) (oE I) 0) ∧ Below w.heap.size w w' := by
  have h := neg_ok (-oM I) (oE I) w (Lib.hid (by rw [vr_neg]; exact o_vr I))
  rwa [Int.neg_neg] at h

theorem run (i0 j0 : Int) (w : World) (w0 : (Lit.int .i64 i0).wf = true) (w1 : (Lit.int .i64 j0).wf = true) (hP : P10 w) (hQ : TabQ w) :
    Calls Tryz.prog 5 #[.int .i64 i0, .int .i64 j0] w fun r w' => r = .returned (.bool true) ∧ Below w.heap.size w w' := by
  have HSan := hsan w hP hQ
  have hj := tmod_bd i0 (n := 2533359616) (by decide)
  have hj2 := tmod_bd j0 (n := 2533359616) (by decide)
  obtain ⟨j, hj0⟩ : ∃ j, i0.tmod 2533359616 = j := ⟨_, rfl⟩
  obtain ⟨j2, hj02⟩ : ∃ j, j0.tmod 2533359616 = j := ⟨_, rfl⟩
  rw [hj0] at hj
  rw [hj02] at hj2
  have HA := Lib.hid (fun W => lat_any i0 j W hj0 (by omega) (by omega))
  have HB := Lib.hid (fun W => lat_any j0 j2 W hj02 (by omega) (by omega))
  have hx : vr (aM j) (aE j) = true := at_vr (by omega) (by omega)
  have hy : vr (aM j2) (aE j2) = true := at_vr (by omega) (by omega)
  generalize aM j = m at HA hx
  generalize aE j = e at HA hx
  generalize aM j2 = k at HB hy
  generalize aE j2 = f at HB hy
  clear hj hj0 hj2 hj02 w0 w1
  have hxy : (vr m e && vr k f) = true := by rw [hx, hy]; rfl
  have hyx : (vr k f && vr m e) = true := by rw [hx, hy]; rfl
  have nx : vr (-m) e = true := by rw [vr_neg]; exact hx
  have ny : vr (-k) f = true := by rw [vr_neg]; exact hy
  have z0 : vr 0 0 = true := by decide
  have H1 : Hid (∀ W : World, Calls Tryz.prog 10 #[.int .i64 1] W fun r w' => r = .returned (realV 8388608 (-23)) ∧ Below W.heap.size W w') := Lib.hid (fun W => by
    have h := fromInt_any 1 W (by decide) (by decide)
    rw [show aM (rI 1 0) = 8388608 from by decide +kernel, show aE (rI 1 0) = -23 from by decide +kernel] at h
    exact h)
  have HNx := Lib.hid (fun W => neg_ok m e W (Lib.hid hx))
  have HNy := Lib.hid (fun W => neg_ok k f W (Lib.hid hy))
  obtain ⟨I, hI⟩ : ∃ I, I = RI (UU m e + UU k f) 0 := ⟨_, rfl⟩
  obtain ⟨J, hJ⟩ : ∃ J, J = RI (UU m e * UU k f) 150 := ⟨_, rfl⟩
  obtain ⟨K, hK⟩ : ∃ K, K = RI (UU m e - UU k f) 0 := ⟨_, rfl⟩
  have Hxy : Hid (∀ W : World, Calls Tryz.prog 33 #[realV m e, realV k f] W fun r w' => r = .returned (rE (oM I) (oE I) (oX I)) ∧ Below W.heap.size W w') := Lib.hid (fun W => by
    have h := add_ok m e k f W (Lib.hid hxy)
    rwa [add_i hx hy, ← hI] at h)
  have Hyx : Hid (∀ W : World, Calls Tryz.prog 33 #[realV k f, realV m e] W fun r w' => r = .returned (rE (oM I) (oE I) (oX I)) ∧ Below W.heap.size W w') := Lib.hid (fun W => by
    have h := add_ok k f m e W (Lib.hid hyx)
    rwa [add_i hy hx, Int.add_comm, ← hI] at h)
  have Hnn : Hid (∀ W : World, Calls Tryz.prog 33 #[realV (-m) e, realV (-k) f] W fun r w' => r = .returned (rE (-oM I) (oE I) (oX I)) ∧ Below W.heap.size W w') := Lib.hid (fun W => by
    have h := add_ok (-m) e (-k) f W (Lib.hid (by rw [nx, ny]; rfl))
    rwa [add_i nx ny, UU_neg, UU_neg, ← Int.neg_add, RI_neg, ← hI, oR_neg] at h)
  have Mxy : Hid (∀ W : World, Calls Tryz.prog 25 #[realV m e, realV k f] W fun r w' => r = .returned (rE (oM J) (oE J) (oX J)) ∧ Below W.heap.size W w') := Lib.hid (fun W => by
    have h := mul_ok m e k f W (Lib.hid hxy)
    rwa [mul_i hx hy, ← hJ] at h)
  have Myx : Hid (∀ W : World, Calls Tryz.prog 25 #[realV k f, realV m e] W fun r w' => r = .returned (rE (oM J) (oE J) (oX J)) ∧ Below W.heap.size W w') := Lib.hid (fun W => by
    have h := mul_ok k f m e W (Lib.hid hyx)
    rwa [mul_i hy hx, Int.mul_comm, ← hJ] at h)
  have Mnn : Hid (∀ W : World, Calls Tryz.prog 25 #[realV (-m) e, realV k f] W fun r w' => r = .returned (rE (-oM J) (oE J) (oX J)) ∧ Below W.heap.size W w') := Lib.hid (fun W => by
    have h := mul_ok (-m) e k f W (Lib.hid (by rw [nx, hy]; rfl))
    rwa [mul_i nx hy, UU_neg, Int.neg_mul, RI_neg, ← hJ, oR_neg] at h)
  have HZ : Hid (∀ W : World, Calls Tryz.prog 33 #[realV m e, realV 0 0] W fun r w' => r = .returned (rE m e 0) ∧ Below W.heap.size W w') := Lib.hid (fun W => by
    have h := add_ok m e 0 0 W (Lib.hid (by rw [hx, z0]; rfl))
    rwa [add_zero' hx, oR_ix hx] at h)
  have HO : Hid (∀ W : World, Calls Tryz.prog 25 #[realV m e, realV 8388608 (-23)] W fun r w' => r = .returned (rE m e 0) ∧ Below W.heap.size W w') := Lib.hid (fun W => by
    have h := mul_ok m e 8388608 (-23) W (Lib.hid (by rw [hx, one_vr]; rfl))
    rwa [mul_one hx, oR_ix hx] at h)
  have HD : Hid (∀ W : World, Calls Tryz.prog 26 #[realV m e, realV 8388608 (-23)] W fun r w' => r = .returned (rE m e 0) ∧ Below W.heap.size W w') := Lib.hid (fun W => by
    have h := div_ok m e 8388608 (-23) W (Lib.hid (by rw [hx, one_vr]; rfl)) (Lib.hid (by decide)) (by decide)
    rwa [div_one hx, oR_ix hx] at h)
  have HS : Hid (∀ W : World, Calls Tryz.prog 35 #[realV m e, realV k f] W fun r w' => r = .returned (rE (oM K) (oE K) (oX K)) ∧ Below W.heap.size W w') := Lib.hid (fun W => by
    have h := sub_ok m e k f W (Lib.hid hxy)
    rwa [sub_i hx hy, ← hK] at h)
  have HI := Lib.hid (fun W => is_yes m e W)
  have HD3 : (oX K = 3) ∨ (oX K = 0 ∧ m = k ∧ e = f ∧ oM K = 0 ∧ oE K = 0) ∨ (oX K = 0 ∧ (¬ m = k) ∧ (¬ oM K = 0)) ∨ (oX K = 0 ∧ m = k ∧ (¬ e = f) ∧ (¬ oM K = 0)) := by
    by_cases h0 : UU m e = UU k f
    · obtain ⟨q1, q2⟩ := UU_inj hx hy h0
      have hK0 : K = 0 := by rw [hK, h0, Int.sub_self, RI_zero]
      rw [hK0]
      exact .inr (.inl ⟨by decide, q1, q2, by decide, by decide⟩)
    · rcases dif_m (show UU m e - UU k f ≠ 0 by omega) with q | ⟨q1, q2⟩
      · rw [← hK] at q
        exact .inl q
      · rw [← hK] at q1 q2
        by_cases hm : m = k
        · refine .inr (.inr (.inr ⟨q1, hm, fun he => h0 (by rw [hm, he]), q2⟩))
        · exact .inr (.inr (.inl ⟨q1, hm, q2⟩))
  have H2 := Lib.hid (fun W => two_any (-1) W (by decide) (by decide))
  obtain ⟨H, hH⟩ : ∃ H, H = RI (UU k f) 1 := ⟨_, rfl⟩
  have hhi := half_in hy
  rw [← hH] at hhi
  obtain ⟨o1, o2⟩ := o_in hhi.1 hhi.2
  have hv24 : vr 8388608 (-24) = true := by decide
  have HM : Hid (∀ W : World, Calls Tryz.prog 25 #[realV k f, realV 8388608 (-24)] W fun r w' => r = .returned (rE (oM H) (oE H) 0) ∧ Below W.heap.size W w') := Lib.hid (fun W => by
    have h := mul_ok k f 8388608 (-24) W (Lib.hid (by rw [hy, hv24]; rfl))
    rwa [mul_half hy, ← hH, show oR H = rE (oM H) (oE H) (oX H) from rfl, o1] at h)
  obtain ⟨T, hT⟩ : ∃ T, T = RI (UU k f + UU k f) 0 := ⟨_, rfl⟩
  have HT : Hid (∀ W : World, Calls Tryz.prog 33 #[realV k f, realV k f] W fun r w' => r = .returned (rE (oM T) (oE T) (oX T)) ∧ Below W.heap.size W w') := Lib.hid (fun W => by
    have h := add_ok k f k f W (Lib.hid (by rw [hy]; rfl))
    rwa [add_i hy hy, ← hT] at h)
  have HL := Lib.hid (fun W => rcmp_ok (oM H) (oE H) m e W (o_vr H) hx)
  have HHc := Lib.hid (fun W => rcmp_ok m e (oM T) (oE T) W hx (o_vr T))
  have HEa := Lib.hid (fun W => eq_yes (oM I) (oE I) (oX I) W)
  have HEp := Lib.hid (fun W => eq_yes (oM J) (oE J) (oX J) W)
  have HNa := Lib.hid (neg_back I)
  have HNp := Lib.hid (neg_back J)
  rcases o_dec T with ⟨t1, t2, t3⟩ | ⟨t1, _, _⟩
  · rw [t1] at HT
    obtain ⟨_, o4⟩ := o_in t2 t3
    by_cases g1 : 0 < c3 (ix (oM H) (oE H)) (ix m e)
    · exact w_low i0 j0 m e k f (-m) (-k) _ _ _ _ _ _ _ _ _ _ _ _ _ _ _ _ _ w HA HB H1 HNx HNy Hxy Hyx Hnn HNa HEa Mxy Myx Mnn HNp HEp HZ HO HD HS HI HD3 H2 HM HT HL HHc g1 HSan
    · by_cases g2 : 0 < c3 (ix m e) (ix (oM T) (oE T))
      · exact w_high i0 j0 m e k f (-m) (-k) _ _ _ _ _ _ _ _ _ _ _ _ _ _ _ _ _ w HA HB H1 HNx HNy Hxy Hyx Hnn HNa HEa Mxy Myx Mnn HNp HEp HZ HO HD HS HI HD3 H2 HM HT HL HHc g1 g2 HSan
      · have l1 : RI (UU k f) 1 ≤ RI (UU m e) 0 := by
          rw [← hH, ← ix_val hx]
          rw [o2] at g1
          by_cases hc : ix m e < H
          · exact absurd (by rw [c3_gt hc]; decide) g1
          · omega
        have l2 : RI (UU m e) 0 ≤ RI (UU k f + UU k f) 0 := by
          rw [← hT, ← ix_val hx]
          rw [o4] at g2
          by_cases hc : T < ix m e
          · exact absurd (by rw [c3_gt hc]; decide) g2
          · omega
        obtain ⟨d, g, hv, b1, b2⟩ := back hx hy l1 l2
        rw [sub_i hx hy, ← hK] at b1
        have b1' : rE (oM K) (oE K) (oX K) = rE d g 0 := b1
        have e3 : (oM K = d ∧ oE K = g) ∧ oX K = 0 := by simpa [rE, realV] using b1'
        obtain ⟨⟨e4, e5⟩, e6⟩ := e3
        rw [e4, e5, e6] at HS HD3
        have HKk : Hid (∀ W : World, Calls Tryz.prog 33 #[realV d g, realV k f] W fun r w' => r = .returned (rE m e 0) ∧ Below W.heap.size W w') := Lib.hid (fun W => by
          have h := add_ok d g k f W (Lib.hid (by rw [hv, hy]; rfl))
          rwa [b2] at h)
        exact w_in i0 j0 m e k f (-m) (-k) _ _ _ _ _ _ _ _ d g 0 _ _ _ _ _ _ w HA HB H1 HNx HNy Hxy Hyx Hnn HNa HEa Mxy Myx Mnn HNp HEp HZ HO HD HS HI HD3 H2 HM HT HL HHc g1 g2 rfl HKk HSan
  · rw [t1] at HT
    exact w_twice i0 j0 m e k f (-m) (-k) _ _ _ _ _ _ _ _ _ _ _ _ _ _ _ _ _ w HA HB H1 HNx HNy Hxy Hyx Hnn HNa HEa Mxy Myx Mnn HNp HEp HZ HO HD HS HI HD3 H2 HM HT HL HHc HSan

end Go.Proofs.YtbfknapmhkpgcaaGreatDoor.realAlgebra
