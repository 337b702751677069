/-
  Several texts in one (NatK, NatL).
-/
import Derived.Test.YtbfknapmhkpgcaaGreatDoorNaA

namespace Go.Proofs.YtbfknapmhkpgcaaGreatDoor
open Go.RowKit
set_option linter.unusedVariables false

set_option maxRecDepth 100000 in
set_option maxHeartbeats 4000000 in
theorem rfi_pos (n : Int) (w : World) (h1 : 0 ≤ n) (h2 : n ≤ 9223372036854775807) :
    Calls Tryz.prog 11 #[.int .i64 n] w fun r w' => ∃ rm re ok, r = .returned (.agg #[.int .i64 rm, .int .i64 re]) ∧ RndP n 1 false rm re ok ∧ Below w.heap.size w w' := by
  have HBD := Lib.hid (show n < pw 300 by have := pw_small h2; have := pw_le (show 5 ≤ 300 by decide); omega)
  have HBO := Lib.hid (show (1 : Int) < pw 300 by have := pw_small (show (1 : Int) ≤ 9223372036854775807 by decide); have := pw_le (show 5 ≤ 300 by decide); omega)
  have hfi : ∀ (a b : Int) (c : Bool) (w : World), Sem.run Tryz.prog (Instr.field 43 (.agg #[.int .i64 a, .int .i64 b, .bool c]) 0) w = .ok (.agg #[.int .i64 a, .int .i64 b]) w := fun _ _ _ _ => by kernel_rfl
  go_enter Tryz.func11, Tryz.ntmps11
  go_wp2_with fail
  obtain ⟨wn, hW⟩ : ∃ wn, wn = w.alloc (.cells #[.int .i64 0, .int .i64 0] 23) := ⟨_, rfl⟩
  rw [← hW]
  have HBN := Lib.hid (show Below w.heap.size w wn by rw [hW]; exact Below.alloc (Below.refl _ _) (Nat.le_refl _) _)
  have q0 : wn.cell? ⟨w.heap.size, 0, none⟩ = some (.int .i64 0) := by rw [hW]; clear hW; go_simp
  have q1 : wn.cell? ⟨w.heap.size, 1, none⟩ = some (.int .i64 0) := by rw [hW]; clear hW; go_simp
  have g0 : wn.frozen? ⟨w.heap.size, 0, none⟩ = false := by rw [hW]; clear hW; go_simp
  have g1 : wn.frozen? ⟨w.heap.size, 1, none⟩ = false := by rw [hW]; clear hW; go_simp
  have hzn : w.heap.size < wn.heap.size := by rw [hW]; simp
  clear hW
  have HRB := Lib.hid (show ∀ wx, Below wn.heap.size wn wx → (wx.cell? ⟨w.heap.size, 0, none⟩ = some (.int .i64 0) ∧ wx.cell? ⟨w.heap.size, 1, none⟩ = some (.int .i64 0)) ∧ (wx.frozen? ⟨w.heap.size, 0, none⟩ = false ∧ wx.frozen? ⟨w.heap.size, 1, none⟩ = false) ∧ w.heap.size < wx.heap.size from fun wx h => ⟨⟨carry h q0, carry h q1⟩, ⟨carryF h q0 g0, carryF h q1 g1⟩, Nat.lt_of_lt_of_le hzn h.size⟩)
  clear q0 q1 g0 g1
  refine (small_any n _ h1 h2).mono ?_
  rintro r wa ⟨va, rfl, hva, hba⟩
  obtain ⟨aO, aK, aC, rfl⟩ := NatIs.form hva
  go_wp2_with fail
  refine (small_any 1 _ (by decide) (by decide)).mono ?_
  rintro r wb ⟨vb, rfl, hvb, hbb⟩
  obtain ⟨bO, bK, bC, rfl⟩ := NatIs.form hvb
  have hva2 := hva.below hbb
  have qa := hba.trans (hbb.mono hba.size)
  clear hva hba hbb
  go_wp2_with fail
  refine (round_any false (.slice aO aK aC) (.slice bO bK bC) n 1 _ hva2 hvb HBD.out HBO.out rfl rfl).mono ?_
  rintro r wc ⟨rm, re, ok, rfl, hR, hbc⟩
  have qb := qa.trans (hbc.mono qa.size)
  clear hva2 hvb qa hbc
  obtain ⟨⟨q0, q1⟩, ⟨g0, g1⟩, qz⟩ := HRB.out _ qb
  go_wp2_with fail
  refine bodyPost_ret (v := .agg #[.int .i64 rm, .int .i64 re]) ?_ rfl ?_
  · simp [results, Tryz.results11, go_sem, q0, q1]
  · exact ⟨_, _, _, rfl, hR, HBN.out.trans (Below.mono (Below.setCell (p := ⟨w.heap.size, 1, none⟩) (Below.setCell (p := ⟨w.heap.size, 0, none⟩) (Below.mono qb (Nat.le_of_lt hzn)) (Nat.le_refl _) _) (Nat.le_refl _) _) (Nat.le_refl _))⟩

set_option maxRecDepth 100000 in
set_option maxHeartbeats 4000000 in
theorem rfi_neg (n : Int) (w : World) (h1 : -9223372036854775808 ≤ n) (h2 : n < 0) :
    Calls Tryz.prog 11 #[.int .i64 n] w fun r w' => ∃ rm re ok, r = .returned (.agg #[.int .i64 rm, .int .i64 re]) ∧ RndP (-n) 1 true rm re ok ∧ Below w.heap.size w w' := by
  have hk : -(n + 1) + 1 = -n := by omega
  have HBD := Lib.hid (show -n < pw 300 by have := pw_small (show -(n + 1) ≤ 9223372036854775807 by omega); have := pw_le (show 5 + 1 ≤ 300 by decide); have := pw_succ 5; have := pw_pos 5; omega)
  have HBO := Lib.hid (show (1 : Int) < pw 300 by have := pw_small (show (1 : Int) ≤ 9223372036854775807 by decide); have := pw_le (show 5 ≤ 300 by decide); omega)
  have HS := Lib.hid (fun W : World => small_any (-(n + 1)) W (by omega) (by omega))
  have HA := Lib.hid (show -(n + 1) < pw 1000 from pw_5 (pw_small (by omega)))
  have HO := Lib.hid (show (1 : Int) < pw 1000 from pw_5 (pw_small (by decide)))
  have hfi : ∀ (a b : Int) (c : Bool) (w : World), Sem.run Tryz.prog (Instr.field 43 (.agg #[.int .i64 a, .int .i64 b, .bool c]) 0) w = .ok (.agg #[.int .i64 a, .int .i64 b]) w := fun _ _ _ _ => by kernel_rfl
  go_enter Tryz.func11, Tryz.ntmps11
  go_wp2_with fail
  obtain ⟨wn, hW⟩ : ∃ wn, wn = w.alloc (.cells #[.int .i64 0, .int .i64 0] 23) := ⟨_, rfl⟩
  rw [← hW]
  have HBN := Lib.hid (show Below w.heap.size w wn by rw [hW]; exact Below.alloc (Below.refl _ _) (Nat.le_refl _) _)
  have q0 : wn.cell? ⟨w.heap.size, 0, none⟩ = some (.int .i64 0) := by rw [hW]; clear hW; go_simp
  have q1 : wn.cell? ⟨w.heap.size, 1, none⟩ = some (.int .i64 0) := by rw [hW]; clear hW; go_simp
  have g0 : wn.frozen? ⟨w.heap.size, 0, none⟩ = false := by rw [hW]; clear hW; go_simp
  have g1 : wn.frozen? ⟨w.heap.size, 1, none⟩ = false := by rw [hW]; clear hW; go_simp
  have hzn : w.heap.size < wn.heap.size := by rw [hW]; simp
  clear hW
  have HRB := Lib.hid (show ∀ wx, Below wn.heap.size wn wx → (wx.cell? ⟨w.heap.size, 0, none⟩ = some (.int .i64 0) ∧ wx.cell? ⟨w.heap.size, 1, none⟩ = some (.int .i64 0)) ∧ (wx.frozen? ⟨w.heap.size, 0, none⟩ = false ∧ wx.frozen? ⟨w.heap.size, 1, none⟩ = false) ∧ w.heap.size < wx.heap.size from fun wx h => ⟨⟨carry h q0, carry h q1⟩, ⟨carryF h q0 g0, carryF h q1 g1⟩, Nat.lt_of_lt_of_le hzn h.size⟩)
  clear q0 q1 g0 g1
  refine (HS.out _).mono ?_
  rintro r wa ⟨va, rfl, hva, hba⟩
  obtain ⟨aO, aK, aC, rfl⟩ := NatIs.form hva
  go_wp2_with fail
  refine (small_any 1 _ (by decide) (by decide)).mono ?_
  rintro r wb ⟨vb, rfl, hvb, hbb⟩
  obtain ⟨bO, bK, bC, rfl⟩ := NatIs.form hvb
  have hva2 := hva.below hbb
  have qa := hba.trans (hbb.mono hba.size)
  clear hva hba hbb
  go_wp2_with fail
  refine (add_nat (.slice aO aK aC) (.slice bO bK bC) (-(n + 1)) 1 _ hva2 hvb HA.out HO.out).mono ?_
  rw [hk]
  rintro r wd ⟨vd, rfl, hvd, hbd⟩
  obtain ⟨dO, dK, dC, rfl⟩ := NatIs.form hvd
  have qd := qa.trans (hbd.mono qa.size)
  clear hva2 hvb qa hbd
  go_wp2_with fail
  refine (small_any 1 _ (by decide) (by decide)).mono ?_
  rintro r we ⟨ve, rfl, hve, hbe⟩
  obtain ⟨eO, eK, eC, rfl⟩ := NatIs.form hve
  have hvd2 := hvd.below hbe
  have qe := qd.trans (hbe.mono qd.size)
  clear hvd qd hbe
  go_wp2_with fail
  refine (round_any true (.slice dO dK dC) (.slice eO eK eC) (-n) 1 _ hvd2 hve HBD.out HBO.out rfl rfl).mono ?_
  rintro r wc ⟨rm, re, ok, rfl, hR, hbc⟩
  have qb := qe.trans (hbc.mono qe.size)
  clear hvd2 hve qe hbc
  obtain ⟨⟨q0, q1⟩, ⟨g0, g1⟩, qz⟩ := HRB.out _ qb
  go_wp2_with fail
  refine bodyPost_ret (v := .agg #[.int .i64 rm, .int .i64 re]) ?_ rfl ?_
  · simp [results, Tryz.results11, go_sem, q0, q1]
  · exact ⟨_, _, _, rfl, hR, HBN.out.trans (Below.mono (Below.setCell (p := ⟨w.heap.size, 1, none⟩) (Below.setCell (p := ⟨w.heap.size, 0, none⟩) (Below.mono qb (Nat.le_of_lt hzn)) (Nat.le_refl _) _) (Nat.le_refl _) _) (Nat.le_refl _))⟩

end Go.Proofs.YtbfknapmhkpgcaaGreatDoor

namespace Go.Proofs.YtbfknapmhkpgcaaGreatDoor
open Go.RowKit
set_option linter.unusedVariables false

theorem hs_one {a : Int} {n : Nat} (h : (n : Int) = a * 2 ^ 150) : ∀ i, 0 ≤ i → (a * 2 ^ 151 ≤ Hf i * 1 ↔ 2 * (n : Int) ≤ Hf i * 2 ^ 0) ∧ (Hf i * 1 = a * 2 ^ 151 ↔ 2 * (n : Int) = Hf i * 2 ^ 0) := by
  intro i _
  have e : (2 : Int) ^ 151 = 2 ^ 150 * 2 := Int.pow_succ _ _
  rw [e, h]
  generalize (2 : Int) ^ 150 = P at *
  generalize Hf i = H
  have e2 : a * (P * 2) = 2 * (a * P) := by rw [← Int.mul_assoc, Int.mul_comm]
  rw [e2, Int.pow_zero, Int.mul_one]
  generalize a * P = X
  omega

theorem rfi_any (n : Int) (w : World) (h1 : -9223372036854775808 ≤ n) (h2 : n ≤ 9223372036854775807) :
    Calls Tryz.prog 11 #[.int .i64 n] w fun r w' => r = .returned (realV (aM (rI n 0)) (aE (rI n 0))) ∧ Below w.heap.size w w' := by
  have hp : (0 : Int) < 2 ^ 150 := Int.pow_pos (by decide)
  have hv : rI n 0 = RI (n * 2 ^ 150) 0 := rI_val n 0 0 h1 (by omega) (by decide)
  have hr := of_decide_eq_true (rOk_int n h1 h2)
  have T : ∀ (num : Int) (mi : Bool), ((n * 2 ^ 150).natAbs : Int) = num * 2 ^ 150 → ((mi = true ∧ n * 2 ^ 150 ≤ 0) ∨ (mi = false ∧ 0 ≤ n * 2 ^ 150)) → ∀ r (w' : World), (∃ rm re ok, r = Ending.returned (.agg #[.int .i64 rm, .int .i64 re]) ∧ RndP num 1 mi rm re ok ∧ Below w.heap.size w w') → r = Ending.returned (realV (aM (rI n 0)) (aE (rI n 0))) ∧ Below w.heap.size w w' := by
    rintro num mi e1 e2 r w' ⟨rm, re, ok, rfl, hR, hb⟩
    obtain ⟨rfl, rfl, rfl⟩ := rnd_is (q := 0) hR (by decide) e2 (hs_one e1)
    refine ⟨?_, hb⟩
    rw [hv] at hr ⊢
    unfold oM oE
    rw [if_pos hr, if_pos hr]
  by_cases hn : n < 0
  · have hm : n * 2 ^ 150 < 0 := Int.mul_neg_of_neg_of_pos hn hp
    refine (rfi_neg n w h1 hn).mono (T _ _ ?_ (.inl ⟨rfl, by omega⟩))
    rw [Int.neg_mul]
    omega
  · have hm : 0 ≤ n * 2 ^ 150 := Int.mul_nonneg (by omega) (Int.le_of_lt hp)
    refine (rfi_pos n w (by omega) h2).mono (T _ _ ?_ (.inr ⟨rfl, hm⟩))
    omega

set_option maxRecDepth 100000 in
set_option maxHeartbeats 1600000 in
theorem cp_lt (a b : Int) (w : World) (h : a < b) :
    Calls Tryz.prog 24 #[.int .i64 a, .int .i64 b] w fun r w' => r = .returned (.int .i64 (-1)) ∧ Below w.heap.size w w' := by
  go_enter Tryz.func24, Tryz.ntmps24
  go_wp2_with fail
  go_ret
  exact ⟨rfl, by repeat (first | with_reducible exact HBB.out | with_reducible exact Below.refl _ _ | with_reducible refine Below.drew ?_ | with_reducible refine belowN ?_ _ | with_reducible refine Below.setCell ?_ (by first | omega | (simp; done) | (simp; omega)) _ | with_reducible refine Below.alloc ?_ (by first | omega | (simp; done) | (simp; omega)) _)⟩

set_option maxRecDepth 100000 in
set_option maxHeartbeats 1600000 in
theorem cp_gt (a b : Int) (w : World) (h : ¬ a < b) (g : b < a) :
    Calls Tryz.prog 24 #[.int .i64 a, .int .i64 b] w fun r w' => r = .returned (.int .i64 (1)) ∧ Below w.heap.size w w' := by
  go_enter Tryz.func24, Tryz.ntmps24
  go_wp2_with fail
  go_ret
  exact ⟨rfl, by repeat (first | with_reducible exact HBB.out | with_reducible exact Below.refl _ _ | with_reducible refine Below.drew ?_ | with_reducible refine belowN ?_ _ | with_reducible refine Below.setCell ?_ (by first | omega | (simp; done) | (simp; omega)) _ | with_reducible refine Below.alloc ?_ (by first | omega | (simp; done) | (simp; omega)) _)⟩

set_option maxRecDepth 100000 in
set_option maxHeartbeats 1600000 in
theorem cp_eq (a b : Int) (w : World) (h : ¬ a < b) (g : ¬ b < a) :
    Calls Tryz.prog 24 #[.int .i64 a, .int .i64 b] w fun r w' => r = .returned (.int .i64 (0)) ∧ Below w.heap.size w w' := by
  go_enter Tryz.func24, Tryz.ntmps24
  go_wp2_with fail
  go_ret
  exact ⟨rfl, by repeat (first | with_reducible exact HBB.out | with_reducible exact Below.refl _ _ | with_reducible refine Below.drew ?_ | with_reducible refine belowN ?_ _ | with_reducible refine Below.setCell ?_ (by first | omega | (simp; done) | (simp; omega)) _ | with_reducible refine Below.alloc ?_ (by first | omega | (simp; done) | (simp; omega)) _)⟩

theorem cp_any (a b : Int) (w : World) : Calls Tryz.prog 24 #[.int .i64 a, .int .i64 b] w fun r w' => r = .returned (.int .i64 (c3 a b)) ∧ Below w.heap.size w w' := by
  unfold c3
  by_cases h : a < b
  · rw [if_pos h]; exact cp_lt a b w h
  · rw [if_neg h]
    by_cases g : b < a
    · rw [if_pos g]; exact cp_gt a b w h g
    · rw [if_neg g]; exact cp_eq a b w h g

set_option maxRecDepth 100000 in
set_option maxHeartbeats 1600000 in
theorem rix_z (w : World)  :
    Calls Tryz.prog 23 #[realV 0 0] w fun r w' => r = .returned (.int .i64 (0)) ∧ Below w.heap.size w w' := by
  go_enter Tryz.func23, Tryz.ntmps23
  go_wp2_with fail
  go_ret
  exact ⟨rfl, by repeat (first | with_reducible exact HBB.out | with_reducible exact Below.refl _ _ | with_reducible refine Below.drew ?_ | with_reducible refine belowN ?_ _ | with_reducible refine Below.setCell ?_ (by first | omega | (simp; done) | (simp; omega)) _ | with_reducible refine Below.alloc ?_ (by first | omega | (simp; done) | (simp; omega)) _)⟩

set_option maxRecDepth 100000 in
set_option maxHeartbeats 1600000 in
theorem rix_p (m e : Int) (w : World) (m1 : 0 < m) (m2 : m ≤ 16777216) (e1 : -150 ≤ e) (e2 : e ≤ 150) :
    Calls Tryz.prog 23 #[realV m e] w fun r w' => r = .returned (.int .i64 (m + (e + 150) * 8388608)) ∧ Below w.heap.size w w' := by
  have g0 : (m == 0) = false := beq_eq_false_iff_ne.2 (by omega)
  have g1 : ¬ m < 0 := by omega
  have hw1 : IntKind.i64.wrap (e + 150) = e + 150 := wrap64' _ (by omega) (by omega)
  have hw2 : IntKind.i64.wrap ((e + 150) * 8388608) = (e + 150) * 8388608 := wrap64' _ (by omega) (by omega)
  have hw3 : IntKind.i64.wrap (m + (e + 150) * 8388608) = m + (e + 150) * 8388608 := wrap64' _ (by omega) (by omega)
  go_enter Tryz.func23, Tryz.ntmps23
  go_wp2_with fail
  go_ret
  exact ⟨rfl, by repeat (first | with_reducible exact HBB.out | with_reducible exact Below.refl _ _ | with_reducible refine Below.drew ?_ | with_reducible refine belowN ?_ _ | with_reducible refine Below.setCell ?_ (by first | omega | (simp; done) | (simp; omega)) _ | with_reducible refine Below.alloc ?_ (by first | omega | (simp; done) | (simp; omega)) _)⟩

set_option maxRecDepth 100000 in
set_option maxHeartbeats 1600000 in
theorem rix_n (m e I : Int) (w : World) (m1 : -16777216 ≤ m) (m2 : m < 0) (i1 : 0 ≤ I) (i2 : I ≤ 2533359615) (HP : Hid (∀ W : World, Calls Tryz.prog 23 #[realV (-m) e] W fun r w' => r = .returned (.int .i64 I) ∧ Below W.heap.size W w')) :
    Calls Tryz.prog 23 #[realV m e] w fun r w' => r = .returned (.int .i64 (-I)) ∧ Below w.heap.size w w' := by
  have hw1 : IntKind.i64.wrap (-m) = -m := wrap64' _ (by omega) (by omega)
  have hw2 : IntKind.i64.wrap (-I) = -I := wrap64' _ (by omega) (by omega)
  have hz0 : IntKind.i64.wrap (0 - m) = -m := by rw [wrap64' _ (by omega) (by omega)]; omega
  have hz1 : IntKind.i64.wrap (0 - I) = -I := by rw [wrap64' _ (by omega) (by omega)]; omega
  go_enter Tryz.func23, Tryz.ntmps23
  go_wp2_with fail
  refine (HP.out _).mono ?_
  rintro r wa ⟨rfl, hba⟩
  have HBB := Lib.hid (show Below w.heap.size w wa by refine Below.trans ?_ (hba.mono (by simp <;> omega)); repeat (first | exact Below.refl _ _ | refine Below.alloc ?_ (by simp <;> omega) _))
  clear hba
  go_wp2_with fail
  go_ret
  exact ⟨rfl, by repeat (first | with_reducible exact HBB.out | with_reducible exact Below.refl _ _ | with_reducible refine Below.drew ?_ | with_reducible refine belowN ?_ _ | with_reducible refine Below.setCell ?_ (by first | omega | (simp; done) | (simp; omega)) _ | with_reducible refine Below.alloc ?_ (by first | omega | (simp; done) | (simp; omega)) _)⟩

theorem rix_any (m e : Int) (w : World) (h : vr m e = true) : Calls Tryz.prog 23 #[realV m e] w fun r w' => r = .returned (.int .i64 (ix m e)) ∧ Below w.heap.size w w' := by
  obtain ⟨b1, b2, b3, b4⟩ := vr_bd h
  by_cases h0 : m = 0
  · subst h0
    have he : e = 0 := by have k := vr_iff.1 h; unfold ab at k; split at k <;> omega
    subst he
    exact rix_z w
  · by_cases hn : m < 0
    · have hv : ix m e = -(-m + (e + 150) * 8388608) := by unfold ix; rw [if_neg (by omega), if_pos hn]; omega
      rw [hv]
      exact rix_n m e _ w (by omega) hn (by omega) (by omega) (Lib.hid (fun W => rix_p (-m) e W (by omega) (by omega) b3 b4))
    · have hv : ix m e = m + (e + 150) * 8388608 := by unfold ix; rw [if_neg (by omega), if_neg hn]
      rw [hv]
      exact rix_p m e w (by omega) (by omega) b3 b4

set_option maxRecDepth 100000 in
set_option maxHeartbeats 1600000 in
theorem rcm_any (m e k f : Int) (w : World) (h1 : vr m e = true) (h2 : vr k f = true) :
    Calls Tryz.prog 21 #[realV m e, realV k f] w fun r w' => r = .returned (.int .i64 (c3 (ix m e) (ix k f))) ∧ Below w.heap.size w w' := by
  have HX := Lib.hid (fun W : World => rix_any m e W h1)
  have HY := Lib.hid (fun W : World => rix_any k f W h2)
  have HC := Lib.hid (fun W : World => cp_any (ix m e) (ix k f) W)
  clear h1 h2
  generalize ix m e = I at *
  generalize ix k f = J at *
  generalize c3 I J = C at *
  go_enter Tryz.func21, Tryz.ntmps21
  go_wp2_with fail
  obtain ⟨wn, hW⟩ : ∃ wn, wn = (w.alloc (.cells #[.int .i64 m, .int .i64 e] 23)).alloc (.cells #[.int .i64 k, .int .i64 f] 23) := ⟨_, rfl⟩
  rw [← hW]
  have HBN2 := Lib.hid (show Below w.heap.size w wn by rw [hW]; repeat (first | exact Below.refl _ _ | refine Below.alloc ?_ (by simp <;> omega) _))
  have p0 : wn.cell? ⟨w.heap.size, 0, none⟩ = some (.int .i64 m) := by rw [hW]; clear hW; go_simp
  have p1 : wn.cell? ⟨w.heap.size, 1, none⟩ = some (.int .i64 e) := by rw [hW]; clear hW; go_simp
  have p2 : wn.cell? ⟨w.heap.size + 1, 0, none⟩ = some (.int .i64 k) := by rw [hW]; clear hW; go_simp
  have p3 : wn.cell? ⟨w.heap.size + 1, 1, none⟩ = some (.int .i64 f) := by rw [hW]; clear hW; go_simp
  have hzn : w.heap.size + 1 < wn.heap.size := by rw [hW]; simp
  have hzm : w.heap.size < wn.heap.size := by omega
  clear hW
  have HB0 := Lib.hid (Below.refl wn.heap.size wn)
  have HSK := Lib.hid (show ∀ wx, Below wn.heap.size wn wx → wx.cell? ⟨w.heap.size, 0, none⟩ = some (.int .i64 m) ∧ wx.cell? ⟨w.heap.size, 1, none⟩ = some (.int .i64 e) ∧ wx.cell? ⟨w.heap.size + 1, 0, none⟩ = some (.int .i64 k) ∧ wx.cell? ⟨w.heap.size + 1, 1, none⟩ = some (.int .i64 f) ∧ w.heap.size < wx.heap.size ∧ w.heap.size + 1 < wx.heap.size from fun wx h => ⟨carry h p0, carry h p1, carry h p2, carry h p3, Nat.lt_of_lt_of_le hzm h.size, Nat.lt_of_lt_of_le hzn h.size⟩)
  have hzl : w.heap.size ≤ wn.heap.size := by omega
  go_region_held3 (fun wx => wx.cell? ⟨w.heap.size, 0, none⟩ = some (.int .i64 m) ∧ wx.cell? ⟨w.heap.size, 1, none⟩ = some (.int .i64 e) ∧ wx.cell? ⟨w.heap.size + 1, 0, none⟩ = some (.int .i64 k) ∧ wx.cell? ⟨w.heap.size + 1, 1, none⟩ = some (.int .i64 f) ∧ w.heap.size < wx.heap.size ∧ w.heap.size + 1 < wx.heap.size) (first | (go_keep; done) | exact HSK.out _ (by first | with_reducible assumption | with_reducible exact HB0.out | with_reducible exact HB0.out.drew | with_reducible exact Below.drew (by with_reducible assumption)))
    (first
      | (go_at_call 23; ((with_reducible refine (HX.out _).mono ?_); rintro r wq ⟨rfl, hbq⟩; have qb : Below wn.heap.size wn wq := Below.trans (by first | with_reducible assumption | with_reducible exact HB0.out | with_reducible exact HB0.out.drew | with_reducible exact Below.drew (by with_reducible assumption)) (hbq.mono (Below.size (by first | with_reducible assumption | with_reducible exact HB0.out | with_reducible exact HB0.out.drew | with_reducible exact Below.drew (by with_reducible assumption))))))
      | (go_at_call 23; ((with_reducible refine (HY.out _).mono ?_); rintro r wq ⟨rfl, hbq⟩; have qb : Below wn.heap.size wn wq := Below.trans (by first | with_reducible assumption | with_reducible exact HB0.out | with_reducible exact HB0.out.drew | with_reducible exact Below.drew (by with_reducible assumption)) (hbq.mono (Below.size (by first | with_reducible assumption | with_reducible exact HB0.out | with_reducible exact HB0.out.drew | with_reducible exact Below.drew (by with_reducible assumption))))))
      | (go_at_call 24; ((with_reducible refine (HC.out _).mono ?_); rintro r wq ⟨rfl, hbq⟩; have qb : Below wn.heap.size wn wq := Below.trans (by first | with_reducible assumption | with_reducible exact HB0.out | with_reducible exact HB0.out.drew | with_reducible exact Below.drew (by with_reducible assumption)) (hbq.mono (Below.size (by first | with_reducible assumption | with_reducible exact HB0.out | with_reducible exact HB0.out.drew | with_reducible exact Below.drew (by with_reducible assumption)))))))
  go_wp2_with fail
  go_ret
  exact ⟨rfl, HBN2.out.trans (qb.mono hzl)⟩

end Go.Proofs.YtbfknapmhkpgcaaGreatDoor
