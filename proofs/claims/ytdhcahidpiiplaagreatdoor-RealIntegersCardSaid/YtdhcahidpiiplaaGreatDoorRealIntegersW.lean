/-
  RealIntegers: the ways.
-/
import Derived.Test.YtdhcahidpiiplaaGreatDoorRefI
import Derived.Test.YtdhcahidpiiplaaGreatDoorSanH

namespace Go.Proofs.YtdhcahidpiiplaaGreatDoor.realIntegers
open Go.RowKit
set_option linter.unusedVariables false

theorem rf_eq (M e : Int) (h : e ≤ 8) : rfN M e = nI (rfV M e) ∧ rfE M e = eI (rfV M e) := by
  have hb : rfB M e = inR (rfV M e) := by
    unfold rfB
    rw [show decide (e ≤ 8) = true from decide_eq_true h, Bool.true_and]
    by_cases hz : M = 0
    · subst hz
      have hv : rfV 0 e = 0 := by unfold rfV; split <;> simp
      rw [hv]
      rfl
    · rw [decide_eq_false hz, Bool.false_or]
  unfold rfN rfE nI eI
  rw [hb]
  exact ⟨rfl, rfl⟩

theorem rf_out (M e : Int) (h : 8 < e) (hz : M ≠ 0) : rfN M e = 0 ∧ rfE M e = 3 := by
  have hb : rfB M e = false := by
    unfold rfB
    rw [show decide (e ≤ 8) = false from decide_eq_false (by omega), decide_eq_false hz]
    rfl
  unfold rfN rfE
  rw [hb]
  exact ⟨rfl, rfl⟩

theorem out_n (n : Int) (h : n < -2147483647 ∨ 2147483647 < n) : nI n = 0 ∧ eI n = 3 := by
  have : inR n = false := decide_eq_false (by omega)
  unfold nI eI
  rw [this]
  exact ⟨rfl, rfl⟩

theorem big_mul (m : Int) (k : Nat) (hk : 9 ≤ k) (h : 8388608 ≤ m ∨ m ≤ -8388608) : m * 2 ^ k < -2147483647 ∨ 2147483647 < m * 2 ^ k := by
  have hp : (512 : Int) ≤ 2 ^ k := by
    have := Nat.pow_le_pow_right (n := 2) (by decide) hk
    have e : ((2 ^ k : Nat) : Int) = (2 : Int) ^ k := by push_cast; rfl
    rw [← e]
    omega
  rcases h with h | h
  · right
    have a := Int.mul_le_mul h hp (by decide) (by omega)
    omega
  · left
    have a := Int.mul_le_mul (show 8388608 ≤ -m by omega) hp (by decide) (by omega)
    rw [Int.neg_mul] at a
    omega

theorem ent_rf {m e : Int} (h : vr m e = true) : rfN m e = nI (ent m e) ∧ rfE m e = eI (ent m e) := by
  have k := vr_iff.1 h
  by_cases hz : m = 0
  · subst hz
    have : e = 0 := by unfold ab at k; simp at k; omega
    subst this
    exact ⟨by rfl, by rfl⟩
  · by_cases h8 : 8 < e
    · obtain ⟨a, b⟩ := rf_out m e h8 hz
      have hm : 8388608 ≤ m ∨ m ≤ -8388608 := by unfold ab at k; split at k <;> omega
      have hb := out_n (ent m e) (by
        unfold ent flo
        rw [if_neg (by omega)]
        split
        · unfold c3
          rcases hm with hm | hm
          · right; rw [if_neg (by omega), if_pos (by omega)]; decide
          · left; rw [if_pos (by omega)]; decide
        · exact big_mul m e.toNat (by omega) hm)
      rw [a, b, hb.1, hb.2]
      exact ⟨rfl, rfl⟩
    · have hv : rfV m e = ent m e := by
        unfold rfV ent flo
        by_cases h0 : e = 0
        · subst h0; simp
        · by_cases h1 : 0 ≤ e
          · rw [if_pos h1, if_neg (by omega), if_neg (by omega)]
          · rw [if_neg h1, if_pos (by omega)]
      rw [← hv]
      exact rf_eq m e (by omega)

theorem rnd_int {m e : Int} (h : vr m e = true) (h0 : 0 ≤ e) : rfN m e = nI (rnd m e) ∧ rfE m e = eI (rnd m e) := by
  have k := vr_iff.1 h
  by_cases hz : m = 0
  · subst hz
    have : e = 0 := by unfold ab at k; simp at k; omega
    subst this
    exact ⟨by rfl, by rfl⟩
  · have hm : 8388608 ≤ m ∨ m ≤ -8388608 := by unfold ab at k; split at k <;> omega
    have hr : e + 1 ≤ 38 → rnd m e = m * 2 ^ e.toNat := fun h38 => by
      unfold rnd flo
      rw [if_neg (by omega), if_neg (by omega), show (e + 1).toNat = e.toNat + 1 from by omega, Int.pow_succ, ← Int.mul_assoc]
      generalize m * 2 ^ e.toNat = z
      omega
    by_cases h8 : 8 < e
    · obtain ⟨a, b⟩ := rf_out m e h8 hz
      have hb := out_n (rnd m e) (by
        by_cases h38 : e + 1 ≤ 38
        · rw [hr h38]
          exact big_mul m e.toNat (by omega) hm
        · unfold rnd flo
          rw [if_neg (by omega), if_pos (by omega)]
          unfold c3
          rcases hm with hm | hm
          · right; rw [if_neg (by omega), if_pos (by omega)]; decide
          · left; rw [if_pos (by omega)]; decide)
      rw [a, b, hb.1, hb.2]
      exact ⟨rfl, rfl⟩
    · rw [hr (by omega)]
      have hv : rfV m e = m * 2 ^ e.toNat := by unfold rfV; rw [if_pos h0]
      rw [← hv]
      exact rf_eq m e (by omega)

theorem rnd_far {m e : Int} (h : vr m e = true) (h0 : e < -40) : nI (rnd m e) = 0 ∧ eI (rnd m e) = 0 := by
  obtain ⟨b1, b2, _, _⟩ := vr_bd h
  have hd : rnd m e = 0 := by
    unfold rnd flo
    rw [if_pos (by omega), div_pow_far m _ (by omega) (by omega) (by omega)]
    split <;> rfl
  rw [hd]
  exact ⟨rfl, rfl⟩

theorem rnd_mid (m : Int) (k : Nat) (h1 : 1 ≤ k) : rfN (m + 2 ^ (k - 1)) (-(k : Int)) = nI (rnd m (-(k : Int))) ∧ rfE (m + 2 ^ (k - 1)) (-(k : Int)) = eI (rnd m (-(k : Int))) := by
  have hv : rfV (m + 2 ^ (k - 1)) (-(k : Int)) = rnd m (-(k : Int)) := by
    unfold rfV rnd flo
    rw [if_neg (by omega), if_pos (by omega), Int.neg_neg, Int.toNat_natCast, show (-(-(k : Int) + 1)).toNat = k - 1 from by omega]
    have hp : (0 : Int) < 2 ^ (k - 1) := pow_pos _
    have e1 : (2 : Int) ^ k = 2 ^ (k - 1) * 2 := by
      obtain ⟨j, rfl⟩ : ∃ j, k = j + 1 := ⟨k - 1, by omega⟩
      rw [Nat.add_sub_cancel, Int.pow_succ]
    rw [e1, ← Int.ediv_ediv_of_nonneg (Int.le_of_lt hp)]
    congr 1
    have := Int.add_mul_ediv_right m 1 (c := 2 ^ (k - 1)) (by omega)
    rw [Int.one_mul] at this
    exact this
  rw [← hv]
  exact rf_eq _ _ (by omega)

set_option maxRecDepth 100000 in
set_option maxHeartbeats 1600000 in
set_option maxHeartbeats 4000000 in
theorem bad (m e : Int) (w : World) (h1 : -9223372036854775808 ≤ m) (h2 : m ≤ 9223372036854775807) (HV : Hid (vr m e = false)) (HS : Hid (∀ W, Below w.heap.size w W → Calls Tryz.prog 17 #[] W fun r W' => r = .returned (.bool true) ∧ Below W.heap.size W W')) :
    Calls Tryz.prog 5 #[realV m e] w fun r w' => r = .returned (.bool true) ∧ Below w.heap.size w w' := by
  have HR : Hid (∀ W : World, Calls Tryz.prog 24 #[realV m e] W fun r w' => r = .returned (.bool false) ∧ Below W.heap.size W w') := Lib.hid (fun W => by have := rvalid_any m e W h1 h2; rwa [HV.out] at this)
  go_enter Tryz.func5, Tryz.ntmps5
  go_wp2_with fail
  refine (entier_bad m e _ HV h1 h2).mono ?_
  rintro r w1 ⟨rfl, hb1⟩
  have c0_0 : w1.cell? ⟨w.heap.size, 0, none⟩ = some (.int .i64 m) := carry hb1 (by first | with_reducible assumption | go_simp)
  have c0_1 : w1.cell? ⟨w.heap.size, 1, none⟩ = some (.int .i64 e) := carry hb1 (by first | with_reducible assumption | go_simp)
  have z0 : w.heap.size < w1.heap.size := by have := hb1.size; first | omega | (simp at this; omega)
  have HBB := Lib.hid ((by repeat (first | with_reducible exact Below.refl _ _ | with_reducible refine Below.setCell ?_ (by first | omega | (simp; done) | (simp; omega)) _ | with_reducible refine Below.drew ?_ | with_reducible refine belowN ?_ _ | with_reducible refine Below.alloc ?_ (by first | omega | (simp; done) | (simp; omega)) _) : Below w.heap.size w _).trans (hb1.mono (by first | omega | (simp; done) | (simp; omega))))
  clear hb1
  go_wp2_with fail
  refine (round_bad m e _ HV h1 h2).mono ?_
  rintro r w2 ⟨rfl, hb2⟩
  have c0_0 : w2.cell? ⟨w.heap.size, 0, none⟩ = some (.int .i64 m) := carry hb2 (by first | with_reducible assumption | go_simp)
  have c0_1 : w2.cell? ⟨w.heap.size, 1, none⟩ = some (.int .i64 e) := carry hb2 (by first | with_reducible assumption | go_simp)
  have z0 : w.heap.size < w2.heap.size := by have := hb2.size; first | omega | (simp at this; omega)
  have HBB := Lib.hid ((by repeat (first | with_reducible exact HBB.out | with_reducible refine Below.setCell ?_ (by first | omega | (simp; done) | (simp; omega)) _ | with_reducible refine Below.drew ?_ | with_reducible refine belowN ?_ _ | with_reducible refine Below.alloc ?_ (by first | omega | (simp; done) | (simp; omega)) _) : Below w.heap.size w _).trans (hb2.mono (by first | omega | (simp; done) | (simp; omega))))
  clear hb2
  go_wp2_with fail
  refine (HR.out _).mono ?_
  rintro r w3 ⟨rfl, hb3⟩
  have c0_0 : w3.cell? ⟨w.heap.size, 0, none⟩ = some (.int .i64 m) := carry hb3 (by first | with_reducible assumption | go_simp)
  have c0_1 : w3.cell? ⟨w.heap.size, 1, none⟩ = some (.int .i64 e) := carry hb3 (by first | with_reducible assumption | go_simp)
  have z0 : w.heap.size < w3.heap.size := by have := hb3.size; first | omega | (simp at this; omega)
  have HBB := Lib.hid ((by repeat (first | with_reducible exact HBB.out | with_reducible refine Below.setCell ?_ (by first | omega | (simp; done) | (simp; omega)) _ | with_reducible refine Below.drew ?_ | with_reducible refine belowN ?_ _ | with_reducible refine Below.alloc ?_ (by first | omega | (simp; done) | (simp; omega)) _) : Below w.heap.size w _).trans (hb3.mono (by first | omega | (simp; done) | (simp; omega))))
  clear hb3
  go_wp2_with fail
  refine (HS.out _ HBB.out).mono ?_
  rintro r w4 ⟨rfl, hb4⟩
  have c0_0 : w4.cell? ⟨w.heap.size, 0, none⟩ = some (.int .i64 m) := carry hb4 (by first | with_reducible assumption | go_simp)
  have c0_1 : w4.cell? ⟨w.heap.size, 1, none⟩ = some (.int .i64 e) := carry hb4 (by first | with_reducible assumption | go_simp)
  have z0 : w.heap.size < w4.heap.size := by have := hb4.size; first | omega | (simp at this; omega)
  have HBB := Lib.hid ((by repeat (first | with_reducible exact HBB.out | with_reducible refine Below.setCell ?_ (by first | omega | (simp; done) | (simp; omega)) _ | with_reducible refine Below.drew ?_ | with_reducible refine belowN ?_ _ | with_reducible refine Below.alloc ?_ (by first | omega | (simp; done) | (simp; omega)) _) : Below w.heap.size w _).trans (hb4.mono (by first | omega | (simp; done) | (simp; omega))))
  clear hb4
  go_wp2_with fail
  go_ret
  exact ⟨rfl, HBB.out⟩

set_option maxRecDepth 100000 in
set_option maxHeartbeats 1600000 in
set_option maxHeartbeats 4000000 in
theorem good (m e p q s t : Int) (w : World) (h1 : -9223372036854775808 ≤ m) (h2 : m ≤ 9223372036854775807) (HV : Hid (vr m e = true))
    (HE : Hid (∀ W : World, Calls Tryz.prog 18 #[realV m e] W fun r w' => r = .returned (iE p q) ∧ Below W.heap.size W w'))
    (HO : Hid (∀ W : World, Calls Tryz.prog 20 #[realV m e] W fun r w' => r = .returned (iE s t) ∧ Below W.heap.size W w'))
    (HRE : Hid (∀ W : World, Calls Tryz.prog 25 #[realV m e] W fun r w' => r = .returned (.agg #[.int .i64 p, .int .i64 q]) ∧ Below W.heap.size W w'))
    (HRO : Hid (∀ W : World, Calls Tryz.prog 26 #[realV m e] W fun r w' => r = .returned (.agg #[.int .i64 s, .int .i64 t]) ∧ Below W.heap.size W w')) (HS : Hid (∀ W, Below w.heap.size w W → Calls Tryz.prog 17 #[] W fun r W' => r = .returned (.bool true) ∧ Below W.heap.size W W')) :
    Calls Tryz.prog 5 #[realV m e] w fun r w' => r = .returned (.bool true) ∧ Below w.heap.size w w' := by
  have HR : Hid (∀ W : World, Calls Tryz.prog 24 #[realV m e] W fun r w' => r = .returned (.bool true) ∧ Below W.heap.size W w') := Lib.hid (fun W => by have := rvalid_any m e W h1 h2; rwa [HV.out] at this)
  go_enter Tryz.func5, Tryz.ntmps5
  go_wp2_with fail
  refine (HE.out _).mono ?_
  rintro r w1 ⟨rfl, hb1⟩
  have c0_0 : w1.cell? ⟨w.heap.size, 0, none⟩ = some (.int .i64 m) := carry hb1 (by first | with_reducible assumption | go_simp)
  have c0_1 : w1.cell? ⟨w.heap.size, 1, none⟩ = some (.int .i64 e) := carry hb1 (by first | with_reducible assumption | go_simp)
  have z0 : w.heap.size < w1.heap.size := by have := hb1.size; first | omega | (simp at this; omega)
  have HBB := Lib.hid ((by repeat (first | with_reducible exact Below.refl _ _ | with_reducible refine Below.setCell ?_ (by first | omega | (simp; done) | (simp; omega)) _ | with_reducible refine Below.drew ?_ | with_reducible refine belowN ?_ _ | with_reducible refine Below.alloc ?_ (by first | omega | (simp; done) | (simp; omega)) _) : Below w.heap.size w _).trans (hb1.mono (by first | omega | (simp; done) | (simp; omega))))
  clear hb1
  go_wp2_with fail
  refine (HO.out _).mono ?_
  rintro r w2 ⟨rfl, hb2⟩
  have c0_0 : w2.cell? ⟨w.heap.size, 0, none⟩ = some (.int .i64 m) := carry hb2 (by first | with_reducible assumption | go_simp)
  have c0_1 : w2.cell? ⟨w.heap.size, 1, none⟩ = some (.int .i64 e) := carry hb2 (by first | with_reducible assumption | go_simp)
  have z0 : w.heap.size < w2.heap.size := by have := hb2.size; first | omega | (simp at this; omega)
  have HBB := Lib.hid ((by repeat (first | with_reducible exact HBB.out | with_reducible refine Below.setCell ?_ (by first | omega | (simp; done) | (simp; omega)) _ | with_reducible refine Below.drew ?_ | with_reducible refine belowN ?_ _ | with_reducible refine Below.alloc ?_ (by first | omega | (simp; done) | (simp; omega)) _) : Below w.heap.size w _).trans (hb2.mono (by first | omega | (simp; done) | (simp; omega))))
  clear hb2
  go_wp2_with fail
  refine (HR.out _).mono ?_
  rintro r w3 ⟨rfl, hb3⟩
  have c0_0 : w3.cell? ⟨w.heap.size, 0, none⟩ = some (.int .i64 m) := carry hb3 (by first | with_reducible assumption | go_simp)
  have c0_1 : w3.cell? ⟨w.heap.size, 1, none⟩ = some (.int .i64 e) := carry hb3 (by first | with_reducible assumption | go_simp)
  have z0 : w.heap.size < w3.heap.size := by have := hb3.size; first | omega | (simp at this; omega)
  have HBB := Lib.hid ((by repeat (first | with_reducible exact HBB.out | with_reducible refine Below.setCell ?_ (by first | omega | (simp; done) | (simp; omega)) _ | with_reducible refine Below.drew ?_ | with_reducible refine belowN ?_ _ | with_reducible refine Below.alloc ?_ (by first | omega | (simp; done) | (simp; omega)) _) : Below w.heap.size w _).trans (hb3.mono (by first | omega | (simp; done) | (simp; omega))))
  clear hb3
  go_wp2_with fail
  refine (HRE.out _).mono ?_
  rintro r w4 ⟨rfl, hb4⟩
  have c0_0 : w4.cell? ⟨w.heap.size, 0, none⟩ = some (.int .i64 m) := carry hb4 (by first | with_reducible assumption | go_simp)
  have c0_1 : w4.cell? ⟨w.heap.size, 1, none⟩ = some (.int .i64 e) := carry hb4 (by first | with_reducible assumption | go_simp)
  have z0 : w.heap.size < w4.heap.size := by have := hb4.size; first | omega | (simp at this; omega)
  have HBB := Lib.hid ((by repeat (first | with_reducible exact HBB.out | with_reducible refine Below.setCell ?_ (by first | omega | (simp; done) | (simp; omega)) _ | with_reducible refine Below.drew ?_ | with_reducible refine belowN ?_ _ | with_reducible refine Below.alloc ?_ (by first | omega | (simp; done) | (simp; omega)) _) : Below w.heap.size w _).trans (hb4.mono (by first | omega | (simp; done) | (simp; omega))))
  clear hb4
  have hz4 := HBB.out.size
  go_wp2_with fail
  refine (HRO.out _).mono ?_
  rintro r w5 ⟨rfl, hb5⟩
  have d0 : w5.cell? ⟨w4.heap.size, 0, none⟩ = some (.int .i64 p) := carry hb5 (by first | with_reducible assumption | go_simp)
  have d1 : w5.cell? ⟨w4.heap.size, 1, none⟩ = some (.int .i64 q) := carry hb5 (by first | with_reducible assumption | go_simp)
  have hy5 : w4.heap.size < w5.heap.size := by have := hb5.size; simp at this; omega
  have c0_0 : w5.cell? ⟨w.heap.size, 0, none⟩ = some (.int .i64 m) := carry hb5 (by first | with_reducible assumption | go_simp)
  have c0_1 : w5.cell? ⟨w.heap.size, 1, none⟩ = some (.int .i64 e) := carry hb5 (by first | with_reducible assumption | go_simp)
  have z0 : w.heap.size < w5.heap.size := by have := hb5.size; first | omega | (simp at this; omega)
  have HBB := Lib.hid ((by repeat (first | with_reducible exact HBB.out | with_reducible refine Below.setCell ?_ (by first | omega | (simp; done) | (simp; omega)) _ | with_reducible refine Below.drew ?_ | with_reducible refine belowN ?_ _ | with_reducible refine Below.alloc ?_ (by first | omega | (simp; done) | (simp; omega)) _) : Below w.heap.size w _).trans (hb5.mono (by first | omega | (simp; done) | (simp; omega))))
  clear hb5
  have hz5 := HBB.out.size
  go_wp2_with fail
  refine (HS.out _ (by repeat (first | with_reducible exact HBB.out | with_reducible exact Below.refl _ _ | with_reducible refine Below.drew ?_ | with_reducible refine belowN ?_ _ | with_reducible refine Below.setCell ?_ (by first | omega | (simp; done) | (simp; omega)) _ | with_reducible refine Below.alloc ?_ (by first | omega | (simp; done) | (simp; omega)) _))).mono ?_
  rintro r w6 ⟨rfl, hb6⟩
  have g0 : w6.cell? ⟨w4.heap.size, 0, none⟩ = some (.int .i64 p) := carry hb6 (by first | with_reducible assumption | go_simp)
  have g1 : w6.cell? ⟨w4.heap.size, 1, none⟩ = some (.int .i64 q) := carry hb6 (by first | with_reducible assumption | go_simp)
  have g2 : w6.cell? ⟨w5.heap.size, 0, none⟩ = some (.int .i64 s) := carry hb6 (by first | with_reducible assumption | go_simp)
  have g3 : w6.cell? ⟨w5.heap.size, 1, none⟩ = some (.int .i64 t) := carry hb6 (by first | with_reducible assumption | go_simp)
  have hy6 : w5.heap.size < w6.heap.size := by have := hb6.size; simp at this; omega
  have hy7 : w4.heap.size < w6.heap.size := by omega
  have HBX := Lib.hid ((by repeat (first | with_reducible exact HBB.out | with_reducible exact Below.refl _ _ | with_reducible refine Below.drew ?_ | with_reducible refine belowN ?_ _ | with_reducible refine Below.setCell ?_ (by first | omega | (simp; done) | (simp; omega)) _ | with_reducible refine Below.alloc ?_ (by first | omega | (simp; done) | (simp; omega)) _) : Below w.heap.size w _).trans (hb6.mono (by simp <;> omega)))
  clear hb6 d0 d1
  go_wp2_with fail
  go_ret
  exact ⟨rfl, HBX.out⟩

theorem run (m e : Int) (w : World) (w0 : (Lit.int .i64 m).wf = true) (w1 : (Lit.int .i64 e).wf = true) (hP : P10 w) (hQ : TabQ w) :
    Calls Tryz.prog 5 #[realV m e] w fun r w' => r = .returned (.bool true) ∧ Below w.heap.size w w' := by
  have HS := hsan w hP hQ
  have hb : -9223372036854775808 ≤ m ∧ m ≤ 9223372036854775807 := by simpa [Lit.wf, IntKind.min, IntKind.max, IntKind.signed, IntKind.bits] using w0
  cases hv : vr m e
  · exact bad m e w hb.1 hb.2 (Lib.hid hv) HS
  · obtain ⟨b1, b2, b3, b4⟩ := vr_bd hv
    obtain ⟨x1, x2⟩ := ent_rf hv
    have HE := Lib.hid (fun W => entier_ok m e W (Lib.hid hv))
    have HO : Hid (∀ W : World, Calls Tryz.prog 20 #[realV m e] W fun r w' => r = .returned (iE (nI (rnd m e)) (eI (rnd m e))) ∧ Below W.heap.size W w') := Lib.hid (fun W => round_ok m e W (Lib.hid hv))
    have HRE := Lib.hid (fun W => rent_any m e W (by omega) (by omega) (by omega))
    rw [x1, x2] at HRE
    by_cases h0 : 0 ≤ e
    · obtain ⟨y1, y2⟩ := rnd_int hv h0
      have HRO := Lib.hid (fun W => rrd_int m e W (by omega) (by omega) h0)
      rw [y1, y2] at HRO
      exact good m e _ _ _ _ w hb.1 hb.2 (Lib.hid hv) HE HO HRE HRO HS
    · by_cases h4 : e < -40
      · obtain ⟨y1, y2⟩ := rnd_far hv h4
        have HRO := Lib.hid (fun W => rrd_far m e W h4)
        rw [y1, y2] at HO
        exact good m e _ _ _ _ w hb.1 hb.2 (Lib.hid hv) HE HO HRE HRO HS
      · obtain ⟨k, rfl⟩ : ∃ k : Nat, e = -(k : Int) := ⟨(-e).toNat, by omega⟩
        obtain ⟨y1, y2⟩ := rnd_mid m k (by omega)
        have HRO := Lib.hid (fun W => rrd_mid m k W (by omega) (by omega) (by omega) (by omega))
        rw [y1, y2] at HRO
        exact good m _ _ _ _ _ w hb.1 hb.2 (Lib.hid hv) HE HO HRE HRO HS

end Go.Proofs.YtdhcahidpiiplaaGreatDoor.realIntegers
