/-
  Several texts in one (NatP, NatQ, NatR).
-/
import Derived.Test.YtbfknapmhkpgcaaGreatDoorNaB
import Derived.Test.YtbfknapmhkpgcaaGreatDoorNaS
import Derived.Test.YtbfknapmhkpgcaaGreatDoorNaA

namespace Go.Proofs.YtbfknapmhkpgcaaGreatDoor
open Go.RowKit
set_option linter.unusedVariables false

theorem st_le {n Q E : Nat} (hQ : 0 < Q) : (2 * (n / Q) + (if n % Q = 0 then 0 else 1) ≤ 2 * E ↔ n ≤ E * Q) ∧ (2 * (n / Q) + (if n % Q = 0 then 0 else 1) = 2 * E ↔ n = E * Q) := by
  have hd := Nat.div_add_mod n Q
  have hm := Nat.mod_lt n hQ
  generalize n / Q = f at *
  generalize n % Q = r at *
  rw [Nat.mul_comm] at hd
  rcases Nat.lt_trichotomy f E with h | h | h
  · have h1 := Nat.mul_le_mul_right Q (show f + 1 ≤ E from h)
    rw [Nat.add_mul, Nat.one_mul] at h1
    generalize f * Q = X at *
    generalize E * Q = Y at *
    split <;> exact ⟨by omega, by omega⟩
  · subst h
    generalize f * Q = X at *
    split <;> exact ⟨by omega, by omega⟩
  · have h1 := Nat.mul_le_mul_right Q (show E + 1 ≤ f from h)
    rw [Nat.add_mul, Nat.one_mul] at h1
    generalize f * Q = X at *
    generalize E * Q = Y at *
    split <;> exact ⟨by omega, by omega⟩

/-- the quotient's bits against a middle -/
theorem q_mid {A K H F : Nat} (hK : 0 < K) (N : Nat) (hN : N = 2 * (A * 2 ^ 212 / K) + (if A * 2 ^ 212 % K = 0 then 0 else 1)) :
    (A * 2 ^ 151 ≤ H * (K * 2 ^ F) ↔ 2 * N ≤ H * 2 ^ (F + 63)) ∧ (H * (K * 2 ^ F) = A * 2 ^ 151 ↔ 2 * N = H * 2 ^ (F + 63)) := by
  have h := st_le (n := A * 2 ^ 212) (Q := K) (E := H * 2 ^ (F + 61)) hK
  rw [← hN] at h
  have e1 : A * 2 ^ 212 = A * 2 ^ 151 * 2 ^ 61 := by rw [Nat.mul_assoc, ← Nat.pow_add]
  have e2 : H * 2 ^ (F + 61) * K = H * (K * 2 ^ F) * 2 ^ 61 := by
    rw [Nat.pow_add]
    simp only [Nat.mul_assoc, Nat.mul_comm, Nat.mul_left_comm]
  have e3 : H * 2 ^ (F + 63) = 2 * (2 * (H * 2 ^ (F + 61))) := by
    rw [show F + 63 = (F + 61) + 2 from rfl, Nat.pow_add 2 (F + 61) 2]
    generalize 2 ^ (F + 61) = Z
    rw [← Nat.mul_assoc]
    omega
  rw [e1, e2] at h
  rw [e3]
  clear e1 e2 e3 hN
  obtain ⟨P, hP⟩ : ∃ P, P = 2 ^ 61 := ⟨_, rfl⟩
  have hp : 0 < P := by rw [hP]; exact Nat.pow_pos (by decide)
  rw [← hP] at h
  clear hP
  generalize H * 2 ^ (F + 61) = Z at *
  obtain ⟨X, hX⟩ : ∃ X, X = A * 2 ^ 151 := ⟨_, rfl⟩
  rw [← hX] at h ⊢
  clear hX
  generalize H * (K * 2 ^ F) = Y at *
  have g1 : X * P ≤ Y * P ↔ X ≤ Y := ⟨fun g => Nat.le_of_mul_le_mul_right g hp, fun g => Nat.mul_le_mul_right P g⟩
  have g2 : X * P = Y * P ↔ X = Y := ⟨fun g => Nat.eq_of_mul_eq_mul_right hp g, fun g => by rw [g]⟩
  rw [g1, g2] at h
  clear g1 g2
  exact ⟨by omega, by omega⟩

theorem ab_abs (x : Int) : ab x = (x.natAbs : Int) := by unfold ab; split <;> omega
theorem hf_nn {i : Int} (h : 0 ≤ i) : 0 ≤ Hf i := by
  have hm : 0 ≤ aM i := by unfold aM sx ab; (repeat' split) <;> omega
  unfold Hf
  exact Int.mul_nonneg (by omega) (Int.le_of_lt (Int.pow_pos (by decide)))
theorem sg_mul (a b : Int) (s t : Bool) (hs : s = true ↔ a < 0) (ht : t = true ↔ b < 0) : ((s != t) = true ∧ a * b ≤ 0) ∨ ((s != t) = false ∧ 0 ≤ a * b) := by
  have a0 : s = false → 0 ≤ a := fun h => by
    by_cases hc : a < 0
    · rw [hs.2 hc] at h; cases h
    · omega
  have b0 : t = false → 0 ≤ b := fun h => by
    by_cases hc : b < 0
    · rw [ht.2 hc] at h; cases h
    · omega
  have a1 : s = true → 0 ≤ -a := fun h => by have := hs.1 h; omega
  have b1 : t = true → 0 ≤ -b := fun h => by have := ht.1 h; omega
  clear hs ht
  cases s <;> cases t
  · right
    exact ⟨rfl, Int.mul_nonneg (a0 rfl) (b0 rfl)⟩
  · left
    refine ⟨rfl, ?_⟩
    have h := Int.mul_nonneg (a0 rfl) (b1 rfl)
    rw [Int.mul_neg] at h
    omega
  · left
    refine ⟨rfl, ?_⟩
    have h := Int.mul_nonneg (a1 rfl) (b0 rfl)
    rw [Int.neg_mul] at h
    omega
  · right
    refine ⟨rfl, ?_⟩
    have h := Int.mul_nonneg (a1 rfl) (b1 rfl)
    rw [Int.neg_mul_neg] at h
    exact h

/-- over 2^300 -/
theorem hs_300 {num : Int} {n : Nat} (h : num = (n : Int)) : ∀ i, 0 ≤ i → (num * 2 ^ 151 ≤ Hf i * (2 ^ 150 * 2 ^ 150) ↔ 2 * (n : Int) ≤ Hf i * 2 ^ 150) ∧ (Hf i * (2 ^ 150 * 2 ^ 150) = num * 2 ^ 151 ↔ 2 * (n : Int) = Hf i * 2 ^ 150) := by
  intro i _
  subst h
  have hp : (0 : Int) < 2 ^ 150 := Int.pow_pos (by decide)
  have e : (2 : Int) ^ 151 = 2 ^ 150 * 2 := Int.pow_succ _ _
  rw [e]
  obtain ⟨P, hP⟩ : ∃ P, P = (2 : Int) ^ 150 := ⟨_, rfl⟩
  rw [← hP] at hp ⊢
  clear hP e
  generalize Hf i = H
  have e2 : (n : Int) * (P * 2) = 2 * (n : Int) * P := by rw [Int.mul_comm P 2, ← Int.mul_assoc, Int.mul_comm (n : Int) 2]
  rw [e2, ← Int.mul_assoc]
  refine ⟨⟨fun h => Int.le_of_mul_le_mul_right h hp, fun h => Int.mul_le_mul_of_nonneg_right h (Int.le_of_lt hp)⟩, ⟨fun h => (Int.eq_of_mul_eq_mul_right (Int.ne_of_gt hp) h).symm, fun h => by rw [h]⟩⟩

theorem rmul_any (m e k f : Int) (w : World) (h1 : vr m e = true) (h2 : vr k f = true) :
    Calls Tryz.prog 30 #[realV m e, realV k f] w fun r w' => r = .returned (rrV (RI (UU m e * UU k f) 150)) ∧ Below w.heap.size w w' := by
  refine (rmul_w m e k f w h1 h2).mono ?_
  rintro r w' ⟨rm, re, ok, rfl, hR, hb⟩
  obtain ⟨rfl, rfl, rfl⟩ := rnd_is (N := UU m e * UU k f) (q := 150) hR (Int.mul_pos p150 p150)
    (sg_mul _ _ _ _ (by rw [decide_eq_true_eq]; exact uu_sg m e) (by rw [decide_eq_true_eq]; exact uu_sg k f))
    (hs_300 (by rw [ab_abs, ab_abs, Int.natAbs_mul, Int.natCast_mul]))
  exact ⟨rfl, hb⟩

theorem q_midI {A K F : Nat} (hK : 0 < K) (i : Int) (hi : 0 ≤ i) :
    ((A : Int) * 2 ^ 151 ≤ Hf i * ((K : Int) * 2 ^ F) ↔ 2 * ((stq A K 212 : Nat) : Int) ≤ Hf i * 2 ^ (F + 63)) ∧ (Hf i * ((K : Int) * 2 ^ F) = (A : Int) * 2 ^ 151 ↔ 2 * ((stq A K 212 : Nat) : Int) = Hf i * 2 ^ (F + 63)) := by
  obtain ⟨H, hH⟩ := Int.eq_ofNat_of_zero_le (hf_nn hi)
  rw [hH]
  have h := q_mid (A := A) (K := K) (H := H) (F := F) hK (stq A K 212) rfl
  have c1 : (A : Int) * 2 ^ 151 = ((A * 2 ^ 151 : Nat) : Int) := by rw [Int.natCast_mul, Int.natCast_pow]; rfl
  have c2 : (H : Int) * ((K : Int) * 2 ^ F) = ((H * (K * 2 ^ F) : Nat) : Int) := by rw [Int.natCast_mul, Int.natCast_mul, Int.natCast_pow]; rfl
  have c3 : (H : Int) * 2 ^ (F + 63) = ((H * 2 ^ (F + 63) : Nat) : Int) := by rw [Int.natCast_mul, Int.natCast_pow]; rfl
  rw [c1, c2, c3]
  clear c1 c2 c3
  generalize stq A K 212 = N at *
  obtain ⟨X, hX⟩ : ∃ X, X = A * 2 ^ 151 := ⟨_, rfl⟩
  rw [← hX] at h ⊢
  clear hX
  generalize H * (K * 2 ^ F) = Y at *
  generalize H * 2 ^ (F + 63) = Z at *
  exact ⟨by omega, by omega⟩

theorem qsg_neg (m k q : Int) (hk : k ≠ 0) (h0 : m = 0 → q = 0) : qsg m (-k) q = - qsg m k q := by
  unfold qsg
  by_cases hm : m = 0
  · rw [h0 hm]; split <;> split <;> rfl
  · have : decide (-k < 0) = !decide (k < 0) := by
      by_cases h : k < 0
      · simp [h]; omega
      · simp [h]; omega
    rw [this]
    cases decide (m < 0) <;> cases decide (k < 0) <;> simp

theorem quM_neg (m k : Int) (hk : k ≠ 0) : quM m (-k) = - quM m k := by
  unfold quM
  have : ab (-k) = ab k := by rw [ab_abs, ab_abs, Int.natAbs_neg]
  rw [this]
  refine qsg_neg _ _ _ hk fun h => ?_
  have : quP m = 0 := by unfold quP; rw [h]; simp [ab]
  rw [this]
  simp [stk]

/-- the index of a quotient at any divisor -/
theorem div_is {m e k f : Int} (h1 : vr m e = true) (h2 : vr k f = true) (k0 : k ≠ 0) :
    rI (quM m k) (quE m e f) = RI (if decide (m < 0) = decide (k < 0) then ((stq (UU m e).natAbs k.natAbs 212 : Nat) : Int) else -((stq (UU m e).natAbs k.natAbs 212 : Nat) : Int)) ((f + 150).toNat + 63) := by
  obtain ⟨m1, m2, e1, e2⟩ := vr_bd h1
  obtain ⟨k1, k2, f1, f2⟩ := vr_bd h2
  have hq : (213 + f).toNat = (f + 150).toNat + 63 := by omega
  have us := uu_sg m e
  have pos : ∀ k : Int, 0 < k → vr k f = true → rI (quM m k) (quE m e f) = RI (if decide (m < 0) = false then ((stq (UU m e).natAbs k.natAbs 212 : Nat) : Int) else -((stq (UU m e).natAbs k.natAbs 212 : Nat) : Int)) ((f + 150).toNat + 63) := by
    intro k hk hv
    rw [div_val h1 hv hk, ← hq]
    unfold DI
    by_cases hm : m < 0
    · rw [if_pos (us.1 hm), if_neg (by simp [hm]), RI_neg, show (-(UU m e)).toNat = (UU m e).natAbs by omega, show k.toNat = k.natAbs by omega]
      unfold RI
      rw [if_neg (by omega), Int.toNat_natCast]
    · rw [if_neg (fun h => hm (us.2 h)), if_pos (by simp [hm]), show (UU m e).toNat = (UU m e).natAbs by have := us; omega, show k.toNat = k.natAbs by omega]
      unfold RI
      rw [if_neg (by omega), Int.toNat_natCast]
  by_cases hk : k < 0
  · have hv : vr (-k) f = true := by
      rw [vr_iff] at h2 ⊢
      have : ab (-k) = ab k := by rw [ab_abs, ab_abs, Int.natAbs_neg]
      rw [this]
      omega
    have hp := pos (-k) (by omega) hv
    rw [quM_neg m k k0, Int.natAbs_neg] at hp
    have hqb := quM_bd m k (by omega) (by omega) (by omega) (by omega) k0
    have hEb : -1000 ≤ quE m e f := by
      obtain ⟨s1, s2, _, _⟩ := quS_bd m (by omega) (by omega)
      unfold quE; omega
    have hn : rI (-(quM m k)) (quE m e f) = -rI (quM m k) (quE m e f) := by
      rw [rI_val _ _ 1000 (by omega) (by omega) (by omega), rI_val _ _ 1000 (by omega) (by omega) (by omega), Int.neg_mul, RI_neg]
    rw [hn] at hp
    have hp2 : rI (quM m k) (quE m e f) = -RI (if decide (m < 0) = false then ((stq (UU m e).natAbs k.natAbs 212 : Nat) : Int) else -((stq (UU m e).natAbs k.natAbs 212 : Nat) : Int)) ((f + 150).toNat + 63) := by omega
    rw [hp2, ← RI_neg, show decide (k < 0) = true by simpa using hk]
    cases decide (m < 0) <;> simp
  · rw [show decide (k < 0) = false by simpa using hk]
    exact pos k (by omega) h2

theorem rdiv_any (m e k f : Int) (w : World) (h1 : vr m e = true) (h2 : vr k f = true) (k0 : k ≠ 0) :
    Calls Tryz.prog 31 #[realV m e, realV k f] w fun r w' => r = .returned (rrV (rI (quM m k) (quE m e f))) ∧ Below w.heap.size w w' := by
  refine (rdiv_w m e k f w h1 h2).mono ?_
  rintro r w' ⟨rm, re, ok, rfl, hR, hb⟩
  have hp : (0 : Int) < 2 ^ (f + 150).toNat := Int.pow_pos (by decide)
  have hK : 0 < k.natAbs := by omega
  have hab : ab (UU k f) = (k.natAbs : Int) * 2 ^ (f + 150).toNat := by
    rw [ab_abs]
    unfold UU
    rw [Int.natAbs_mul, Int.natCast_mul]
    have h9 : (((2 : Int) ^ (f + 150).toNat).natAbs : Int) = (2 : Int) ^ (f + 150).toNat := Int.natAbs_of_nonneg (Int.le_of_lt hp)
    rw [h9]
  rw [hab, ab_abs] at hR
  rw [div_is h1 h2 k0]
  have us := uu_sg m e
  obtain ⟨rfl, rfl, rfl⟩ := rnd_is (N := if decide (m < 0) = decide (k < 0) then ((stq (UU m e).natAbs k.natAbs 212 : Nat) : Int) else -((stq (UU m e).natAbs k.natAbs 212 : Nat) : Int)) (q := (f + 150).toNat + 63) hR (Int.mul_pos (by omega) hp)
    (by
      by_cases h : decide (m < 0) = decide (k < 0)
      · right
        rw [if_pos h, h]
        exact ⟨by simp, by omega⟩
      · left
        rw [if_neg h]
        exact ⟨by simpa using h, by omega⟩)
    (fun i hi => by
      have e : (if decide (m < 0) = decide (k < 0) then ((stq (UU m e).natAbs k.natAbs 212 : Nat) : Int) else -((stq (UU m e).natAbs k.natAbs 212 : Nat) : Int)).natAbs = stq (UU m e).natAbs k.natAbs 212 := by split <;> omega
      rw [e]
      exact q_midI hK i hi)
  exact ⟨rfl, hb⟩

end Go.Proofs.YtbfknapmhkpgcaaGreatDoor

namespace Go.Proofs.YtbfknapmhkpgcaaGreatDoor
open Go.RowKit
set_option linter.unusedVariables false

theorem two_152 (w : World) : Calls Tryz.prog 62 #[.int .i64 152] w fun e w' => ∃ r, e = .returned r ∧ NatIs w' r (2 ^ 152) ∧ Below w.heap.size w w' := two_nat 152 w (by decide)

/-- the index of a root: the least one whose upper middle is not below it -/
structure LoR (num lo : Int) : Prop where
  nn : 0 ≤ lo
  le : lo ≤ 2533359615
  low : lo = 0 ∨ Hf (lo - 1) * Hf (lo - 1) < num
  high : lo = 2533359615 ∨ num ≤ Hf lo * Hf lo
/-- the even one -/
def evR (num lo : Int) : Int := if Hf lo * Hf lo = num ∧ aM lo % 2 ≠ 0 then lo + 1 else lo

set_option maxRecDepth 100000 in
set_option maxHeartbeats 4000000 in
theorem rsqrt_w (m e : Int) (w : World) (h1 : vr m e = true) :
    Calls Tryz.prog 28 #[realV m e] w fun r w' => ∃ lo rm re, r = .returned (realV rm re) ∧ LoR (ab (UU m e) * 2 ^ 152) lo ∧ rm = aM (evR (ab (UU m e) * 2 ^ 152) lo) ∧ re = aE (evR (ab (UU m e) * 2 ^ 152) lo) ∧ Below w.heap.size w w' := by
  obtain ⟨n1, l1⟩ := uu_bd h1
  have HOX := Lib.hid (fun W : World => of_any m e W h1)
  clear h1
  obtain ⟨A, hA⟩ : ∃ A, A = ab (UU m e) := ⟨_, rfl⟩
  obtain ⟨s, hs1⟩ : ∃ s, s = decide (m < 0) := ⟨_, rfl⟩
  rw [← hA] at n1 l1 HOX ⊢
  rw [← hs1] at HOX
  clear hA hs1
  have HPA := Lib.hid (show A < pw 1000 by have h1 := pw_le (show 40 ≤ 1000 by decide); omega)
  have BT := Lib.hid (pw_1000 (pw_big (n := 152) (by decide)))
  have HNL := Lib.hid (show A * 2 ^ 152 < pw 1000 from pw_1000 (pw_mul n1 (by decide) l1 (show (2 : Int) ^ 152 < pw 20 by have := pw_two 152; simp only [show 152 % 15 = 2 from rfl, show 152 / 15 = 10 from rfl] at this; rw [this]; have := pw_le (show 11 ≤ 20 by decide); rw [pw_succ] at this; have := pw_pos 10; omega) (by decide)))
  have HB9 := Lib.hid (fun (i : Int) (h1 : 0 ≤ i) (h2 : i ≤ 2533359615) => show Hf i * Hf i < pw 1000 from pw_1000 (pw_mul (hf_bd h1 (by omega)).1 (hf_bd h1 (by omega)).1 (hf_bd h1 (by omega)).2 (hf_bd h1 (by omega)).2 (by decide)))
  obtain ⟨NN, hNN⟩ : ∃ NN, NN = A * 2 ^ 152 := ⟨_, rfl⟩
  rw [← hNN] at HNL ⊢
  have HEQ := Lib.hid hNN
  clear hNN
  go_enter Tryz.func28, Tryz.ntmps28
  go_wp2_with fail
  refine (HOX.out _).mono ?_
  rintro r wa ⟨o1, k1, c1, o2, k2, c2, rfl, hv1, hd1, hba⟩
  have r0 : wa.cell? ⟨w.heap.size + 1, 0, none⟩ = some (.int .i64 0) := carry hba (by go_simp)
  have r1 : wa.cell? ⟨w.heap.size + 1, 1, none⟩ = some (.int .i64 0) := carry hba (by go_simp)
  have f0 : wa.frozen? ⟨w.heap.size + 1, 0, none⟩ = false := carryF hba (v := .int .i64 0) (by go_simp) (by go_simp)
  have f1 : wa.frozen? ⟨w.heap.size + 1, 1, none⟩ = false := carryF hba (v := .int .i64 0) (by go_simp) (by go_simp)
  have az : w.heap.size + 1 < wa.heap.size := by have := hba.size; simp at this; omega
  have HBA := Lib.hid (show Below w.heap.size w wa by refine Below.trans ?_ (hba.mono (by simp <;> omega)); repeat (first | exact Below.refl _ _ | refine Below.alloc ?_ (by simp <;> omega) _))
  have az1 : w.heap.size + 1 < wa.heap.size := by omega
  clear hba
  go_wp2_with fail
  obtain ⟨wb, hW⟩ : ∃ wb, wb = wa.alloc (.cells #[.bool s, .slice o1 k1 c1, .slice o2 k2 c2] 56) := ⟨_, rfl⟩
  rw [← hW]
  have hab : Below wa.heap.size wa wb := by rw [hW]; exact Below.alloc (Below.refl _ _) (Nat.le_refl _) _
  have b1 : wb.cell? ⟨wa.heap.size, 1, none⟩ = some (.slice o1 k1 c1) := by rw [hW]; clear hW; go_simp
  have hzb : wa.heap.size < wb.heap.size := by rw [hW]; simp
  clear hW
  have q0 := carry hab r0
  have q1 := carry hab r1
  have g0 := carryF hab r0 f0
  have g1 := carryF hab r1 f1
  have hv1b := NatIs.below hv1 hab
  have HBB := Lib.hid (HBA.out.trans (hab.mono HBA.out.size))
  have HB0 := Lib.hid (Below.refl wb.heap.size wb)
  have HSK := Lib.hid (show ∀ wx, Below wb.heap.size wb wx → wx.cell? ⟨wa.heap.size, 1, none⟩ = some (.slice o1 k1 c1) ∧ w.heap.size + 1 < wx.heap.size ∧ wa.heap.size < wx.heap.size from fun wx h => ⟨carry h b1, by have := h.size; omega, by have := h.size; omega⟩)
  have HRB := Lib.hid (show ∀ wx, Below wb.heap.size wb wx → (wx.cell? ⟨w.heap.size + 1, 0, none⟩ = some (.int .i64 0) ∧ wx.cell? ⟨w.heap.size + 1, 1, none⟩ = some (.int .i64 0)) ∧ (wx.frozen? ⟨w.heap.size + 1, 0, none⟩ = false ∧ wx.frozen? ⟨w.heap.size + 1, 1, none⟩ = false) from fun wx h => ⟨⟨carry h q0, carry h q1⟩, carryF h q0 g0, carryF h q1 g1⟩)
  have HNB := Lib.hid (show ∀ wx, Below wb.heap.size wb wx → NatIs wx (.slice o1 k1 c1) A from fun wx h => hv1b.below h)
  clear r0 r1 f0 f1 q0 q1 g0 g1 hv1 hd1 hv1b hab b1
  go_region_held3 (fun wx => wx.cell? ⟨wa.heap.size, 1, none⟩ = some (.slice o1 k1 c1) ∧ w.heap.size + 1 < wx.heap.size ∧ wa.heap.size < wx.heap.size ∧ Below wb.heap.size wb wx) (first | (go_keep; done) | (refine ⟨?_, ?_, ?_, ?_⟩ <;> first | with_reducible assumption | exact (HSK.out _ (by first | with_reducible assumption | with_reducible exact HB0.out | with_reducible exact HB0.out.drew | with_reducible exact Below.drew (by with_reducible assumption))).1 | exact (HSK.out _ (by first | with_reducible assumption | with_reducible exact HB0.out | with_reducible exact HB0.out.drew | with_reducible exact Below.drew (by with_reducible assumption))).2.1 | exact (HSK.out _ (by first | with_reducible assumption | with_reducible exact HB0.out | with_reducible exact HB0.out.drew | with_reducible exact Below.drew (by with_reducible assumption))).2.2 | exact (by first | with_reducible assumption | with_reducible exact HB0.out | with_reducible exact HB0.out.drew | with_reducible exact Below.drew (by with_reducible assumption))))
    (first
      | (go_at_call 62; ((with_reducible refine (two_152 _).mono ?_); rintro r wq ⟨vt, rfl, hvt, hbq⟩; have qb : Below wb.heap.size wb wq := Below.trans (by first | with_reducible assumption | with_reducible exact HB0.out | with_reducible exact HB0.out.drew | with_reducible exact Below.drew (by with_reducible assumption)) (hbq.mono (Below.size (by first | with_reducible assumption | with_reducible exact HB0.out | with_reducible exact HB0.out.drew | with_reducible exact Below.drew (by with_reducible assumption))))))
      | (go_at_call 61; ((refine (mul_nat (.slice o1 k1 c1) vt A (2 ^ 152) _ (HNB.out _ (by first | with_reducible assumption | with_reducible exact HB0.out | with_reducible exact HB0.out.drew | with_reducible exact Below.drew (by with_reducible assumption))) (by with_reducible assumption) HPA.out BT.out).mono ?_); rintro r wq ⟨vN, rfl, hvN, hbq⟩; have qb : Below wb.heap.size wb wq := Below.trans (by first | with_reducible assumption | with_reducible exact HB0.out | with_reducible exact HB0.out.drew | with_reducible exact Below.drew (by with_reducible assumption)) (hbq.mono (Below.size (by first | with_reducible assumption | with_reducible exact HB0.out | with_reducible exact HB0.out.drew | with_reducible exact Below.drew (by with_reducible assumption)))))))
  rename _ ∧ _ ∧ _ ∧ Below wb.heap.size wb _ => hS
  have HNQ := Lib.hid (show ∀ W, Below wq.heap.size wq W → NatIs W vN NN from fun W hW => by rw [HEQ.out]; exact hvN.below hW)
  have HQB := Lib.hid hS.2.2.2
  clear hS hvN qb
  go_wp2_with fail
  obtain ⟨wn, rfl⟩ : ∃ wn, wn = wq := ⟨_, rfl⟩
  clear hbq
  have HW0 := Lib.hid (Below.refl wn.heap.size wn)
  go_loopw [5, 6] (fun x y wr => ∃ lo hi : Int, x = .int .i64 lo ∧ y = .int .i64 hi ∧ 0 ≤ lo ∧ lo ≤ hi ∧ hi ≤ 2533359615 ∧ (lo = 0 ∨ Hf (lo - 1) * Hf (lo - 1) < NN) ∧ (hi = 2533359615 ∨ NN ≤ Hf hi * Hf hi) ∧ Below wn.heap.size wn wr) (fun x y _ => (intOf y - intOf x).toNat)
  case atStart => exact ⟨0, 2533359615, rfl, rfl, Int.le_refl _, by decide, Int.le_refl _, .inl rfl, .inl rfl, Below.refl _ _⟩
  case round =>
    obtain ⟨lo, hi, rfl, rfl, l0, l1, l2, hlo, hhi, hbw⟩ := hrel
    have HLO := Lib.hid hlo
    have HHI := Lib.hid hhi
    have HB2 := Lib.hid hbw
    clear hlo hhi
    by_cases hlt : lo < hi
    · obtain ⟨md, hmd⟩ : ∃ md, md = (lo + hi) / 2 := ⟨_, rfl⟩
      have m1 : lo ≤ md := by omega
      have m2 : md < hi := by omega
      have hw1 : IntKind.i64.wrap (lo + hi) = lo + hi := wrap64' _ (by omega) (by omega)
      have hq : (lo + hi).tdiv 2 = md := by rw [hmd]; exact Int.tdiv_eq_ediv_of_nonneg (by omega)
      have hw2 : IntKind.i64.wrap (md + 1) = md + 1 := wrap64' _ (by omega) (by omega)
      clear hmd
      have HHM := Lib.hid (fun W : World => half_any md W (by omega) (by omega))
      have HBM := Lib.hid (HB9.out md (by omega) (by omega))
      obtain ⟨H, hH⟩ : ∃ H, H = Hf md := ⟨_, rfl⟩
      rw [← hH] at HHM HBM
      have HHB := Lib.hid (show H < pw 1000 from hH ▸ pw_1000 (by have := (hf_bd (i := md) (by omega) (by omega)).2; have := pw_le (show 40 ≤ 700 by decide); omega))
      have HLO2 := Lib.hid (show H * H < NN → (md + 1 = 0 ∨ Hf (md + 1 - 1) * Hf (md + 1 - 1) < NN) from fun h => .inr (by rw [Int.add_sub_cancel, ← hH]; exact h))
      have HHI2 := Lib.hid (show NN ≤ H * H → (md = 2533359615 ∨ NN ≤ Hf md * Hf md) from fun h => .inr (by rw [← hH]; exact h))
      clear hH
      obtain ⟨g, hg⟩ : ∃ g, g = sg (H * H) NN := ⟨_, rfl⟩
      have HG := Lib.hid hg
      clear hg
      by_cases hge : NN ≤ H * H
      · have hg0 : 0 ≤ g := by rw [HG.out]; unfold sg; split <;> (try split) <;> omega
        have HH2 := Lib.hid (HHI2.out hge)
        clear hge
        go_wp2_with fail
        refine (HHM.out _).mono ?_
        rintro r wh ⟨vh, rfl, hvh, hbh⟩
        have HBH := Lib.hid (HB2.out.trans (hbh.mono HB2.out.size))
        clear hbh
        go_wp2_with fail
        refine (mul_nat vh vh H H _ hvh hvh HHB.out HHB.out).mono ?_
        rintro r wp ⟨vp, rfl, hvp, hbp⟩
        have HBP := Lib.hid (HBH.out.trans (hbp.mono HBH.out.size))
        clear hbp
        go_wp2_with fail
        refine (cmp_nat vp vN (H * H) NN _ hvp (HNQ.out _ HBP.out) HBM.out HNL.out).mono ?_
        rw [← HG.out]
        rintro r wc ⟨rfl, hbc⟩
        have HBE := Lib.hid (HBP.out.trans (hbc.mono HBP.out.size))
        clear hbc hvp hvh
        go_wp2_with fail
        case roundEnd => exact ⟨⟨lo, md, rfl, rfl, l0, m1, by omega, HLO.out, HH2.out, HBE.out⟩, by simp only [intOf]; omega⟩
      · have hg0 : ¬ 0 ≤ g := by rw [HG.out]; unfold sg; rw [if_pos (by omega)]; decide
        have HH2 := Lib.hid (HLO2.out (by omega))
        clear hge
        go_wp2_with fail
        refine (HHM.out _).mono ?_
        rintro r wh ⟨vh, rfl, hvh, hbh⟩
        have HBH := Lib.hid (HB2.out.trans (hbh.mono HB2.out.size))
        clear hbh
        go_wp2_with fail
        refine (mul_nat vh vh H H _ hvh hvh HHB.out HHB.out).mono ?_
        rintro r wp ⟨vp, rfl, hvp, hbp⟩
        have HBP := Lib.hid (HBH.out.trans (hbp.mono HBH.out.size))
        clear hbp
        go_wp2_with fail
        refine (cmp_nat vp vN (H * H) NN _ hvp (HNQ.out _ HBP.out) HBM.out HNL.out).mono ?_
        rw [← HG.out]
        rintro r wc ⟨rfl, hbc⟩
        have HBE := Lib.hid (HBP.out.trans (hbc.mono HBP.out.size))
        clear hbc hvp hvh
        go_wp2_with fail
        case roundEnd => exact ⟨⟨md + 1, hi, rfl, rfl, by omega, by omega, l2, HH2.out, HHI.out, HBE.out⟩, by simp only [intOf]; omega⟩
    · have hle : lo = hi := by omega
      subst hle
      have HRR := Lib.hid (show ∀ wx, Below wn.heap.size wn wx → ((wx.cell? ⟨w.heap.size + 1, 0, none⟩ = some (.int .i64 0) ∧ wx.cell? ⟨w.heap.size + 1, 1, none⟩ = some (.int .i64 0)) ∧ (wx.frozen? ⟨w.heap.size + 1, 0, none⟩ = false ∧ wx.frozen? ⟨w.heap.size + 1, 1, none⟩ = false)) ∧ w.heap.size + 1 < wx.heap.size ∧ Below w.heap.size w wx from fun wx h => by
        have hq := HQB.out.trans (h.mono HQB.out.size)
        exact ⟨HRB.out wx hq, (HSK.out wx hq).2.1, HBB.out.trans (hq.mono HBB.out.size)⟩)
      have HL := Lib.hid (show LoR NN lo from ⟨l0, l2, HLO.out, HHI.out⟩)
      clear hlt l1 HSK HRB HLO HHI
      have HHM := Lib.hid (fun W : World => half_any lo W (by omega) (by omega))
      have HBM := Lib.hid (HB9.out lo (by omega) (by omega))
      have HEV := Lib.hid (show (Hf lo * Hf lo = NN ∧ aM lo % 2 ≠ 0 → evR NN lo = lo + 1) ∧ (¬ (Hf lo * Hf lo = NN ∧ aM lo % 2 ≠ 0) → evR NN lo = lo) from ⟨fun h => by unfold evR; rw [if_pos h], fun h => by unfold evR; rw [if_neg h]⟩)
      obtain ⟨H, hH⟩ : ∃ H, H = Hf lo := ⟨_, rfl⟩
      rw [← hH] at HHM HBM HEV
      have HHB := Lib.hid (show H < pw 1000 from hH ▸ pw_1000 (by have := (hf_bd (i := lo) (by omega) (by omega)).2; have := pw_le (show 40 ≤ 700 by decide); omega))
      clear hH
      obtain ⟨g, hg⟩ : ∃ g, g = sg (H * H) NN := ⟨_, rfl⟩
      have HG := Lib.hid hg
      clear hg
      have hfd : ∀ a b w, Sem.run Tryz.prog (Instr.field 23 (.agg #[.int .i64 a, .int .i64 b]) 0) w = .ok (.int .i64 a) w := fun a b w => by kernel_rfl
      by_cases heq : H * H = NN
      · have hg0 : g = 0 := by rw [HG.out, heq]; unfold sg; simp
        subst hg0
        have hm : 0 ≤ aM lo := by unfold aM sx ab; (repeat' split) <;> omega
        have HAT := Lib.hid (fun W : World => rat_any lo W (by omega) (by omega))
        obtain ⟨xm, hxm⟩ : ∃ xm, xm = aM lo := ⟨_, rfl⟩
        obtain ⟨xe, hxe⟩ : ∃ xe, xe = aE lo := ⟨_, rfl⟩
        rw [← hxm] at hm HEV
        rw [← hxm, ← hxe] at HAT
        have hrm : xm.tmod 2 = xm % 2 := Int.tmod_eq_emod_of_nonneg hm
        clear hxm hxe
        by_cases hod : xm % 2 = 0
        · have HE := Lib.hid (show evR NN lo = lo from HEV.out.2 (fun h => h.2 hod))
          have ho : (xm % 2 != 0) = false := by simp [hod]
          clear heq HEV hod
          go_wp2_with fail
          refine (HHM.out _).mono ?_
          rintro r wh ⟨vh, rfl, hvh, hbh⟩
          have HBH := Lib.hid (hbw.trans (hbh.mono hbw.size))
          clear hbh
          go_wp2_with fail
          refine (mul_nat vh vh H H _ hvh hvh HHB.out HHB.out).mono ?_
          rintro r wp ⟨vp, rfl, hvp, hbp⟩
          have HBP := Lib.hid (HBH.out.trans (hbp.mono HBH.out.size))
          clear hbp
          go_wp2_with fail
          refine (cmp_nat vp vN (H * H) NN _ hvp (HNQ.out _ HBP.out) HBM.out HNL.out).mono ?_
          rw [← HG.out]
          rintro r wc ⟨rfl, hbc⟩
          have HBE := Lib.hid (HBP.out.trans (hbc.mono HBP.out.size))
          clear hbc hvp hvh
          go_wp2_with fail
          refine (HAT.out _).mono ?_
          rintro r wf ⟨rfl, hbf⟩
          have HBF := Lib.hid (HBE.out.trans (hbf.mono HBE.out.size))
          clear hbf
          go_wp2_with fail
          refine (rat_any lo _ (by omega) (by omega)).mono ?_
          rintro r wz ⟨rfl, hbz⟩
          have hbx := HBF.out.trans (hbz.mono HBF.out.size)
          obtain ⟨⟨⟨c0, c1'⟩, f0, f1⟩, hz, hbw2⟩ := HRR.out _ hbx
          have HBW := Lib.hid hbw2
          clear hbz hbx hbw2
          obtain ⟨ym, hym⟩ : ∃ ym, ym = aM lo := ⟨_, rfl⟩
          obtain ⟨ye, hye⟩ : ∃ ye, ye = aE lo := ⟨_, rfl⟩
          rw [← hym, ← hye]
          have HP := Lib.hid (show ym = aM (evR NN lo) ∧ ye = aE (evR NN lo) from by rw [HE.out]; exact ⟨hym, hye⟩)
          clear hym hye
          go_wp2_with fail
          refine bodyPost_ret (v := realV ym ye) (by simp [results, Tryz.results28, go_sem, c0, c1']) rfl ⟨_, _, _, rfl, HL.out, HP.out.1, HP.out.2, by repeat (first | with_reducible exact HBW.out | with_reducible refine Below.setCell ?_ (by first | omega | (simp; done) | (simp; omega)) _)⟩
        · have HE := Lib.hid (show evR NN lo = lo + 1 from HEV.out.1 ⟨heq, hod⟩)
          have ho : (xm % 2 != 0) = true := by simp [hod]
          have hwl : IntKind.i64.wrap (lo + 1) = lo + 1 := wrap64' _ (by omega) (by omega)
          clear heq HEV hod
          go_wp2_with fail
          refine (HHM.out _).mono ?_
          rintro r wh ⟨vh, rfl, hvh, hbh⟩
          have HBH := Lib.hid (hbw.trans (hbh.mono hbw.size))
          clear hbh
          go_wp2_with fail
          refine (mul_nat vh vh H H _ hvh hvh HHB.out HHB.out).mono ?_
          rintro r wp ⟨vp, rfl, hvp, hbp⟩
          have HBP := Lib.hid (HBH.out.trans (hbp.mono HBH.out.size))
          clear hbp
          go_wp2_with fail
          refine (cmp_nat vp vN (H * H) NN _ hvp (HNQ.out _ HBP.out) HBM.out HNL.out).mono ?_
          rw [← HG.out]
          rintro r wc ⟨rfl, hbc⟩
          have HBE := Lib.hid (HBP.out.trans (hbc.mono HBP.out.size))
          clear hbc hvp hvh
          go_wp2_with fail
          refine (HAT.out _).mono ?_
          rintro r wf ⟨rfl, hbf⟩
          have HBF := Lib.hid (HBE.out.trans (hbf.mono HBE.out.size))
          clear hbf
          go_wp2_with fail
          refine (rat_any (lo + 1) _ (by omega) (by omega)).mono ?_
          rintro r wz ⟨rfl, hbz⟩
          have hbx := HBF.out.trans (hbz.mono HBF.out.size)
          obtain ⟨⟨⟨c0, c1'⟩, f0, f1⟩, hz, hbw2⟩ := HRR.out _ hbx
          have HBW := Lib.hid hbw2
          clear hbz hbx hbw2
          obtain ⟨ym, hym⟩ : ∃ ym, ym = aM (lo + 1) := ⟨_, rfl⟩
          obtain ⟨ye, hye⟩ : ∃ ye, ye = aE (lo + 1) := ⟨_, rfl⟩
          rw [← hym, ← hye]
          have HP := Lib.hid (show ym = aM (evR NN lo) ∧ ye = aE (evR NN lo) from by rw [HE.out]; exact ⟨hym, hye⟩)
          clear hym hye
          go_wp2_with fail
          refine bodyPost_ret (v := realV ym ye) (by simp [results, Tryz.results28, go_sem, c0, c1']) rfl ⟨_, _, _, rfl, HL.out, HP.out.1, HP.out.2, by repeat (first | with_reducible exact HBW.out | with_reducible refine Below.setCell ?_ (by first | omega | (simp; done) | (simp; omega)) _)⟩
      · have hg0 : (g == 0) = false := by
          simp only [beq_eq_false_iff_ne, ne_eq]
          rw [HG.out]; unfold sg; split <;> (try split) <;> omega
        have HE := Lib.hid (show evR NN lo = lo from HEV.out.2 (fun h => heq h.1))
        clear heq HEV
        go_wp2_with fail
        refine (HHM.out _).mono ?_
        rintro r wh ⟨vh, rfl, hvh, hbh⟩
        have HBH := Lib.hid (hbw.trans (hbh.mono hbw.size))
        clear hbh
        go_wp2_with fail
        refine (mul_nat vh vh H H _ hvh hvh HHB.out HHB.out).mono ?_
        rintro r wp ⟨vp, rfl, hvp, hbp⟩
        have HBP := Lib.hid (HBH.out.trans (hbp.mono HBH.out.size))
        clear hbp
        go_wp2_with fail
        refine (cmp_nat vp vN (H * H) NN _ hvp (HNQ.out _ HBP.out) HBM.out HNL.out).mono ?_
        rw [← HG.out]
        rintro r wc ⟨rfl, hbc⟩
        have HBE := Lib.hid (HBP.out.trans (hbc.mono HBP.out.size))
        clear hbc hvp hvh
        go_wp2_with fail
        refine (rat_any lo _ (by omega) (by omega)).mono ?_
        rintro r wz ⟨rfl, hbz⟩
        have hbx := HBE.out.trans (hbz.mono HBE.out.size)
        obtain ⟨⟨⟨c0, c1'⟩, f0, f1⟩, hz, hbw2⟩ := HRR.out _ hbx
        have HBW := Lib.hid hbw2
        clear hbz hbx hbw2
        obtain ⟨ym, hym⟩ : ∃ ym, ym = aM lo := ⟨_, rfl⟩
        obtain ⟨ye, hye⟩ : ∃ ye, ye = aE lo := ⟨_, rfl⟩
        rw [← hym, ← hye]
        have HP := Lib.hid (show ym = aM (evR NN lo) ∧ ye = aE (evR NN lo) from by rw [HE.out]; exact ⟨hym, hye⟩)
        clear hym hye
        go_wp2_with fail
        refine bodyPost_ret (v := realV ym ye) (by simp [results, Tryz.results28, go_sem, c0, c1']) rfl ⟨_, _, _, rfl, HL.out, HP.out.1, HP.out.2, by repeat (first | with_reducible exact HBW.out | with_reducible refine Below.setCell ?_ (by first | omega | (simp; done) | (simp; omega)) _)⟩
end Go.Proofs.YtbfknapmhkpgcaaGreatDoor

namespace Go.Proofs.YtbfknapmhkpgcaaGreatDoor
open Go.RowKit
set_option linter.unusedVariables false

theorem r_le {n f E : Nat} (h1 : f * f ≤ n) (h2 : n < (f + 1) * (f + 1)) : (2 * f + (if f * f = n then 0 else 1) ≤ 2 * E ↔ n ≤ E * E) ∧ (2 * f + (if f * f = n then 0 else 1) = 2 * E ↔ n = E * E) := by
  rcases Nat.lt_trichotomy f E with h | h | h
  · have h3 := Nat.mul_le_mul (show f + 1 ≤ E from h) (show f + 1 ≤ E from h)
    split <;> exact ⟨by omega, by omega⟩
  · subst h
    split <;> exact ⟨by omega, by omega⟩
  · have h3 := Nat.mul_le_mul (show E + 1 ≤ f from h) (show E + 1 ≤ f from h)
    have h4 : (E + 1) * (E + 1) = E * E + 2 * E + 1 := by rw [Nat.add_mul, Nat.mul_add]; omega
    split <;> exact ⟨by omega, by omega⟩

/-- the root's bits against a middle -/
theorem s_mid {A H : Nat} (N f : Nat) (h1 : f * f ≤ A * 4 ^ 76) (h2 : A * 4 ^ 76 < (f + 1) * (f + 1)) (hN : N = 2 * f + (if f * f = A * 4 ^ 76 then 0 else 1)) :
    (A * 2 ^ 152 ≤ H * H ↔ 2 * N ≤ H * 2 ^ 2) ∧ (H * H = A * 2 ^ 152 ↔ 2 * N = H * 2 ^ 2) := by
  have h := r_le (E := H) h1 h2
  rw [← hN] at h
  have e : (4 : Nat) ^ 76 = 2 ^ 152 := by rw [show (4 : Nat) = 2 ^ 2 from rfl, ← Nat.pow_mul]
  rw [e] at h
  clear h1 h2 hN e
  obtain ⟨X, hX⟩ : ∃ X, X = A * 2 ^ 152 := ⟨_, rfl⟩
  rw [← hX] at h ⊢
  clear hX
  generalize H * H = Y at *
  exact ⟨by omega, by omega⟩

theorem hf_nn' {i : Int} (h : 0 ≤ i) : 0 ≤ Hf i := by
  have hm : 0 ≤ aM i := by unfold aM sx ab; (repeat' split) <;> omega
  unfold Hf
  exact Int.mul_nonneg (by omega) (Int.le_of_lt (Int.pow_pos (by decide)))

theorem s_midI {A : Nat} (i : Int) (hi : 0 ≤ i) :
    ((A : Int) * 2 ^ 152 ≤ Hf i * Hf i ↔ 2 * ((sts A 76 : Nat) : Int) ≤ Hf i * 2 ^ 2) ∧ (Hf i * Hf i = (A : Int) * 2 ^ 152 ↔ 2 * ((sts A 76 : Nat) : Int) = Hf i * 2 ^ 2) := by
  obtain ⟨H, hH⟩ := Int.eq_ofNat_of_zero_le (hf_nn' hi)
  rw [hH]
  obtain ⟨s1, s2⟩ := sqr_spec (A * 4 ^ 76)
  have h := s_mid (A := A) (H := H) (sts A 76) (sqr (A * 4 ^ 76)) s1 s2 rfl
  clear s1 s2
  have c1 : (A : Int) * 2 ^ 152 = ((A * 2 ^ 152 : Nat) : Int) := by rw [Int.natCast_mul, Int.natCast_pow]; rfl
  have c2 : (H : Int) * (H : Int) = ((H * H : Nat) : Int) := by rw [Int.natCast_mul]
  have c3 : (H : Int) * 2 ^ 2 = ((H * 2 ^ 2 : Nat) : Int) := by rw [Int.natCast_mul]; rfl
  rw [c1, c2, c3]
  clear c1 c2 c3
  generalize sts A 76 = N at *
  obtain ⟨X, hX⟩ : ∃ X, X = A * 2 ^ 152 := ⟨_, rfl⟩
  rw [← hX] at h ⊢
  clear hX
  generalize H * H = Y at *
  generalize H * 2 ^ 2 = Z at *
  exact ⟨by omega, by omega⟩

theorem lo_isR {N : Nat} {num lo : Int} (hL : LoR num lo) {R : Nat} (hM : Mid N 2 R) (hR : (R : Int) ≤ 2533359615) (hs : ∀ i, 0 ≤ i → (num ≤ Hf i * Hf i ↔ 2 * (N : Int) ≤ Hf i * 2 ^ 2) ∧ (Hf i * Hf i = num ↔ 2 * (N : Int) = Hf i * 2 ^ 2)) :
    evR num lo = R := by
  have hq : (0 : Int) < 2 ^ 2 := by decide
  have hmono : ∀ i j : Int, 0 ≤ i → i < j → Hf i * 2 ^ 2 < Hf j * 2 ^ 2 := fun i j h0 h => Int.mul_lt_mul_of_pos_right (hf_mono h0 h) hq
  have l1 := hL.nn
  have low : lo = 0 ∨ Hf (lo - 1) * 2 ^ 2 < 2 * (N : Int) := by
    rcases hL.low with h | h
    · exact .inl h
    · by_cases h0 : lo = 0
      · exact .inl h0
      · right
        have := (hs (lo - 1) (by omega)).1
        omega
  have high : lo = 2533359615 ∨ 2 * (N : Int) ≤ Hf lo * 2 ^ 2 := by
    rcases hL.high with h | h
    · exact .inl h
    · right
      exact ((hs lo l1).1).1 h
  have tie := (hs lo l1).2
  have m1 := hM.hi
  have a1 : lo ≤ R := by
    rcases low with h | h
    · omega
    · by_cases hc : lo ≤ R
      · exact hc
      · by_cases he : lo - 1 = R
        · rw [he] at h; omega
        · have := hmono R (lo - 1) (by omega) (by omega); omega
  unfold evR
  by_cases hc : lo = R
  · rw [if_neg]
    · exact hc
    · rintro ⟨h2, h3⟩
      have := hM.ti (by rw [← hc]; exact tie.1 h2)
      rw [← hc] at this
      exact h3 this
  · have hR0 : R ≠ 0 := by omega
    have m2 : Hf ((R : Int) - 1) * 2 ^ 2 ≤ 2 * (N : Int) := by
      rcases hM.lo with h | h
      · exact absurd h hR0
      · exact h
    rcases high with h | h
    · omega
    · have e1 : lo = (R : Int) - 1 := by
        by_cases he : lo = (R : Int) - 1
        · exact he
        · have := hmono lo ((R : Int) - 1) l1 (by omega); omega
      have e2 : Hf ((R : Int) - 1) * 2 ^ 2 = 2 * (N : Int) := by rw [← e1] at m2 ⊢; omega
      have e3 := hM.tl hR0 e2
      rw [← e1] at e2 e3
      rw [if_pos ⟨tie.2 e2.symm, e3⟩]
      omega

theorem sts_big {U : Nat} (h : 1 ≤ U) : 33554432 ≤ sts U 74 := by
  have e : (4 : Nat) ^ 74 = 2 ^ 74 * 2 ^ 74 := by rw [show (4 : Nat) = 2 ^ 2 from rfl, ← Nat.pow_mul, ← Nat.pow_add]
  have h1 : 2 ^ 74 * 2 ^ 74 ≤ U * 4 ^ 74 := by
    rw [e]
    exact Nat.le_mul_of_pos_left _ h
  have h2 := sqr_ge h1
  have h3 : (33554432 : Nat) ≤ 2 ^ 74 := by
    have : (2 : Nat) ^ 25 ≤ 2 ^ 74 := Nat.pow_le_pow_right (by decide) (by decide)
    exact this
  have h4 : 2 * sqr (U * 4 ^ 74) ≤ sts U 74 := Nat.le_add_right _ _
  omega

theorem si_rr (U : Nat) : RR (sts U 76) 2 = RR (sts U 74) 0 := by
  by_cases h : U = 0
  · subst h
    have h1 : sts 0 76 = 0 := by unfold sts; rw [Nat.zero_mul]; rfl
    have h2 : sts 0 74 = 0 := by unfold sts; rw [Nat.zero_mul]; rfl
    rw [h1, h2, RR_zero, RR_zero]
  · rw [show 76 = 74 + 2 from rfl, sts_lift (sts_big (show 1 ≤ U by omega)) 2 2]
    exact RR_scale (sts U 74) 0 2

theorem si_le {m e : Int} (h : vr m e = true) : SI (UU m e) ≤ 2533359615 := by
  obtain ⟨T, hT⟩ : ∃ T : Nat, T = 324 := ⟨_, rfl⟩
  have hu := (UU_abs h T (by have := vr_bd h; omega)).2
  have hU : (UU m e).toNat < 2 ^ T := by
    have c : ((2 : Int) ^ T) = ((2 ^ T : Nat) : Int) := by rw [Int.natCast_pow]; rfl
    rw [c] at hu
    have hp : 0 < (2 : Nat) ^ T := Nat.pow_pos (by decide)
    generalize (2 : Nat) ^ T = P at *
    omega
  have e1 : (2 : Nat) ^ 236 * 2 ^ 236 = 2 ^ T * 4 ^ 74 := by
    rw [show (4 : Nat) = 2 ^ 2 from rfl, ← Nat.pow_mul, ← Nat.pow_add, ← Nat.pow_add]
    congr 1
    omega
  have h1 : (UU m e).toNat * 4 ^ 74 < 2 ^ 236 * 2 ^ 236 := by
    rw [e1]
    exact Nat.mul_lt_mul_of_pos_right hU (Nat.pow_pos (by decide))
  have h2 := sqr_lt h1
  have h3 : sts (UU m e).toNat 74 ≤ 2 * sqr ((UU m e).toNat * 4 ^ 74) + 1 := by unfold sts; split <;> omega
  have h4 : sts (UU m e).toNat 74 ≤ 8388608 * 2 ^ 214 := by
    have e2 : (8388608 : Nat) * 2 ^ 214 = 2 * 2 ^ 236 := by rw [show (8388608 : Nat) = 2 ^ 23 from rfl, ← Nat.pow_add, show 23 + 214 = 236 + 1 from rfl, Nat.pow_succ, Nat.mul_comm]
    rw [e2]
    obtain ⟨P, hP⟩ : ∃ P, P = (2 : Nat) ^ 236 := ⟨_, rfl⟩
    rw [← hP] at h2 ⊢
    clear hP e2 h1 hu e1 hU
    omega
  have h5 := RR_mono h4 0
  rw [RR_full 8388608 214 (by decide) (by decide)] at h5
  unfold SI
  omega

theorem rsqrt_any (m e : Int) (w : World) (h1 : vr m e = true) (hm : 0 ≤ m) :
    Calls Tryz.prog 28 #[realV m e] w fun r w' => r = .returned (realV (oM (SI (UU m e))) (oE (SI (UU m e)))) ∧ Below w.heap.size w w' := by
  refine (rsqrt_w m e w h1).mono ?_
  rintro r w' ⟨lo, rm, re, rfl, hL, rfl, rfl, hb⟩
  have hU : 0 ≤ UU m e := by
    have := uu_sg m e
    omega
  have hab : ab (UU m e) = ((UU m e).toNat : Int) := by unfold ab; rw [if_neg (by omega)]; omega
  have hle := si_le h1
  have hSI : SI (UU m e) = ((RR (sts (UU m e).toNat 76) 2 : Nat) : Int) := by rw [si_rr]; rfl
  rw [hSI] at hle ⊢
  rw [hab] at hL ⊢
  have h := lo_isR hL (rr_mid (sts (UU m e).toNat 76) 2) hle (fun i hi => s_midI i hi)
  rw [h]
  unfold oM oE
  rw [if_pos ⟨by omega, hle⟩, if_pos ⟨by omega, hle⟩]
  exact ⟨rfl, hb⟩

set_option maxRecDepth 100000 in
set_option maxHeartbeats 1600000 in
theorem sqrt_bad (m e : Int) (w : World) (HV : Hid (vr m e = false)) (h1 : -9223372036854775808 ≤ m) (h2 : m ≤ 9223372036854775807) :
    Calls Tryz.prog 27 #[realV m e] w fun r w' => r = .returned (rE 0 0 1) ∧ Below w.heap.size w w' := by
  go_enter Tryz.func27, Tryz.ntmps27
  go_wp2_with fail
  refine (valid_is HV.out _ h1 h2).mono ?_
  rintro r w1 ⟨rfl, hb1⟩
  have f1_0 : w1.frozen? ⟨w.heap.size + 1, 0, none⟩ = false := carryF hb1 (v := .int .i64 0) (by first | with_reducible assumption | go_simp) (by first | with_reducible assumption | go_simp)
  have f1_1 : w1.frozen? ⟨w.heap.size + 1, 1, none⟩ = false := carryF hb1 (v := .int .i64 0) (by first | with_reducible assumption | go_simp) (by first | with_reducible assumption | go_simp)
  have c0_0 : w1.cell? ⟨w.heap.size, 0, none⟩ = some (.int .i64 m) := carry hb1 (by first | with_reducible assumption | go_simp)
  have c0_1 : w1.cell? ⟨w.heap.size, 1, none⟩ = some (.int .i64 e) := carry hb1 (by first | with_reducible assumption | go_simp)
  have z0 : w.heap.size < w1.heap.size := by have := hb1.size; first | omega | (simp at this; omega)
  have c1_0 : w1.cell? ⟨w.heap.size + 1, 0, none⟩ = some (.int .i64 0) := carry hb1 (by first | with_reducible assumption | go_simp)
  have c1_1 : w1.cell? ⟨w.heap.size + 1, 1, none⟩ = some (.int .i64 0) := carry hb1 (by first | with_reducible assumption | go_simp)
  have z1 : w.heap.size + 1 < w1.heap.size := by have := hb1.size; first | omega | (simp at this; omega)
  have HBB := Lib.hid ((by repeat (first | with_reducible exact Below.refl _ _ | with_reducible refine Below.setCell ?_ (by first | omega | (simp; done) | (simp; omega)) _ | with_reducible refine Below.drew ?_ | with_reducible refine belowN ?_ _ | with_reducible refine Below.alloc ?_ (by first | omega | (simp; done) | (simp; omega)) _) : Below w.heap.size w _).trans (hb1.mono (by first | omega | (simp; done) | (simp; omega))))
  clear hb1
  go_wp2_with fail
  refine bodyPost_ret (v := rE 0 0 1) (by simp [results, Tryz.results27, go_sem, c1_0, c1_1]) rfl ⟨rfl, by repeat (first | with_reducible exact HBB.out | with_reducible exact Below.refl _ _ | with_reducible refine Below.drew ?_ | with_reducible refine belowN ?_ _ | with_reducible refine Below.setCell ?_ (by first | omega | (simp; done) | (simp; omega)) _ | with_reducible refine Below.alloc ?_ (by first | omega | (simp; done) | (simp; omega)) _)⟩

end Go.Proofs.YtbfknapmhkpgcaaGreatDoor
