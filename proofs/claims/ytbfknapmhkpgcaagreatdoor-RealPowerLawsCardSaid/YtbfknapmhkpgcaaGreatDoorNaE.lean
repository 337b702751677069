/-
  Several texts in one (ExN).
-/
import Derived.Test.YtbfknapmhkpgcaaGreatDoorNaS

namespace Go.Proofs.YtbfknapmhkpgcaaGreatDoor
open Go.RowKit
set_option linter.unusedVariables false

theorem DI_ex_pos {u k x : Nat} {f : Int} (hk : 0 < k) (hf : -150 ≤ f) (h : u * 2 ^ 150 = x * (k * 2 ^ (f + 150).toNat)) : (RR (stq u k 212) (213 + f).toNat : Int) = (RR x 0 : Int) := by
  obtain ⟨j, hj⟩ : ∃ j : Nat, (j : Int) = f + 212 := ⟨(f + 212).toNat, by omega⟩
  have h2 : u * 2 ^ 212 = k * (x * 2 ^ j) := by
    rw [show (212 : Nat) = 150 + 62 from rfl, Nat.pow_add, ← Nat.mul_assoc, h, show j = (f + 150).toNat + 62 from by omega, Nat.pow_add]
    rw [Nat.mul_assoc, Nat.mul_assoc, Nat.mul_left_comm]
  have hs : stq u k 212 = x * 2 ^ (j + 1) := by
    unfold stq
    rw [h2, Nat.mul_div_cancel_left _ hk, Nat.mul_mod_right, if_pos rfl, Nat.pow_succ, Nat.add_zero, Nat.mul_comm 2, Nat.mul_assoc]
  have := RR_scale x 0 (j + 1)
  rw [hs, show (213 + f).toNat = 0 + (j + 1) from by omega, this]

theorem DI_ex {U k f X : Int} (hk : 0 < k) (hf : -150 ≤ f) (h : U * 2 ^ 150 = X * (k * 2 ^ (f + 150).toNat)) : DI U k f = RI X 0 := by
  have p1 : (0 : Int) < 2 ^ 150 := pow_pos _
  have p2 : (0 : Int) < k * 2 ^ (f + 150).toNat := Int.mul_pos hk (pow_pos _)
  have key : ∀ U X : Int, 0 ≤ U → 0 ≤ X → U * 2 ^ 150 = X * (k * 2 ^ (f + 150).toNat) → DI U k f = RI X 0 := by
    intro U X hU hX h
    obtain ⟨u, rfl⟩ := Int.eq_ofNat_of_zero_le hU
    obtain ⟨x, rfl⟩ := Int.eq_ofNat_of_zero_le hX
    obtain ⟨b, rfl⟩ := Int.eq_ofNat_of_zero_le (Int.le_of_lt hk)
    unfold DI RI
    rw [if_neg (by omega), if_neg (by omega), Int.toNat_natCast, Int.toNat_natCast, Int.toNat_natCast]
    exact DI_ex_pos (by omega) hf (by exact_mod_cast h)
  rcases Int.le_total 0 U with hU | hU
  · have hX : 0 ≤ X := by
      rcases Int.lt_or_le X 0 with g | g
      · exfalso
        have h1 := Int.mul_neg_of_neg_of_pos g p2
        have h2 := Int.mul_nonneg hU (Int.le_of_lt p1)
        omega
      · exact g
    exact key U X hU hX h
  · have hX : 0 ≤ -X := by
      rcases Int.lt_or_le 0 X with g | g
      · exfalso
        have h1 := Int.mul_pos g p2
        have h2 := Int.mul_nonneg (show 0 ≤ -U by omega) (Int.le_of_lt p1)
        rw [Int.neg_mul] at h2
        omega
      · omega
    have := key (-U) (-X) (by omega) hX (by rw [Int.neg_mul, Int.neg_mul, h])
    rw [DI_neg, RI_neg] at this
    omega

theorem quM_neg {m k : Int} (hk : 0 < k) : quM m (-k) = -quM m k := by
  have e1 : ab (-k) = ab k := by unfold ab; split <;> split <;> omega
  unfold quM
  rw [e1]
  generalize stk ((quP m).tdiv (ab k)) ((quP m).tmod (ab k) != 0) = q
  unfold qsg
  have d1 : decide (-k < 0) = true := by simp; omega
  have d2 : decide (k < 0) = false := by simp; omega
  rw [d1, d2]
  cases decide (m < 0) <;> simp

theorem rI_neg {m e : Int} (h1 : -9223372036854775807 ≤ m) (h2 : m ≤ 9223372036854775807) (h3 : -1100 ≤ e) : rI (-m) e = -rI m e := by
  rw [rI_val (-m) e 1000 (by omega) (by omega) (by omega), rI_val m e 1000 (by omega) (by omega) (by omega), Int.neg_mul, RI_neg]

/-- a quotient that is a real is that real -/
theorem div_exact {m e k f n g : Int} (h1 : vr m e = true) (h2 : vr k f = true) (h3 : vr n g = true) (k0 : k ≠ 0) (h : UU m e * 2 ^ 150 = UU n g * UU k f) : rI (quM m k) (quE m e f) = ix n g := by
  obtain ⟨m1, m2, e1, e2⟩ := vr_bd h1
  obtain ⟨k1, k2, f1, f2⟩ := vr_bd h2
  rcases Int.lt_or_le 0 k with hk | hk
  · rw [div_val h1 h2 hk, DI_ex hk f1 h, ← ix_val h3]
  · have hv : vr (-k) f = true := by
      rw [vr_iff] at h2 ⊢
      unfold ab at *
      split at h2 <;> split <;> omega
    have hk' : 0 < -k := by omega
    have a := div_val h1 hv hk'
    have hx : DI (UU m e) (-k) f = RI (-UU n g) 0 := DI_ex hk' f1 (by
      rw [h, Int.neg_mul, Int.neg_mul, Int.mul_neg, Int.neg_neg]
      rfl)
    rw [hx, RI_neg, ← ix_val h3] at a
    have hq := quM_bd m k (by omega) (by omega) (by omega) (by omega) k0
    have hs := quS_bd m (by omega) (by omega)
    have hn := quM_neg (m := m) hk'
    rw [Int.neg_neg] at hn
    have hb := rI_neg (m := quM m (-k)) (e := quE m e f) (by omega) (by omega) (by unfold quE; omega)
    rw [← hn] at hb
    rw [hb, a]
    omega

theorem two_vr {t : Int} (h1 : -127 ≤ t) (h2 : t ≤ 173) : vr 8388608 (t - 23) = true := by
  rw [vr_iff]
  right
  left
  unfold ab
  exact ⟨by decide, by decide, by omega, by omega⟩

theorem two_UU {t : Int} (h1 : -127 ≤ t) : UU 8388608 (t - 23) = 2 ^ (t + 150).toNat := by
  unfold UU
  rw [show (8388608 : Int) = 2 ^ 23 from rfl, ← Int.pow_add]
  congr 1
  omega

theorem rep_sc {M : Int} (h1 : -16777216 < M) (h2 : M < 16777216) (j : Nat) (hj : j ≤ 300) : Rep (M * 2 ^ j) := by
  rcases Int.le_total 0 M with h | h
  · obtain ⟨n, rfl⟩ := Int.eq_ofNat_of_zero_le h
    have := rep_of n j (by omega) hj
    push_cast at this
    exact this
  · obtain ⟨n, hn⟩ := Int.eq_ofNat_of_zero_le (show 0 ≤ -M by omega)
    have := (rep_of n j (by omega) hj).neg
    push_cast at this
    rw [show M = -(n : Int) from by omega, Int.neg_mul]
    exact this

theorem tmod_bd (a : Int) {n : Int} (hn : 0 < n) : -n < a.tmod n ∧ a.tmod n < n := by
  rcases Int.le_total 0 a with h | h
  · have h1 := Int.tmod_nonneg (a := a) n h
    have h2 := Int.tmod_lt_of_pos a hn
    omega
  · have h1 := Int.tmod_nonneg (a := -a) n (by omega)
    have h2 := Int.tmod_lt_of_pos (-a) hn
    rw [Int.neg_tmod] at h1 h2
    omega

end Go.Proofs.YtbfknapmhkpgcaaGreatDoor
