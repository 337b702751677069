/-
  Several texts in one (Stk, Sqr1, Sqr2, Sqr).
-/
import Derived.Test.YtbfknapmhkpgcaaGreatDoorValA
import Derived.Test.YtbfknapmhkpgcaaGreatDoorReal16

namespace Go.Proofs.YtbfknapmhkpgcaaGreatDoor
open Go.RowKit
set_option linter.unusedVariables false

theorem pow_split {a b : Nat} (h : b ≤ a) : 2 ^ a = 2 ^ (a - b) * 2 ^ b := by rw [← Nat.pow_add]; congr 1; omega

/-- between the neighbours of an odd number all is rounded alike -/
theorem RR_between {S d X Q : Nat} (hS : S % 2 = 1) (h25 : 33554432 ≤ S) (h1 : (S - 1) * 2 ^ d < X) (h2 : X < (S + 1) * 2 ^ d) : RR X Q = RR (S * 2 ^ d) Q := by
  have hD : 0 < 2 ^ d := Nat.pow_pos (by decide)
  have hlt := kk_lt (S * 2 ^ d) Q
  obtain ⟨k, hk⟩ : ∃ k, kk (S * 2 ^ d) Q = k := ⟨_, rfl⟩
  have hge := kk_ge (S * 2 ^ d) Q
  rw [hk] at hlt hge
  have hu : d + 2 ≤ Q + k := by
    by_cases h : d + 2 ≤ Q + k
    · exact h
    · exfalso
      have a1 : 2 ^ (Q + 24 + k) ≤ 2 ^ (d + 25) := Nat.pow_le_pow_right (by decide) (by omega)
      have a2 := Nat.mul_le_mul_right (2 ^ d) h25
      have a3 : (2 : Nat) ^ (d + 25) = 33554432 * 2 ^ d := by rw [Nat.pow_add, Nat.mul_comm]
      omega
  obtain ⟨u, hu'⟩ : ∃ u, Q + k = d + u + 2 := ⟨Q + k - d - 2, by omega⟩
  have e24 : 2 ^ (Q + 24 + k) = 2 ^ (u + 26) * 2 ^ d := by rw [← Nat.pow_add]; congr 1; omega
  have hS24 : S < 2 ^ (u + 26) := by
    rw [e24] at hlt
    exact Nat.lt_of_mul_lt_mul_right hlt
  have x24 : X < 2 ^ (Q + 24 + k) := by
    rw [e24]
    exact Nat.lt_of_lt_of_le h2 (Nat.mul_le_mul_right _ hS24)
  have hkX : kk X Q = k := by
    apply kk_unique x24
    by_cases h0 : k = 0
    · exact .inl h0
    · right
      have hg := hge (by omega)
      have e23 : 2 ^ (Q + 23 + k) = 2 ^ (u + 25) * 2 ^ d := by rw [← Nat.pow_add]; congr 1; omega
      rw [e23] at hg ⊢
      have hg2 : 2 ^ (u + 25) ≤ S := Nat.le_of_mul_le_mul_right hg hD
      have hev : 2 ^ (u + 25) = 2 * 2 ^ (u + 24) := by rw [Nat.pow_succ]; omega
      have hg3 : 2 ^ (u + 25) ≤ S - 1 := by omega
      exact Nat.le_of_lt (Nat.lt_of_le_of_lt (Nat.mul_le_mul_right _ hg3) h1)
  unfold RR
  rw [hkX, hk]
  congr 1
  rw [hu']
  have es : 2 ^ (d + u + 2) = 4 * 2 ^ u * 2 ^ d := by rw [show d + u + 2 = 2 + u + d from by omega, Nat.pow_add, Nat.pow_add]
  have eh : 2 ^ (d + u + 2 - 1) = 2 * 2 ^ u * 2 ^ d := by rw [show d + u + 2 - 1 = 1 + u + d from by omega, Nat.pow_add, Nat.pow_add]
  have hU : 0 < 2 ^ u := Nat.pow_pos (by decide)
  obtain ⟨a, r, hr, hSr⟩ : ∃ a r, r < 4 * 2 ^ u ∧ S = a * (4 * 2 ^ u) + r := ⟨S / (4 * 2 ^ u), S % (4 * 2 ^ u), Nat.mod_lt _ (by omega), by rw [Nat.mul_comm]; exact (Nat.div_add_mod _ _).symm⟩
  have hr1 : r % 2 = 1 := by
    have : a * (4 * 2 ^ u) = 2 * (a * (2 * 2 ^ u)) := by rw [Nat.mul_left_comm 2 a]; congr 1; omega
    omega
  have m1 : S * 2 ^ d = a * (4 * 2 ^ u * 2 ^ d) + r * 2 ^ d := by rw [hSr, Nat.add_mul, Nat.mul_assoc]
  have m2 : (S - 1) * 2 ^ d = a * (4 * 2 ^ u * 2 ^ d) + (r - 1) * 2 ^ d := by rw [show S - 1 = a * (4 * 2 ^ u) + (r - 1) from by omega, Nat.add_mul, Nat.mul_assoc]
  have m3 : (S + 1) * 2 ^ d = a * (4 * 2 ^ u * 2 ^ d) + (r + 1) * 2 ^ d := by rw [show S + 1 = a * (4 * 2 ^ u) + (r + 1) from by omega, Nat.add_mul, Nat.mul_assoc]
  have m4 : (r + 1) * 2 ^ d ≤ 4 * 2 ^ u * 2 ^ d := Nat.mul_le_mul_right _ (by omega)
  have m5 : r * 2 ^ d < 4 * 2 ^ u * 2 ^ d := Nat.mul_lt_mul_of_pos_right hr hD
  rw [m2] at h1
  rw [m3] at h2
  obtain ⟨y, hy⟩ : ∃ y, X = a * (4 * 2 ^ u * 2 ^ d) + y := ⟨X - a * (4 * 2 ^ u * 2 ^ d), by omega⟩
  have key : ∀ z, z < 4 * 2 ^ u * 2 ^ d → (2 * 2 ^ u * 2 ^ d < z ↔ 2 * 2 ^ u < r) → z ≠ 2 * 2 ^ u * 2 ^ d → rhe (a * (4 * 2 ^ u * 2 ^ d) + z) (d + u + 2) = a + (if 2 * 2 ^ u < r then 1 else 0) := by
    intro z hz hzr hne
    unfold rhe
    rw [if_neg (by omega), es, eh]
    have d1 : (a * (4 * 2 ^ u * 2 ^ d) + z) / (4 * 2 ^ u * 2 ^ d) = a := by
      rw [Nat.mul_comm a, Nat.mul_add_div (by omega), Nat.div_eq_of_lt hz, Nat.add_zero]
    have d2 : (a * (4 * 2 ^ u * 2 ^ d) + z) % (4 * 2 ^ u * 2 ^ d) = z := by
      rw [Nat.mul_comm a, Nat.mul_add_mod, Nat.mod_eq_of_lt hz]
    rw [d1, d2]
    by_cases hq : 2 * 2 ^ u < r
    · rw [if_pos hq, if_pos (.inl (hzr.2 hq))]
    · rw [if_neg hq, if_neg]
      rintro (g | g)
      · exact hq (hzr.1 g)
      · exact hne g.1
  rw [hy, m1, key y (by omega) ?_ ?_, key (r * 2 ^ d) m5 ?_ ?_]
  · constructor
    · intro g; exact Nat.lt_of_mul_lt_mul_right g
    · intro g; exact Nat.mul_lt_mul_of_pos_right g hD
  · intro g
    have := Nat.eq_of_mul_eq_mul_right hD g
    omega
  · constructor
    · intro g
      by_cases hq : 2 * 2 ^ u < r
      · exact hq
      · have := Nat.mul_le_mul_right (2 ^ d) (show r + 1 ≤ 2 * 2 ^ u by omega)
        omega
    · intro g
      have := Nat.mul_le_mul_right (2 ^ d) (show 2 * 2 ^ u ≤ r - 1 by omega)
      omega
  · intro g
    rcases Nat.lt_or_ge (2 * 2 ^ u) r with hq | hq
    · have := Nat.mul_le_mul_right (2 ^ d) (show 2 * 2 ^ u ≤ r - 1 by omega)
      omega
    · have := Nat.mul_le_mul_right (2 ^ d) (show r + 1 ≤ 2 * 2 ^ u by omega)
      omega

/-- the bits of a quotient, and whether there is more -/
def stq (P Q j : Nat) : Nat := 2 * (P * 2 ^ j / Q) + (if P * 2 ^ j % Q = 0 then 0 else 1)

theorem stq_lift {P Q j : Nat} (hQ : 0 < Q) (h : 33554432 ≤ stq P Q j) (d K : Nat) : RR (stq P Q (j + d)) K = RR (stq P Q j * 2 ^ d) K := by
  have hD : 0 < 2 ^ d := Nat.pow_pos (by decide)
  have hdm := Nat.div_add_mod (P * 2 ^ j) Q
  have hm := Nat.mod_lt (P * 2 ^ j) hQ
  have hP : P * 2 ^ (j + d) = P * 2 ^ j * 2 ^ d := by rw [Nat.pow_add, Nat.mul_assoc]
  unfold stq at h ⊢
  rw [hP]
  generalize P * 2 ^ j = n at *
  generalize hf : n / Q = f at *
  generalize hr : n % Q = r at *
  by_cases h0 : r = 0
  · have e : n * 2 ^ d = Q * (f * 2 ^ d) := by rw [← hdm, h0, Nat.add_zero, Nat.mul_assoc]
    rw [e, Nat.mul_div_cancel_left _ hQ, Nat.mul_mod_right, if_pos rfl, if_pos h0, Nat.add_zero, Nat.add_zero, Nat.mul_assoc]
  · rw [if_neg h0]
    have b1 : f * 2 ^ d * Q < n * 2 ^ d := by
      have : n * 2 ^ d = f * 2 ^ d * Q + r * 2 ^ d := by rw [← hdm, Nat.add_mul]; congr 1; rw [Nat.mul_comm Q f, Nat.mul_right_comm]
      have := Nat.mul_pos (show 0 < r by omega) hD
      omega
    have b2 : n * 2 ^ d < (f + 1) * 2 ^ d * Q := by
      have : (f + 1) * 2 ^ d * Q = (Q * f + Q) * 2 ^ d := by rw [Nat.mul_right_comm, Nat.add_mul, Nat.one_mul, Nat.mul_comm f Q]
      rw [this]
      exact Nat.mul_lt_mul_of_pos_right (by omega) hD
    have f1 : f * 2 ^ d ≤ n * 2 ^ d / Q := by rw [Nat.le_div_iff_mul_le hQ]; omega
    have f2 : n * 2 ^ d / Q < (f + 1) * 2 ^ d := by rw [Nat.div_lt_iff_lt_mul hQ]; omega
    have hdm2 := Nat.div_add_mod (n * 2 ^ d) Q
    refine RR_between (by omega) (by rw [if_neg h0] at h; exact h) ?_ ?_
    · have e : (2 * f + 1 - 1) * 2 ^ d = 2 * (f * 2 ^ d) := by rw [show 2 * f + 1 - 1 = 2 * f from rfl, Nat.mul_assoc]
      rw [e]
      by_cases g : n * 2 ^ d / Q = f * 2 ^ d
      · have hz : n * 2 ^ d % Q ≠ 0 := by
          intro hz
          rw [g, hz, Nat.mul_comm] at hdm2
          omega
        rw [if_neg hz]
        omega
      · omega
    · have e : (2 * f + 1 + 1) * 2 ^ d = 2 * ((f + 1) * 2 ^ d) := by rw [show 2 * f + 1 + 1 = 2 * (f + 1) from by omega, Nat.mul_assoc]
      rw [e]
      split <;> omega

theorem stq_mono {P P' Q : Nat} (hQ : 0 < Q) (h : P ≤ P') (j : Nat) : stq P Q j ≤ stq P' Q j := by
  have hn : P * 2 ^ j ≤ P' * 2 ^ j := Nat.mul_le_mul_right _ h
  unfold stq
  generalize P * 2 ^ j = n at *
  generalize P' * 2 ^ j = n' at *
  have h1 := Nat.div_le_div_right (c := Q) hn
  have d1 := Nat.div_add_mod n Q
  have d2 := Nat.div_add_mod n' Q
  by_cases he : n / Q = n' / Q
  · rw [he] at d1 ⊢
    split <;> split <;> omega
  · split <;> split <;> omega

/-- the whole root -/
def sqr : Nat → Nat
  | 0 => 0
  | n + 1 => if (sqr n + 1) * (sqr n + 1) ≤ n + 1 then sqr n + 1 else sqr n

theorem sqr_spec (n : Nat) : sqr n * sqr n ≤ n ∧ n < (sqr n + 1) * (sqr n + 1) := by
  induction n with
  | zero => decide
  | succ n ih =>
    unfold sqr
    split
    · rename_i h
      refine ⟨h, ?_⟩
      have e : (sqr n + 1 + 1) * (sqr n + 1 + 1) = (sqr n + 1) * (sqr n + 1) + 2 * (sqr n + 1) + 1 := by
        generalize sqr n + 1 = x
        rw [Nat.add_mul, Nat.mul_add]; omega
      omega
    · exact ⟨by omega, by omega⟩

theorem sqr_unique {n f : Nat} (h1 : f * f ≤ n) (h2 : n < (f + 1) * (f + 1)) : sqr n = f := by
  obtain ⟨a, b⟩ := sqr_spec n
  rcases Nat.lt_trichotomy (sqr n) f with h | h | h
  · have := Nat.mul_le_mul (show sqr n + 1 ≤ f by omega) (show sqr n + 1 ≤ f by omega)
    omega
  · exact h
  · have := Nat.mul_le_mul (show f + 1 ≤ sqr n by omega) (show f + 1 ≤ sqr n by omega)
    omega

theorem sqr_lt {n f : Nat} (h : n < f * f) : sqr n < f := by
  obtain ⟨a, b⟩ := sqr_spec n
  rcases Nat.lt_or_ge (sqr n) f with g | g
  · exact g
  · have := Nat.mul_le_mul g g
    omega

theorem sqr_ge {n f : Nat} (h : f * f ≤ n) : f ≤ sqr n := by
  obtain ⟨a, b⟩ := sqr_spec n
  rcases Nat.lt_or_ge (sqr n) f with g | g
  · have := Nat.mul_le_mul (show sqr n + 1 ≤ f from g) (show sqr n + 1 ≤ f from g)
    omega
  · exact g

/-- the bits of a root, and whether there is more -/
def sts (P j : Nat) : Nat := 2 * sqr (P * 4 ^ j) + (if sqr (P * 4 ^ j) * sqr (P * 4 ^ j) = P * 4 ^ j then 0 else 1)

theorem sts_lift {P j : Nat} (h : 33554432 ≤ sts P j) (d K : Nat) : RR (sts P (j + d)) K = RR (sts P j * 2 ^ d) K := by
  have hD : 0 < 2 ^ d := Nat.pow_pos (by decide)
  have hP : P * 4 ^ (j + d) = P * 4 ^ j * (2 ^ d * 2 ^ d) := by
    rw [Nat.pow_add, Nat.mul_assoc]
    congr 2
    rw [← Nat.mul_pow]
  unfold sts at h ⊢
  rw [hP]
  generalize P * 4 ^ j = n at *
  obtain ⟨s1, s2⟩ := sqr_spec n
  generalize sqr n = f at *
  have sw : ∀ x : Nat, x * 2 ^ d * (x * 2 ^ d) = x * x * (2 ^ d * 2 ^ d) := fun x => by rw [Nat.mul_mul_mul_comm]
  have hDD : 0 < 2 ^ d * 2 ^ d := Nat.mul_pos hD hD
  by_cases h0 : f * f = n
  · have e : sqr (n * (2 ^ d * 2 ^ d)) = f * 2 ^ d := by
      refine sqr_unique (by rw [sw, h0]; exact Nat.le_refl _) ?_
      rw [← h0, ← sw]
      exact Nat.mul_self_lt_mul_self (Nat.lt_succ_self _)
    rw [e, sw, h0, if_pos rfl, if_pos rfl, Nat.add_zero, Nat.add_zero, Nat.mul_assoc]
  · rw [if_neg h0]
    have b1 : f * 2 ^ d * (f * 2 ^ d) < n * (2 ^ d * 2 ^ d) := by rw [sw]; exact Nat.mul_lt_mul_of_pos_right (by omega) hDD
    have b2 : n * (2 ^ d * 2 ^ d) < (f + 1) * 2 ^ d * ((f + 1) * 2 ^ d) := by rw [sw]; exact Nat.mul_lt_mul_of_pos_right s2 hDD
    have f1 : f * 2 ^ d ≤ sqr (n * (2 ^ d * 2 ^ d)) := sqr_ge (Nat.le_of_lt b1)
    have f2 : sqr (n * (2 ^ d * 2 ^ d)) < (f + 1) * 2 ^ d := sqr_lt b2
    refine RR_between (S := 2 * f + 1) (by omega) (by rw [if_neg h0] at h; exact h) ?_ ?_
    · have e : (2 * f + 1 - 1) * 2 ^ d = 2 * (f * 2 ^ d) := by rw [show 2 * f + 1 - 1 = 2 * f from rfl, Nat.mul_assoc]
      rw [e]
      by_cases g : sqr (n * (2 ^ d * 2 ^ d)) = f * 2 ^ d
      · rw [g, if_neg (by omega)]
        omega
      · omega
    · have e : (2 * f + 1 + 1) * 2 ^ d = 2 * ((f + 1) * 2 ^ d) := by rw [show 2 * f + 1 + 1 = 2 * (f + 1) from by omega, Nat.mul_assoc]
      rw [e]
      split <;> omega

theorem sts_mono {P P' : Nat} (h : P ≤ P') (j : Nat) : sts P j ≤ sts P' j := by
  have hn : P * 4 ^ j ≤ P' * 4 ^ j := Nat.mul_le_mul_right _ h
  unfold sts
  generalize P * 4 ^ j = n at *
  generalize P' * 4 ^ j = n' at *
  obtain ⟨a1, a2⟩ := sqr_spec n
  obtain ⟨b1, b2⟩ := sqr_spec n'
  have h1 : sqr n ≤ sqr n' := sqr_ge (by omega)
  by_cases he : sqr n = sqr n'
  · rw [he] at a1 a2 ⊢
    split <;> split <;> omega
  · split <;> split <;> omega

/-- the index of a quotient, out of the value of the dividend -/
def DI (U k f : Int) : Int := if U < 0 then -(RR (stq (-U).toNat k.toNat 212) (213 + f).toNat : Int) else (RR (stq U.toNat k.toNat 212) (213 + f).toNat : Int)

theorem DI_neg (U k f : Int) : DI (-U) k f = -DI U k f := by
  unfold DI
  rcases Int.lt_trichotomy U 0 with h | h | h
  · rw [if_neg (by omega), if_pos h, Int.neg_neg]
  · subst h
    have e : stq (0 : Int).toNat k.toNat 212 = 0 := by simp [stq]
    rw [Int.neg_zero, if_neg (by omega), e, RR_zero]
    rfl
  · rw [if_pos (by omega), if_neg (by omega), Int.neg_neg]

theorem DI_mono {U V : Int} (h : U ≤ V) {k f : Int} (hk : 0 < k) : DI U k f ≤ DI V k f := by
  have hQ : 0 < k.toNat := by omega
  unfold DI
  split
  · split
    · have := RR_mono (stq_mono hQ (show (-V).toNat ≤ (-U).toNat by omega) 212) (213 + f).toNat
      omega
    · omega
  · rw [if_neg (by omega)]
    have := RR_mono (stq_mono hQ (show U.toNat ≤ V.toNat by omega) 212) (213 + f).toNat
    omega

theorem quM_nat (A B s : Nat) (hs : quS (A : Int) = s) (hB : 0 < B) : quM (A : Int) (B : Int) = (stq A B s : Int) ∧ quM (-(A : Int)) (B : Int) = (if A = 0 then (1 : Int) else -1) * (stq A B s : Int) := by
  have e1 : quP (A : Int) = ((A * 2 ^ s : Nat) : Int) := by
    unfold quP
    rw [hs, Int.toNat_natCast]
    unfold ab
    rw [if_neg (by omega)]
    push_cast
    rfl
  have e2 : quP (-(A : Int)) = ((A * 2 ^ s : Nat) : Int) := by
    rw [← e1]
    unfold quP quS
    have : ab (-(A : Int)) = ab (A : Int) := by unfold ab; split <;> split <;> omega
    rw [this]
  have e3 : ab (B : Int) = (B : Int) := by unfold ab; rw [if_neg (by omega)]
  have e4 : stk (((A * 2 ^ s : Nat) : Int).tdiv (B : Int)) (((A * 2 ^ s : Nat) : Int).tmod (B : Int) != 0) = (stq A B s : Int) := by
    rw [← Int.ofNat_tdiv, ← Int.ofNat_tmod]
    unfold stk stq
    by_cases h : A * 2 ^ s % B = 0
    · rw [h, if_pos rfl, if_neg (by simp)]
      push_cast
      omega
    · rw [if_neg h, if_pos (by
        rw [bne_iff_ne]
        exact fun h' => h (Int.ofNat.inj h'))]
      push_cast
      omega
  refine ⟨?_, ?_⟩
  · unfold quM
    rw [e1, e3, e4]
    unfold qsg
    rw [if_pos]
    have h1 : decide ((A : Int) < 0) = false := by simp
    have h2 : decide ((B : Int) < 0) = false := by simp
    rw [h1, h2]
  · unfold quM
    rw [e2, e3, e4]
    unfold qsg
    have h2 : decide ((B : Int) < 0) = false := by simp
    rw [h2]
    by_cases h : A = 0
    · subst h
      rw [if_pos (by simp), if_pos rfl, Int.one_mul]
    · rw [if_neg, if_neg h]
      · omega
      · have h1 : decide (-(A : Int) < 0) = true := by simp; omega
        rw [h1]
        simp

theorem div_pos_val {A B : Nat} {e f : Int} (ha : 0 < A) (ha2 : A < 16777216) (hb : 0 < B) (hb2 : B < 16777216) (e1 : -150 ≤ e) (f1 : -150 ≤ f) :
    rI (stq A B (quS (A : Int)).toNat : Int) (quE (A : Int) e f) = (RR (stq (UU (A : Int) e).toNat B 212) (213 + f).toNat : Int) := by
  obtain ⟨s1, s2, s3, s4⟩ := quS_bd (A : Int) (by omega) (by omega)
  obtain ⟨k1, k2, k3, k4⟩ := bl_bd (A : Int) (by omega) (by omega)
  have hab : ab (A : Int) = (A : Int) := by unfold ab; rw [if_neg (by omega)]
  obtain ⟨s, hs⟩ : ∃ s : Nat, quS (A : Int) = (s : Int) := ⟨(quS (A : Int)).toNat, by omega⟩
  have hq := quM_bd (A : Int) (B : Int) (by omega) (by omega) (by omega) (by omega) (by omega)
  rw [(quM_nat A B s hs hb).1] at hq
  rw [hs, Int.toNat_natCast]
  have hsL : (s : Int) = 62 - (Lib.bitLen (A : Int).toNat : Int) := by rw [← hs]; unfold quS; rw [hab]
  have big : 33554432 ≤ stq A B s := by
    have h61 : 2 ^ 61 ≤ A * 2 ^ s := by
      have h1 : 2 ^ (Lib.bitLen (A : Int).toNat - 1) ≤ A := by exact_mod_cast k3
      have h2 := Nat.mul_le_mul_right (2 ^ s) h1
      rw [← Nat.pow_add, show Lib.bitLen (A : Int).toNat - 1 + s = 61 from by omega] at h2
      exact h2
    have h37 : 2 ^ 37 ≤ A * 2 ^ s / B := by
      rw [Nat.le_div_iff_mul_le hb]
      have : 2 ^ 37 * B ≤ 2 ^ 37 * 2 ^ 24 := Nat.mul_le_mul_left _ (by omega)
      rw [← Nat.pow_add] at this
      omega
    unfold stq
    omega
  have hE : quE (A : Int) e f = e - (s : Int) - f - 1 := by unfold quE; rw [hs]
  obtain ⟨d, hd⟩ : ∃ d : Nat, (d : Int) = e - s + 362 := ⟨(e - s + 362).toNat, by omega⟩
  rw [rI_val _ _ (213 + f).toNat (by omega) (by omega) (by rw [hE]; omega), hE, show (e - (s : Int) - f - 1 + 150 + ((213 + f).toNat : Int)).toNat = d from by omega]
  have hU : (UU (A : Int) e).toNat = A * 2 ^ (e + 150).toNat := by
    unfold UU
    have : (A : Int) * 2 ^ (e + 150).toNat = ((A * 2 ^ (e + 150).toNat : Nat) : Int) := by push_cast; rfl
    rw [this, Int.toNat_natCast]
  have hst : stq (UU (A : Int) e).toNat B 212 = stq A B (s + d) := by
    rw [hU]
    unfold stq
    rw [Nat.mul_assoc, ← Nat.pow_add, show (e + 150).toNat + 212 = s + d from by omega]
  rw [hst, stq_lift hb big]
  have hc : (stq A B s : Int) * 2 ^ d = ((stq A B s * 2 ^ d : Nat) : Int) := by push_cast; rfl
  rw [hc]
  unfold RI
  rw [if_neg (by omega), Int.toNat_natCast]

theorem div_val {m e k f : Int} (h1 : vr m e = true) (h2 : vr k f = true) (hk : 0 < k) : rI (quM m k) (quE m e f) = DI (UU m e) k f := by
  obtain ⟨m1, m2, e1, e2⟩ := vr_bd h1
  obtain ⟨k1, k2, f1, f2⟩ := vr_bd h2
  obtain ⟨B, rfl⟩ := Int.eq_ofNat_of_zero_le (Int.le_of_lt hk)
  rcases Int.lt_trichotomy m 0 with h | h | h
  · obtain ⟨A, hA⟩ := Int.eq_ofNat_of_zero_le (show 0 ≤ -m by omega)
    obtain rfl : m = -(A : Int) := by omega
    obtain ⟨s1, s2, _, _⟩ := quS_bd (A : Int) (by omega) (by omega)
    have hq := (quM_nat A B (quS (A : Int)).toNat (by omega) (by omega)).2
    have hE : quE (-(A : Int)) e f = quE (A : Int) e f := by
      unfold quE quS
      have : ab (-(A : Int)) = ab (A : Int) := by unfold ab; split <;> split <;> omega
      rw [this]
    have hx := div_pos_val (A := A) (B := B) (e := e) (f := f) (by omega) (by omega) (by omega) (by omega) e1 f1
    have hqb := quM_bd (A : Int) (B : Int) (by omega) (by omega) (by omega) (by omega) (by omega)
    rw [(quM_nat A B (quS (A : Int)).toNat (by omega) (by omega)).1] at hqb
    rw [hq, if_neg (by omega), hE, Int.neg_one_mul, UU_neg, DI_neg]
    have hn : rI (-(stq A B (quS (A : Int)).toNat : Int)) (quE (A : Int) e f) = -rI (stq A B (quS (A : Int)).toNat : Int) (quE (A : Int) e f) := by
      have hEb : -1000 ≤ quE (A : Int) e f := by unfold quE; omega
      rw [rI_val _ _ 1000 (by omega) (by omega) (by omega), rI_val _ _ 1000 (by omega) (by omega) (by omega), Int.neg_mul, RI_neg]
    rw [hn, hx]
    unfold DI
    rw [if_neg (by
      have := Int.mul_nonneg (a := (A : Int)) (b := 2 ^ (e + 150).toNat) (by omega) (Int.le_of_lt (pow_pos _))
      unfold UU
      omega), Int.toNat_natCast]
  · subst h
    have h0 : quM 0 (B : Int) = 0 := by
      have := (quM_nat 0 B 62 rfl (by omega)).1
      rw [show ((0 : Nat) : Int) = 0 from rfl] at this
      rw [this]
      simp [stq]
    have e0 : stq (0 : Int).toNat (B : Int).toNat 212 = 0 := by simp [stq]
    rw [h0, UU_zero]
    unfold DI
    rw [if_neg (by omega), e0, RR_zero]
    unfold rI
    rw [if_pos rfl]
    rfl
  · obtain ⟨A, rfl⟩ := Int.eq_ofNat_of_zero_le (Int.le_of_lt h)
    obtain ⟨s1, s2, _, _⟩ := quS_bd (A : Int) (by omega) (by omega)
    have hq := (quM_nat A B (quS (A : Int)).toNat (by omega) (by omega)).1
    rw [hq, div_pos_val (by omega) (by omega) (by omega) (by omega) e1 f1]
    unfold DI
    rw [if_neg (by
      have := Int.mul_nonneg (a := (A : Int)) (b := 2 ^ (e + 150).toNat) (by omega) (Int.le_of_lt (pow_pos _))
      unfold UU
      omega), Int.toNat_natCast]

end Go.Proofs.YtbfknapmhkpgcaaGreatDoor

namespace Go.Proofs.YtbfknapmhkpgcaaGreatDoor
open Go.RowKit
set_option linter.unusedVariables false

set_option maxRecDepth 100000 in
set_option maxHeartbeats 1600000 in
theorem wholeRoot_any (n : Nat) (w : World) (hn : n < 4611686018427387904) :
    Calls Tryz.prog 84 #[.int .i64 n] w fun r w' => r = .returned (.int .i64 (sqr n)) ∧ w' = w := by
  go_enter Tryz.func84, Tryz.ntmps84
  go_wp2_with fail
  go_loopw [3, 4] (fun f b wr => ∃ (Fv k : Nat) (x : Int), k ≤ 31 ∧ f = .int .i64 (Fv : Int) ∧ b = .int .i64 x ∧ x = ((2 ^ k / 2 : Nat) : Int) ∧ Fv + 2 ^ k ≤ 2147483648 ∧ Fv * Fv ≤ n ∧ n < (Fv + 2 ^ k) * (Fv + 2 ^ k) ∧ wr = w) (fun _ b _ => (intOf b).toNat)
  case atStart => exact ⟨0, 31, 1073741824, Nat.le_refl _, rfl, rfl, by decide, by decide, Nat.zero_le _, by simpa using hn, rfl⟩
  case round =>
    obtain ⟨Fv, k, x, hk, rfl, rfl, hx, h1, h2, h3, rfl⟩ := hrel
    rcases k with _ | j
    · have E := Lib.hid (sqr_unique h2 h3)
      obtain rfl : x = 0 := hx
      clear h1 h2 h3 hn
      go_wp2_with fail
      go_ret
      exact ⟨by rw [E.out]; rfl, rfl⟩
    · have hB : (2 : Nat) ^ (j + 1) = 2 * 2 ^ j := by rw [Nat.pow_succ, Nat.mul_comm]
      have hb0 : 0 < 2 ^ j := Nat.pow_pos (by decide)
      rw [hB] at h1 h3
      obtain ⟨B, hBe⟩ : ∃ B, B = 2 ^ j := ⟨_, rfl⟩
      rw [← hBe] at h1 h3 hb0
      rw [hB, ← hBe] at hx
      obtain rfl : x = (B : Int) := by omega
      clear hx
      have hs : (B : Int) / 2 = ((2 ^ j / 2 : Nat) : Int) := by rw [← hBe]; omega
      have HS := Lib.hid hs
      obtain ⟨X, hX⟩ : ∃ X, X = Fv + B := ⟨_, rfl⟩
      have hX2 : X ≤ 2147483648 := by omega
      have hXX : X * X ≤ 4611686018427387904 := Nat.le_trans (Nat.mul_le_mul hX2 hX2) (by decide)
      have ww1 : IntKind.i64.wrap ((Fv : Int) + (B : Int)) = (X : Int) := by rw [i64_in _ (by omega) (by omega)]; omega
      have ww2 : IntKind.i64.wrap ((X : Int) * (X : Int)) = ((X * X : Nat) : Int) := by
        have hm := Int.natCast_mul X X
        rw [← hm]
        exact i64_in _ (by omega) (by omega)
      have hpos : (0 : Int) < (B : Int) := by omega
      by_cases hc : X * X ≤ n
      · have hci : ((X * X : Nat) : Int) ≤ (n : Int) := by omega
        have HN := Lib.hid (show X + 2 ^ j ≤ 2147483648 ∧ X * X ≤ n ∧ n < (X + 2 ^ j) * (X + 2 ^ j) from ⟨by rw [← hBe]; omega, hc, by rw [← hBe, hX, show Fv + B + B = Fv + 2 * B from by omega]; exact h3⟩)
        clear h1 h2 h3 hB hXX hc hX2 hBe hs hX
        go_wp2_with fail
        go_roundw
        case rel => exact ⟨X, j, _, by omega, rfl, rfl, HS.out, HN.out.1, HN.out.2.1, HN.out.2.2, by first | rfl | trivial⟩
        case measure => simp [intOf]; omega
      · have hci : ¬ ((X * X : Nat) : Int) ≤ (n : Int) := by omega
        have HN := Lib.hid (show Fv + 2 ^ j ≤ 2147483648 ∧ Fv * Fv ≤ n ∧ n < (Fv + 2 ^ j) * (Fv + 2 ^ j) from ⟨by rw [← hBe]; omega, h2, by rw [← hBe, ← hX]; omega⟩)
        clear h1 h2 h3 hB hXX hc hX2 hBe hs hX
        go_wp2_with fail
        go_roundw
        case rel => exact ⟨Fv, j, _, by omega, rfl, rfl, HS.out, HN.out.1, HN.out.2.1, HN.out.2.2, by first | rfl | trivial⟩
        case measure => simp [intOf]; omega

end Go.Proofs.YtbfknapmhkpgcaaGreatDoor

namespace Go.Proofs.YtbfknapmhkpgcaaGreatDoor
open Go.RowKit
set_option linter.unusedVariables false

set_option maxRecDepth 100000 in
set_option maxHeartbeats 1600000 in
theorem root_odd (m e L S0 : Int) (R P : Nat) (T : Bool) (w : World) (m1 : 0 ≤ m) (m2 : m ≤ 16777216) (e1 : -1000 ≤ e) (e2 : e ≤ 1000) (HL : Hid ((Lib.bitLen m.toNat : Int) = L)) (l1 : 0 ≤ L) (l2 : L ≤ 61) (hS0 : IntKind.i64.wrap (62 - L) = S0) (s1 : 37 ≤ S0) (s2 : S0 ≤ 62) (S : Int) (hS : IntKind.i64.wrap (S0 - 1) = S) (s3 : 37 ≤ S) (s4 : S ≤ 62)
    (ht : ((e - S0).tmod 2 != 0) = true) (hP : m * 2 ^ S.toNat = (P : Int)) (p2 : P < 4611686018427387904) (HR : Hid (sqr P = R)) (r2 : R ≤ 2147483648) (hT : ((R : Int) * R != (P : Int)) = T) :
    Calls Tryz.prog 59 #[realV m e] w fun r w' => r = .returned (realV (stk R T) ((e - S).tdiv 2 - 1)) ∧ Below w.heap.size w w' := by
  have HW := Lib.hid (fun w => wholeRoot_any P w p2)
  rw [HR.out] at HW
  have HW1 := i64_in (P : Int) (by omega) (by omega)
  have hm := Int.natCast_mul R R
  have RRn : R * R ≤ 4611686018427387904 := Nat.le_trans (Nat.mul_le_mul r2 r2) (by decide)
  have ww2 : IntKind.i64.wrap ((R : Int) * (R : Int)) = (R : Int) * R := i64_in _ (by omega) (by omega)
  clear RRn hm
  have wd : IntKind.i64.wrap (e - S0) = e - S0 := i64_in _ (by omega) (by omega)
  have wa : IntKind.i64.wrap (e - S) = e - S := i64_in _ (by omega) (by omega)
  have nt : ((e - S).tdiv 2).natAbs = (e - S).natAbs / 2 := Int.natAbs_tdiv _ _
  have wb : IntKind.i64.wrap ((e - S).tdiv 2) = (e - S).tdiv 2 := i64_in _ (by omega) (by omega)
  have wc : IntKind.i64.wrap ((e - S).tdiv 2 - 1) = (e - S).tdiv 2 - 1 := i64_in _ (by omega) (by omega)
  obtain ⟨EX, hEX⟩ : ∃ x, x = (e - S).tdiv 2 := ⟨_, rfl⟩
  rw [← hEX] at wb wc ⊢
  have hEX' := hEX.symm
  clear p2 nt hEX
  go_enter Tryz.func59, Tryz.ntmps59
  go_wp2_with fail
  refine (Tryz.bits_Len m _ (by omega) (by omega)).mono ?_
  rintro r w1 ⟨rfl, rfl⟩
  rw [HL.out]
  go_wp2_with fail
  try rw [hP]
  try rw [HW1]
  refine (HW.out _).mono ?_
  rintro r w2 ⟨rfl, rfl⟩
  have HB0 := Lib.hid ((by repeat (first | exact Below.refl _ _ | refine Below.alloc ?_ (by simp <;> omega) _) : Below w.heap.size w ((w.alloc (Obj.cells #[Value.int IntKind.i64 m, Value.int IntKind.i64 e] 23)).alloc
            (Obj.cells #[Value.int IntKind.i64 0, Value.int IntKind.i64 0] 51))))
  go_wp2_with fail
  go_region_held3 (fun wx => wx.cell? ⟨w.heap.size, 0, none⟩ = some (.int .i64 m) ∧ wx.cell? ⟨w.heap.size, 1, none⟩ = some (.int .i64 e) ∧ w.heap.size < wx.heap.size ∧ Below w.heap.size w wx) (first | (go_keep; done) | ((try go_split_ands); (repeat' apply And.intro) <;> first | with_reducible assumption | (exact carry hbq (by with_reducible assumption)) | (go_simp; done) | (simp only [World.size_alloc, World.size_drew]; omega) | ((repeat (first | with_reducible assumption | with_reducible exact HB0.out | with_reducible refine Below.drew ?_ | with_reducible refine Below.setCell ?_ (by first | omega | (simp; done) | (simp <;> omega)) _)); done) | (exact Nat.lt_of_lt_of_le (by first | with_reducible assumption | (simp <;> omega)) hbq.size) | (simp <;> omega)))
    (first
      | (go_at_call 83; ((with_reducible refine (sticky_any _ _ _ (by omega) (by omega)).mono ?_); rintro r wq ⟨rfl, hbq⟩; have q0 : wq.cell? ⟨w.heap.size + 1, 0, none⟩ = some (.int .i64 0) := carry hbq (by first | with_reducible assumption | go_simp); have : wq.frozen? ⟨w.heap.size + 1, 0, none⟩ = false := carryF hbq (v := .int .i64 0) (by first | with_reducible assumption | go_simp) (by first | with_reducible assumption | go_simp); have q1 : wq.cell? ⟨w.heap.size + 1, 1, none⟩ = some (.int .i64 0) := carry hbq (by first | with_reducible assumption | go_simp); have : wq.frozen? ⟨w.heap.size + 1, 1, none⟩ = false := carryF hbq (v := .int .i64 0) (by first | with_reducible assumption | go_simp) (by first | with_reducible assumption | go_simp); have : w.heap.size + 1 < wq.heap.size := Nat.lt_of_lt_of_le (by first | with_reducible assumption | (simp <;> omega)) hbq.size; have : Below w.heap.size w wq := Below.trans (by first | with_reducible assumption | with_reducible exact HB0.out.drew | with_reducible exact HB0.out) (hbq.mono (by first | omega | (simp <;> omega))))))
  clear HB0
  rename _ ∧ _ ∧ _ ∧ Below w.heap.size w _ => hS
  have HBB := Lib.hid hS.2.2.2
  clear hS
  go_wp2_with fail
  refine bodyPost_ret (v := realV (stk R T) (EX - 1)) (by simp [results, Tryz.results59, go_sem, q0, q1]) rfl ⟨rfl, by repeat (first | with_reducible exact HBB.out | with_reducible exact Below.refl _ _ | with_reducible refine Below.drew ?_ | with_reducible refine belowN ?_ _ | with_reducible refine Below.setCell ?_ (by first | omega | (simp; done) | (simp; omega)) _ | with_reducible refine Below.alloc ?_ (by first | omega | (simp; done) | (simp; omega)) _)⟩

set_option maxRecDepth 100000 in
set_option maxHeartbeats 1600000 in
theorem root_even (m e L S0 : Int) (R P : Nat) (T : Bool) (w : World) (m1 : 0 ≤ m) (m2 : m ≤ 16777216) (e1 : -1000 ≤ e) (e2 : e ≤ 1000) (HL : Hid ((Lib.bitLen m.toNat : Int) = L)) (l1 : 0 ≤ L) (l2 : L ≤ 61) (hS0 : IntKind.i64.wrap (62 - L) = S0) (s1 : 37 ≤ S0) (s2 : S0 ≤ 62) 
    (ht : ((e - S0).tmod 2 != 0) = false) (hP : m * 2 ^ S0.toNat = (P : Int)) (p2 : P < 4611686018427387904) (HR : Hid (sqr P = R)) (r2 : R ≤ 2147483648) (hT : ((R : Int) * R != (P : Int)) = T) :
    Calls Tryz.prog 59 #[realV m e] w fun r w' => r = .returned (realV (stk R T) ((e - S0).tdiv 2 - 1)) ∧ Below w.heap.size w w' := by
  have HW := Lib.hid (fun w => wholeRoot_any P w p2)
  rw [HR.out] at HW
  have HW1 := i64_in (P : Int) (by omega) (by omega)
  have hm := Int.natCast_mul R R
  have RRn : R * R ≤ 4611686018427387904 := Nat.le_trans (Nat.mul_le_mul r2 r2) (by decide)
  have ww2 : IntKind.i64.wrap ((R : Int) * (R : Int)) = (R : Int) * R := i64_in _ (by omega) (by omega)
  clear RRn hm
  have wd : IntKind.i64.wrap (e - S0) = e - S0 := i64_in _ (by omega) (by omega)
  have wa : IntKind.i64.wrap (e - S0) = e - S0 := i64_in _ (by omega) (by omega)
  have nt : ((e - S0).tdiv 2).natAbs = (e - S0).natAbs / 2 := Int.natAbs_tdiv _ _
  have wb : IntKind.i64.wrap ((e - S0).tdiv 2) = (e - S0).tdiv 2 := i64_in _ (by omega) (by omega)
  have wc : IntKind.i64.wrap ((e - S0).tdiv 2 - 1) = (e - S0).tdiv 2 - 1 := i64_in _ (by omega) (by omega)
  obtain ⟨EX, hEX⟩ : ∃ x, x = (e - S0).tdiv 2 := ⟨_, rfl⟩
  rw [← hEX] at wb wc ⊢
  have hEX' := hEX.symm
  clear p2 nt hEX
  go_enter Tryz.func59, Tryz.ntmps59
  go_wp2_with fail
  refine (Tryz.bits_Len m _ (by omega) (by omega)).mono ?_
  rintro r w1 ⟨rfl, rfl⟩
  rw [HL.out]
  go_wp2_with fail
  try rw [hP]
  try rw [HW1]
  refine (HW.out _).mono ?_
  rintro r w2 ⟨rfl, rfl⟩
  have HB0 := Lib.hid ((by repeat (first | exact Below.refl _ _ | refine Below.alloc ?_ (by simp <;> omega) _) : Below w.heap.size w ((w.alloc (Obj.cells #[Value.int IntKind.i64 m, Value.int IntKind.i64 e] 23)).alloc
            (Obj.cells #[Value.int IntKind.i64 0, Value.int IntKind.i64 0] 51))))
  go_wp2_with fail
  go_region_held3 (fun wx => wx.cell? ⟨w.heap.size, 0, none⟩ = some (.int .i64 m) ∧ wx.cell? ⟨w.heap.size, 1, none⟩ = some (.int .i64 e) ∧ w.heap.size < wx.heap.size ∧ Below w.heap.size w wx) (first | (go_keep; done) | ((try go_split_ands); (repeat' apply And.intro) <;> first | with_reducible assumption | (exact carry hbq (by with_reducible assumption)) | (go_simp; done) | (simp only [World.size_alloc, World.size_drew]; omega) | ((repeat (first | with_reducible assumption | with_reducible exact HB0.out | with_reducible refine Below.drew ?_ | with_reducible refine Below.setCell ?_ (by first | omega | (simp; done) | (simp <;> omega)) _)); done) | (exact Nat.lt_of_lt_of_le (by first | with_reducible assumption | (simp <;> omega)) hbq.size) | (simp <;> omega)))
    (first
      | (go_at_call 83; ((with_reducible refine (sticky_any _ _ _ (by omega) (by omega)).mono ?_); rintro r wq ⟨rfl, hbq⟩; have q0 : wq.cell? ⟨w.heap.size + 1, 0, none⟩ = some (.int .i64 0) := carry hbq (by first | with_reducible assumption | go_simp); have : wq.frozen? ⟨w.heap.size + 1, 0, none⟩ = false := carryF hbq (v := .int .i64 0) (by first | with_reducible assumption | go_simp) (by first | with_reducible assumption | go_simp); have q1 : wq.cell? ⟨w.heap.size + 1, 1, none⟩ = some (.int .i64 0) := carry hbq (by first | with_reducible assumption | go_simp); have : wq.frozen? ⟨w.heap.size + 1, 1, none⟩ = false := carryF hbq (v := .int .i64 0) (by first | with_reducible assumption | go_simp) (by first | with_reducible assumption | go_simp); have : w.heap.size + 1 < wq.heap.size := Nat.lt_of_lt_of_le (by first | with_reducible assumption | (simp <;> omega)) hbq.size; have : Below w.heap.size w wq := Below.trans (by first | with_reducible assumption | with_reducible exact HB0.out.drew | with_reducible exact HB0.out) (hbq.mono (by first | omega | (simp <;> omega))))))
  clear HB0
  rename _ ∧ _ ∧ _ ∧ Below w.heap.size w _ => hS
  have HBB := Lib.hid hS.2.2.2
  clear hS
  go_wp2_with fail
  refine bodyPost_ret (v := realV (stk R T) (EX - 1)) (by simp [results, Tryz.results59, go_sem, q0, q1]) rfl ⟨rfl, by repeat (first | with_reducible exact HBB.out | with_reducible exact Below.refl _ _ | with_reducible refine Below.drew ?_ | with_reducible refine belowN ?_ _ | with_reducible refine Below.setCell ?_ (by first | omega | (simp; done) | (simp; omega)) _ | with_reducible refine Below.alloc ?_ (by first | omega | (simp; done) | (simp; omega)) _)⟩

end Go.Proofs.YtbfknapmhkpgcaaGreatDoor

namespace Go.Proofs.YtbfknapmhkpgcaaGreatDoor
open Go.RowKit
set_option linter.unusedVariables false

def sqL (m : Int) : Int := (Lib.bitLen m.toNat : Int)
def sqO (m e : Int) : Bool := (e - (62 - sqL m)).tmod 2 != 0
def sqS (m e : Int) : Int := if sqO m e = true then 62 - sqL m - 1 else 62 - sqL m
def sqP (m e : Int) : Nat := (m * 2 ^ (sqS m e).toNat).toNat
def sqM (m e : Int) : Int := (sts (sqP m e) 0 : Int)
def sqE (m e : Int) : Int := (e - sqS m e).tdiv 2 - 1

theorem sqL_bd {m : Int} (m1 : 0 ≤ m) (m2 : m < 16777216) : 0 ≤ sqL m ∧ sqL m ≤ 24 ∧ m < 2 ^ (sqL m).toNat ∧ (0 < m → 1 ≤ sqL m ∧ 2 ^ ((sqL m).toNat - 1) ≤ m) := by
  unfold sqL
  by_cases h : m = 0
  · subst h
    have : Lib.bitLen (0 : Int).toNat = 0 := rfl
    rw [this]
    exact ⟨by omega, by omega, by decide, fun h => by omega⟩
  · obtain ⟨k1, k2, k3, k4⟩ := bl_bd m (by omega) (by omega)
    have := Lib.bitLen_le m.toNat 24 (by omega) (by omega)
    generalize Lib.bitLen m.toNat = L at *
    exact ⟨by omega, by omega, by simpa using k4, fun _ => ⟨by omega, by simpa using k3⟩⟩

theorem sq_bd {m e : Int} (m1 : 0 ≤ m) (m2 : m < 16777216) : 37 ≤ sqS m e ∧ sqS m e ≤ 62 ∧ m * 2 ^ (sqS m e).toNat = (sqP m e : Int) ∧ sqP m e < 4611686018427387904 ∧ (0 < m → 1152921504606846976 ≤ sqP m e) := by
  obtain ⟨l1, l2, l3, l4⟩ := sqL_bd m1 m2
  have hs : sqS m e = 62 - sqL m - 1 ∨ sqS m e = 62 - sqL m := by unfold sqS; split <;> simp
  have hp : (0 : Int) < 2 ^ (sqS m e).toNat := pow_pos _
  have hn : m * 2 ^ (sqS m e).toNat = (sqP m e : Int) := by
    unfold sqP
    have := Int.mul_nonneg m1 (Int.le_of_lt hp)
    omega
  refine ⟨by omega, by omega, hn, ?_, fun h0 => ?_⟩
  · have h : m * 2 ^ (sqS m e).toNat < 2 ^ (sqL m).toNat * 2 ^ (sqS m e).toNat := Int.mul_lt_mul_of_pos_right l3 hp
    rw [← Int.pow_add, hn] at h
    have h2 : (2 : Int) ^ ((sqL m).toNat + (sqS m e).toNat) ≤ 2 ^ 62 := by exact_mod_cast Nat.pow_le_pow_right (n := 2) (by decide) (show (sqL m).toNat + (sqS m e).toNat ≤ 62 by omega)
    omega
  · obtain ⟨k1, k2⟩ := l4 h0
    have h : 2 ^ ((sqL m).toNat - 1) * 2 ^ (sqS m e).toNat ≤ m * 2 ^ (sqS m e).toNat := Int.mul_le_mul_of_nonneg_right k2 (Int.le_of_lt hp)
    rw [← Int.pow_add, hn] at h
    have h2 : (2 : Int) ^ 60 ≤ 2 ^ ((sqL m).toNat - 1 + (sqS m e).toNat) := by exact_mod_cast Nat.pow_le_pow_right (n := 2) (by decide) (show 60 ≤ (sqL m).toNat - 1 + (sqS m e).toNat by omega)
    omega

theorem sqr_bd {P : Nat} (h : P < 4611686018427387904) : sqr P ≤ 2147483647 := by
  have := sqr_lt (n := P) (f := 2147483648) (by omega)
  omega

theorem stk_sts (P : Nat) : stk (sqr P : Int) ((sqr P : Int) * (sqr P : Int) != (P : Int)) = (sts P 0 : Int) := by
  rw [← Int.natCast_mul]
  unfold stk sts
  rw [Nat.pow_zero, Nat.mul_one]
  by_cases h : sqr P * sqr P = P
  · rw [if_pos h, if_neg (by rw [h]; simp)]
    omega
  · rw [if_neg h, if_pos (by rw [bne_iff_ne]; exact fun h' => h (Int.ofNat.inj h'))]
    omega

theorem root_any (m e : Int) (w : World) (m1 : 0 ≤ m) (m2 : m < 16777216) (e1 : -1000 ≤ e) (e2 : e ≤ 1000) :
    Calls Tryz.prog 59 #[realV m e] w fun r w' => r = .returned (realV (sqM m e) (sqE m e)) ∧ Below w.heap.size w w' := by
  obtain ⟨b1, b2, b3, b4, _⟩ := sq_bd (e := e) m1 m2
  obtain ⟨l1, l2, _, _⟩ := sqL_bd m1 m2
  have hr := sqr_bd b4
  unfold sqM sqE
  rw [← stk_sts]
  cases ht : sqO m e
  · have hs : sqS m e = 62 - sqL m := by unfold sqS; rw [ht, if_neg (by simp)]
    rw [hs] at b3 ⊢
    exact root_even m e (sqL m) (62 - sqL m) (sqr (sqP m e)) (sqP m e) _ w m1 (by omega) e1 e2 (Lib.hid rfl) l1 (by omega) (i64_in _ (by omega) (by omega)) (by omega) (by omega) ht b3 b4 (Lib.hid rfl) (by omega) rfl
  · have hs : sqS m e = 62 - sqL m - 1 := by unfold sqS; rw [ht, if_pos rfl]
    rw [hs] at b3 ⊢
    exact root_odd m e (sqL m) (62 - sqL m) (sqr (sqP m e)) (sqP m e) _ w m1 (by omega) e1 e2 (Lib.hid rfl) l1 (by omega) (i64_in _ (by omega) (by omega)) (by omega) (by omega) (62 - sqL m - 1) (i64_in _ (by omega) (by omega)) (by omega) (by omega) ht b3 b4 (Lib.hid rfl) (by omega) rfl

set_option maxRecDepth 100000 in
set_option maxHeartbeats 1600000 in
theorem sqc (b : Nat) (m e : Int) (w : World) (c0 : w.cell? ⟨b, 0, none⟩ = some (.int .i64 m)) (c1 : w.cell? ⟨b, 1, none⟩ = some (.int .i64 e)) (zb : b < w.heap.size) (m1 : 0 ≤ m) (m2 : m < 16777216) (e1 : -1000 ≤ e) (e2 : e ≤ 1000) :
    Calls Tryz.prog 58 #[.pointer (some ⟨b, 0, none⟩)] w fun r w' => r = .returned (realV (sqM m e) (sqE m e)) ∧ Below w.heap.size w w' := by
  have HS := Lib.hid (fun w => root_any m e w m1 m2 e1 e2)
  generalize sqM m e = am at HS ⊢
  generalize sqE m e = ae at HS ⊢
  go_enter Tryz.func58, Tryz.ntmps58
  go_wp2_with fail
  refine (HS.out _).mono ?_
  rintro r w1 ⟨rfl, hb1⟩
  have f0_0 : w1.frozen? ⟨w.heap.size, 0, none⟩ = false := carryF hb1 (v := .int .i64 0) (by first | with_reducible assumption | go_simp) (by first | with_reducible assumption | go_simp)
  have f0_1 : w1.frozen? ⟨w.heap.size, 1, none⟩ = false := carryF hb1 (v := .int .i64 0) (by first | with_reducible assumption | go_simp) (by first | with_reducible assumption | go_simp)
  have c0_0 : w1.cell? ⟨w.heap.size, 0, none⟩ = some (.int .i64 0) := carry hb1 (by first | with_reducible assumption | go_simp)
  have c0_1 : w1.cell? ⟨w.heap.size, 1, none⟩ = some (.int .i64 0) := carry hb1 (by first | with_reducible assumption | go_simp)
  have z0 : w.heap.size < w1.heap.size := by have := hb1.size; first | omega | (simp at this; omega)
  have HBB := Lib.hid ((by repeat (first | with_reducible exact Below.refl _ _ | with_reducible refine Below.setCell ?_ (by first | omega | (simp; done) | (simp; omega)) _ | with_reducible refine Below.drew ?_ | with_reducible refine belowN ?_ _ | with_reducible refine Below.alloc ?_ (by first | omega | (simp; done) | (simp; omega)) _) : Below w.heap.size w _).trans (hb1.mono (by first | omega | (simp; done) | (simp; omega))))
  clear hb1
  go_wp2_with fail
  refine bodyPost_ret (v := realV am ae) (by simp [results, Tryz.results58, go_sem, c0_0, c0_1]) rfl ⟨rfl, by repeat (first | with_reducible exact HBB.out | with_reducible exact Below.refl _ _ | with_reducible refine Below.drew ?_ | with_reducible refine belowN ?_ _ | with_reducible refine Below.setCell ?_ (by first | omega | (simp; done) | (simp; omega)) _ | with_reducible refine Below.alloc ?_ (by first | omega | (simp; done) | (simp; omega)) _)⟩

set_option maxRecDepth 100000 in
set_option maxHeartbeats 1600000 in
theorem sqrt_neg (m e : Int) (w : World) (HV : Hid (vr m e = true)) (hm : m < 0) :
    Calls Tryz.prog 27 #[realV m e] w fun r w' => r = .returned (rE 0 0 5) ∧ Below w.heap.size w w' := by
  obtain ⟨m1, m2, e1, e2⟩ := vr_bd HV.out
  go_enter Tryz.func27, Tryz.ntmps27
  go_wp2_with fail
  refine (valid_is HV.out _ (by omega) (by omega)).mono ?_
  rintro r w1 ⟨rfl, hb1⟩
  have f1_0 : w1.frozen? ⟨w.heap.size + 1, 0, none⟩ = false := carryF hb1 (v := .int .i64 0) (by first | with_reducible assumption | go_simp) (by first | with_reducible assumption | go_simp)
  have f1_1 : w1.frozen? ⟨w.heap.size + 1, 1, none⟩ = false := carryF hb1 (v := .int .i64 0) (by first | with_reducible assumption | go_simp) (by first | with_reducible assumption | go_simp)
  have c0_0 : w1.cell? ⟨w.heap.size, 0, none⟩ = some (.int .i64 m) := carry hb1 (by first | with_reducible assumption | go_simp)
  have c0_1 : w1.cell? ⟨w.heap.size, 1, none⟩ = some (.int .i64 e) := carry hb1 (by first | with_reducible assumption | go_simp)
  have z0 : w.heap.size < w1.heap.size := by have := hb1.size; first | omega | (simp at this; omega)
  have c1_0 : w1.cell? ⟨w.heap.size + 1, 0, none⟩ = some (.int .i64 0) := carry hb1 (by first | with_reducible assumption | go_simp)
  have c1_1 : w1.cell? ⟨w.heap.size + 1, 1, none⟩ = some (.int .i64 0) := carry hb1 (by first | with_reducible assumption | go_simp)
  have z1 : w.heap.size + 1 < w1.heap.size := by have := hb1.size; first | omega | (simp at this; omega)
  have HBB := Lib.hid ((by repeat (first | with_reducible exact Below.refl _ _ | with_reducible refine Below.setCell ?_ (by first | omega | (simp; done) | (simp; omega)) _ | with_reducible refine Below.drew ?_ | with_reducible refine belowN ?_ _ | with_reducible refine Below.alloc ?_ (by first | omega | (simp; done) | (simp; omega)) _) : Below w.heap.size w _).trans (hb1.mono (by first | omega | (simp; done) | (simp; omega))))
  clear hb1
  go_wp2_with fail
  refine bodyPost_ret (v := rE 0 0 5) (by simp [results, Tryz.results27, go_sem, c1_0, c1_1]) rfl ⟨rfl, by repeat (first | with_reducible exact HBB.out | with_reducible exact Below.refl _ _ | with_reducible refine Below.drew ?_ | with_reducible refine belowN ?_ _ | with_reducible refine Below.setCell ?_ (by first | omega | (simp; done) | (simp; omega)) _ | with_reducible refine Below.alloc ?_ (by first | omega | (simp; done) | (simp; omega)) _)⟩

set_option maxRecDepth 100000 in
set_option maxHeartbeats 1600000 in
theorem sqrt_ok (m e : Int) (w : World) (HV : Hid (vr m e = true)) (hm : ¬ m < 0) :
    Calls Tryz.prog 27 #[realV m e] w fun r w' => r = .returned (oV (sqM m e) (sqE m e)) ∧ Below w.heap.size w w' := by
  have hmf : ∀ (fn : Fn) (first cap : Array Value) (w : World), (Instr.makeFunc fn first cap).run Tryz.prog w = .ok (.func fn first cap) w := fun _ _ _ _ => rfl
  obtain ⟨m1, m2, e1, e2⟩ := vr_bd HV.out
  have HE := Lib.hid (fun caps W => Go.Proofs.enters_of (P := Tryz.prog) Tryz.func58 (by kernel_rfl) rfl caps W)
  have HB1 := Lib.hid (show -9223372036854775808 ≤ sqM m e ∧ sqM m e ≤ 9223372036854775807 ∧ -2000 ≤ sqE m e ∧ sqE m e ≤ 2000 from by
    obtain ⟨b1, b2, b3, b4, _⟩ := sq_bd (m := m) (e := e) (by omega) (by omega)
    have hr := sqr_bd b4
    have hS : sts (sqP m e) 0 ≤ 2 * sqr (sqP m e) + 1 := by unfold sts; rw [Nat.pow_zero, Nat.mul_one]; split <;> omega
    have hT : ((e - sqS m e).tdiv 2).natAbs = (e - sqS m e).natAbs / 2 := Int.natAbs_tdiv _ _
    unfold sqM sqE
    omega)
  go_enter Tryz.func27, Tryz.ntmps27
  go_wp2_with fail
  refine (valid_is HV.out _ (by omega) (by omega)).mono ?_
  rintro r w1 ⟨rfl, hb1⟩
  have f1_0 : w1.frozen? ⟨w.heap.size + 1, 0, none⟩ = false := carryF hb1 (v := .int .i64 0) (by first | with_reducible assumption | go_simp) (by first | with_reducible assumption | go_simp)
  have f1_1 : w1.frozen? ⟨w.heap.size + 1, 1, none⟩ = false := carryF hb1 (v := .int .i64 0) (by first | with_reducible assumption | go_simp) (by first | with_reducible assumption | go_simp)
  have c0_0 : w1.cell? ⟨w.heap.size, 0, none⟩ = some (.int .i64 m) := carry hb1 (by first | with_reducible assumption | go_simp)
  have c0_1 : w1.cell? ⟨w.heap.size, 1, none⟩ = some (.int .i64 e) := carry hb1 (by first | with_reducible assumption | go_simp)
  have z0 : w.heap.size < w1.heap.size := by have := hb1.size; first | omega | (simp at this; omega)
  have c1_0 : w1.cell? ⟨w.heap.size + 1, 0, none⟩ = some (.int .i64 0) := carry hb1 (by first | with_reducible assumption | go_simp)
  have c1_1 : w1.cell? ⟨w.heap.size + 1, 1, none⟩ = some (.int .i64 0) := carry hb1 (by first | with_reducible assumption | go_simp)
  have z1 : w.heap.size + 1 < w1.heap.size := by have := hb1.size; first | omega | (simp at this; omega)
  have HBB := Lib.hid ((by repeat (first | with_reducible exact Below.refl _ _ | with_reducible refine Below.setCell ?_ (by first | omega | (simp; done) | (simp; omega)) _ | with_reducible refine Below.drew ?_ | with_reducible refine belowN ?_ _ | with_reducible refine Below.alloc ?_ (by first | omega | (simp; done) | (simp; omega)) _) : Below w.heap.size w _).trans (hb1.mono (by first | omega | (simp; done) | (simp; omega))))
  clear hb1
  go_wp2_with fail
  refine (ev_any _ _ (sqM m e) (sqE m e) _ (Lib.hid fun W => HE.out _ W) (Lib.hid fun W hW => sqc w.heap.size m e W (carry hW c0_0) (carry hW c0_1) (Nat.lt_of_lt_of_le z0 hW.size) (by omega) (by omega) (by omega) (by omega)) HB1.out.1 HB1.out.2.1 HB1.out.2.2.1 HB1.out.2.2.2).mono ?_
  rintro r w2 ⟨rfl, hb2⟩
  have f1_0 : w2.frozen? ⟨w.heap.size + 1, 0, none⟩ = false := carryF hb2 (v := .int .i64 0) (by first | with_reducible assumption | go_simp) (by first | with_reducible assumption | go_simp)
  have f1_1 : w2.frozen? ⟨w.heap.size + 1, 1, none⟩ = false := carryF hb2 (v := .int .i64 0) (by first | with_reducible assumption | go_simp) (by first | with_reducible assumption | go_simp)
  have c1_0 : w2.cell? ⟨w.heap.size + 1, 0, none⟩ = some (.int .i64 0) := carry hb2 (by first | with_reducible assumption | go_simp)
  have c1_1 : w2.cell? ⟨w.heap.size + 1, 1, none⟩ = some (.int .i64 0) := carry hb2 (by first | with_reducible assumption | go_simp)
  have z1 : w.heap.size + 1 < w2.heap.size := by have := hb2.size; first | omega | (simp at this; omega)
  have HBB := Lib.hid ((by repeat (first | with_reducible exact HBB.out | with_reducible refine Below.setCell ?_ (by first | omega | (simp; done) | (simp; omega)) _ | with_reducible refine Below.drew ?_ | with_reducible refine belowN ?_ _ | with_reducible refine Below.alloc ?_ (by first | omega | (simp; done) | (simp; omega)) _) : Below w.heap.size w _).trans (hb2.mono (by first | omega | (simp; done) | (simp; omega))))
  clear hb2
  clear HB1
  unfold oV
  generalize hm' : roM (sqM m e) (sqE m e) = am
  generalize he' : roE (sqM m e) (sqE m e) = ae
  generalize hx' : roX (sqM m e) (sqE m e) = ax
  have HQ := Lib.hid (And.intro hm' (And.intro he' hx'))
  clear hm' he' hx'
  go_wp2_with fail
  refine bodyPost_ret (v := rE am ae ax) (by simp [results, Tryz.results27, go_sem, c1_0, c1_1]) rfl ⟨by rw [← HQ.out.1, ← HQ.out.2.1, ← HQ.out.2.2], by repeat (first | with_reducible exact HBB.out | with_reducible exact Below.refl _ _ | with_reducible refine Below.drew ?_ | with_reducible refine belowN ?_ _ | with_reducible refine Below.setCell ?_ (by first | omega | (simp; done) | (simp; omega)) _ | with_reducible refine Below.alloc ?_ (by first | omega | (simp; done) | (simp; omega)) _)⟩

/-- the index of a root, out of the value -/
def SI (U : Int) : Int := (RR (sts U.toNat 74) 0 : Int)

theorem SI_mono {U V : Int} (h : U ≤ V) : SI U ≤ SI V := by
  have := RR_mono (sts_mono (show U.toNat ≤ V.toNat by omega) 74) 0
  unfold SI
  omega

theorem sq_val {m e : Int} (h : vr m e = true) (hm : 0 ≤ m) : rI (sqM m e) (sqE m e) = SI (UU m e) := by
  obtain ⟨m1, m2, e1, e2⟩ := vr_bd h
  obtain ⟨b1, b2, b3, b4, b5⟩ := sq_bd (e := e) hm (by omega)
  by_cases h0 : m = 0
  · subst h0
    have hP : sqP 0 e = 0 := by
      rw [Int.zero_mul] at b3
      omega
    have hz : sts 0 0 = 0 := by decide
    have hz2 : sts 0 74 = 0 := by
      unfold sts
      rw [Nat.zero_mul]
      rfl
    unfold sqM SI
    rw [hP, hz, UU_zero]
    rw [show (0 : Int).toNat = 0 from rfl, hz2, RR_zero]
    simp [rI]
  · have hP := b5 (by omega)
    have hev : (e - sqS m e) % 2 = 0 := by
      unfold sqS
      split
      · rename_i ho
        unfold sqO at ho
        rw [bne_iff_ne] at ho
        have h1 := Int.emod_two_eq (e - (62 - sqL m))
        rcases h1 with h1 | h1
        · exfalso
          apply ho
          exact Int.tmod_eq_zero_of_dvd (Int.dvd_of_emod_eq_zero h1)
        · omega
      · rename_i ho
        unfold sqO at ho
        have h2 : (e - (62 - sqL m)).tmod 2 = 0 := by simpa using ho
        exact Int.emod_eq_zero_of_dvd (Int.dvd_of_tmod_eq_zero h2)
    obtain ⟨hh, hhe⟩ : ∃ hh : Int, e - sqS m e = 2 * hh := ⟨(e - sqS m e) / 2, by omega⟩
    have hE : sqE m e = hh - 1 := by
      unfold sqE
      rw [hhe, Int.mul_tdiv_cancel_left _ (by decide)]
    have hr := sqr_bd b4
    have hS : sts (sqP m e) 0 = 2 * sqr (sqP m e) + (if sqr (sqP m e) * sqr (sqP m e) = sqP m e then 0 else 1) := by unfold sts; rw [Nat.pow_zero, Nat.mul_one]
    have hlow : 1073741824 ≤ sqr (sqP m e) := sqr_ge (by omega)
    have big : 33554432 ≤ sts (sqP m e) 0 := by rw [hS]; omega
    have hbd : sts (sqP m e) 0 ≤ 4294967295 := by rw [hS]; split <;> omega
    obtain ⟨d, hd⟩ : ∃ d : Nat, (d : Int) = hh + 149 := ⟨(hh + 149).toNat, by omega⟩
    unfold sqM SI
    rw [hE, rI_val _ _ 0 (by omega) (by omega) (by omega), show (hh - 1 + 150 + ((0 : Nat) : Int)).toNat = d from by omega]
    have hU : (UU m e).toNat * 4 ^ 74 = sqP m e * 4 ^ d := by
      have hUn : UU m e = ((m.toNat * 2 ^ (e + 150).toNat : Nat) : Int) := by
        unfold UU
        push_cast
        rw [Int.toNat_of_nonneg hm]
      have hPn : sqP m e = m.toNat * 2 ^ (sqS m e).toNat := by
        have : ((m.toNat * 2 ^ (sqS m e).toNat : Nat) : Int) = (sqP m e : Int) := by
          push_cast
          rw [Int.toNat_of_nonneg hm]
          exact b3
        omega
      rw [hUn, Int.toNat_natCast, hPn, show (4 : Nat) = 2 ^ 2 from rfl, ← Nat.pow_mul, ← Nat.pow_mul, Nat.mul_assoc, Nat.mul_assoc, ← Nat.pow_add, ← Nat.pow_add]
      congr 2
      omega
    have hst : sts (UU m e).toNat 74 = sts (sqP m e) (0 + d) := by
      unfold sts
      rw [hU, Nat.zero_add]
    rw [hst, sts_lift big]
    have hc : (sts (sqP m e) 0 : Int) * 2 ^ d = ((sts (sqP m e) 0 * 2 ^ d : Nat) : Int) := by push_cast; rfl
    rw [hc]
    unfold RI
    rw [if_neg (by omega), Int.toNat_natCast]

end Go.Proofs.YtbfknapmhkpgcaaGreatDoor
