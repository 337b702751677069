/-
  PACKAGE real, plain mathematics: a last bit that says that there is more: quotients and roots rounded from their first bits are monotonic.
-/
import Derived.Test.YtoofdihnflnaiaaGreatDoorValA

namespace Go.Proofs.YtoofdihnflnaiaaGreatDoor
open Go.RowKit
set_option linter.unusedVariables false

theorem pow_split {a b : Nat} (h : b ≤ a) : 2 ^ a = 2 ^ (a - b) * 2 ^ b := by rw [← Nat.pow_add]; congr 1; omega

/-- between the neighbours of an odd number all is rounded alike -/
theorem RR_between {S d X Q : Nat} (hS : S % 2 = 1) (h25 : 33554432 ≤ S) (h1 : (S - 1) * 2 ^ d < X) (h2 : X < (S + 1) * 2 ^ d) : RR X Q = RR (S * 2 ^ d) Q := by
  have hD : 0 < 2 ^ d := Nat.pow_pos (by decide)
  have hlt := kk_lt (S * 2 ^ d) Q
  obtain ⟨k, hk⟩ : ∃ k, kk (S * 2 ^ d) Q = k := ⟨_, rfl⟩
  have hge := kk_ge (S * 2 ^ d) Q
  rw [hk] at hlt hge
  have hu : d + 2 ≤ Q + k := by
    by_cases h : d + 2 ≤ Q + k
    · exact h
    · exfalso
      have a1 : 2 ^ (Q + 24 + k) ≤ 2 ^ (d + 25) := Nat.pow_le_pow_right (by decide) (by omega)
      have a2 := Nat.mul_le_mul_right (2 ^ d) h25
      have a3 : (2 : Nat) ^ (d + 25) = 33554432 * 2 ^ d := by rw [Nat.pow_add, Nat.mul_comm]
      omega
  obtain ⟨u, hu'⟩ : ∃ u, Q + k = d + u + 2 := ⟨Q + k - d - 2, by omega⟩
  have e24 : 2 ^ (Q + 24 + k) = 2 ^ (u + 26) * 2 ^ d := by rw [← Nat.pow_add]; congr 1; omega
  have hS24 : S < 2 ^ (u + 26) := by
    rw [e24] at hlt
    exact Nat.lt_of_mul_lt_mul_right hlt
  have x24 : X < 2 ^ (Q + 24 + k) := by
    rw [e24]
    exact Nat.lt_of_lt_of_le h2 (Nat.mul_le_mul_right _ hS24)
  have hkX : kk X Q = k := by
    apply kk_unique x24
    by_cases h0 : k = 0
    · exact .inl h0
    · right
      have hg := hge (by omega)
      have e23 : 2 ^ (Q + 23 + k) = 2 ^ (u + 25) * 2 ^ d := by rw [← Nat.pow_add]; congr 1; omega
      rw [e23] at hg ⊢
      have hg2 : 2 ^ (u + 25) ≤ S := Nat.le_of_mul_le_mul_right hg hD
      have hev : 2 ^ (u + 25) = 2 * 2 ^ (u + 24) := by rw [Nat.pow_succ]; omega
      have hg3 : 2 ^ (u + 25) ≤ S - 1 := by omega
      exact Nat.le_of_lt (Nat.lt_of_le_of_lt (Nat.mul_le_mul_right _ hg3) h1)
  unfold RR
  rw [hkX, hk]
  congr 1
  rw [hu']
  have es : 2 ^ (d + u + 2) = 4 * 2 ^ u * 2 ^ d := by rw [show d + u + 2 = 2 + u + d from by omega, Nat.pow_add, Nat.pow_add]
  have eh : 2 ^ (d + u + 2 - 1) = 2 * 2 ^ u * 2 ^ d := by rw [show d + u + 2 - 1 = 1 + u + d from by omega, Nat.pow_add, Nat.pow_add]
  have hU : 0 < 2 ^ u := Nat.pow_pos (by decide)
  obtain ⟨a, r, hr, hSr⟩ : ∃ a r, r < 4 * 2 ^ u ∧ S = a * (4 * 2 ^ u) + r := ⟨S / (4 * 2 ^ u), S % (4 * 2 ^ u), Nat.mod_lt _ (by omega), by rw [Nat.mul_comm]; exact (Nat.div_add_mod _ _).symm⟩
  have hr1 : r % 2 = 1 := by
    have : a * (4 * 2 ^ u) = 2 * (a * (2 * 2 ^ u)) := by rw [Nat.mul_left_comm 2 a]; congr 1; omega
    omega
  have m1 : S * 2 ^ d = a * (4 * 2 ^ u * 2 ^ d) + r * 2 ^ d := by rw [hSr, Nat.add_mul, Nat.mul_assoc]
  have m2 : (S - 1) * 2 ^ d = a * (4 * 2 ^ u * 2 ^ d) + (r - 1) * 2 ^ d := by rw [show S - 1 = a * (4 * 2 ^ u) + (r - 1) from by omega, Nat.add_mul, Nat.mul_assoc]
  have m3 : (S + 1) * 2 ^ d = a * (4 * 2 ^ u * 2 ^ d) + (r + 1) * 2 ^ d := by rw [show S + 1 = a * (4 * 2 ^ u) + (r + 1) from by omega, Nat.add_mul, Nat.mul_assoc]
  have m4 : (r + 1) * 2 ^ d ≤ 4 * 2 ^ u * 2 ^ d := Nat.mul_le_mul_right _ (by omega)
  have m5 : r * 2 ^ d < 4 * 2 ^ u * 2 ^ d := Nat.mul_lt_mul_of_pos_right hr hD
  rw [m2] at h1
  rw [m3] at h2
  obtain ⟨y, hy⟩ : ∃ y, X = a * (4 * 2 ^ u * 2 ^ d) + y := ⟨X - a * (4 * 2 ^ u * 2 ^ d), by omega⟩
  have key : ∀ z, z < 4 * 2 ^ u * 2 ^ d → (2 * 2 ^ u * 2 ^ d < z ↔ 2 * 2 ^ u < r) → z ≠ 2 * 2 ^ u * 2 ^ d → rhe (a * (4 * 2 ^ u * 2 ^ d) + z) (d + u + 2) = a + (if 2 * 2 ^ u < r then 1 else 0) := by
    intro z hz hzr hne
    unfold rhe
    rw [if_neg (by omega), es, eh]
    have d1 : (a * (4 * 2 ^ u * 2 ^ d) + z) / (4 * 2 ^ u * 2 ^ d) = a := by
      rw [Nat.mul_comm a, Nat.mul_add_div (by omega), Nat.div_eq_of_lt hz, Nat.add_zero]
    have d2 : (a * (4 * 2 ^ u * 2 ^ d) + z) % (4 * 2 ^ u * 2 ^ d) = z := by
      rw [Nat.mul_comm a, Nat.mul_add_mod, Nat.mod_eq_of_lt hz]
    rw [d1, d2]
    by_cases hq : 2 * 2 ^ u < r
    · rw [if_pos hq, if_pos (.inl (hzr.2 hq))]
    · rw [if_neg hq, if_neg]
      rintro (g | g)
      · exact hq (hzr.1 g)
      · exact hne g.1
  rw [hy, m1, key y (by omega) ?_ ?_, key (r * 2 ^ d) m5 ?_ ?_]
  · constructor
    · intro g; exact Nat.lt_of_mul_lt_mul_right g
    · intro g; exact Nat.mul_lt_mul_of_pos_right g hD
  · intro g
    have := Nat.eq_of_mul_eq_mul_right hD g
    omega
  · constructor
    · intro g
      by_cases hq : 2 * 2 ^ u < r
      · exact hq
      · have := Nat.mul_le_mul_right (2 ^ d) (show r + 1 ≤ 2 * 2 ^ u by omega)
        omega
    · intro g
      have := Nat.mul_le_mul_right (2 ^ d) (show 2 * 2 ^ u ≤ r - 1 by omega)
      omega
  · intro g
    rcases Nat.lt_or_ge (2 * 2 ^ u) r with hq | hq
    · have := Nat.mul_le_mul_right (2 ^ d) (show 2 * 2 ^ u ≤ r - 1 by omega)
      omega
    · have := Nat.mul_le_mul_right (2 ^ d) (show r + 1 ≤ 2 * 2 ^ u by omega)
      omega

/-- the bits of a quotient, and whether there is more -/
def stq (P Q j : Nat) : Nat := 2 * (P * 2 ^ j / Q) + (if P * 2 ^ j % Q = 0 then 0 else 1)

theorem stq_lift {P Q j : Nat} (hQ : 0 < Q) (h : 33554432 ≤ stq P Q j) (d K : Nat) : RR (stq P Q (j + d)) K = RR (stq P Q j * 2 ^ d) K := by
  have hD : 0 < 2 ^ d := Nat.pow_pos (by decide)
  have hdm := Nat.div_add_mod (P * 2 ^ j) Q
  have hm := Nat.mod_lt (P * 2 ^ j) hQ
  have hP : P * 2 ^ (j + d) = P * 2 ^ j * 2 ^ d := by rw [Nat.pow_add, Nat.mul_assoc]
  unfold stq at h ⊢
  rw [hP]
  generalize P * 2 ^ j = n at *
  generalize hf : n / Q = f at *
  generalize hr : n % Q = r at *
  by_cases h0 : r = 0
  · have e : n * 2 ^ d = Q * (f * 2 ^ d) := by rw [← hdm, h0, Nat.add_zero, Nat.mul_assoc]
    rw [e, Nat.mul_div_cancel_left _ hQ, Nat.mul_mod_right, if_pos rfl, if_pos h0, Nat.add_zero, Nat.add_zero, Nat.mul_assoc]
  · rw [if_neg h0]
    have b1 : f * 2 ^ d * Q < n * 2 ^ d := by
      have : n * 2 ^ d = f * 2 ^ d * Q + r * 2 ^ d := by rw [← hdm, Nat.add_mul]; congr 1; rw [Nat.mul_comm Q f, Nat.mul_right_comm]
      have := Nat.mul_pos (show 0 < r by omega) hD
      omega
    have b2 : n * 2 ^ d < (f + 1) * 2 ^ d * Q := by
      have : (f + 1) * 2 ^ d * Q = (Q * f + Q) * 2 ^ d := by rw [Nat.mul_right_comm, Nat.add_mul, Nat.one_mul, Nat.mul_comm f Q]
      rw [this]
      exact Nat.mul_lt_mul_of_pos_right (by omega) hD
    have f1 : f * 2 ^ d ≤ n * 2 ^ d / Q := by rw [Nat.le_div_iff_mul_le hQ]; omega
    have f2 : n * 2 ^ d / Q < (f + 1) * 2 ^ d := by rw [Nat.div_lt_iff_lt_mul hQ]; omega
    have hdm2 := Nat.div_add_mod (n * 2 ^ d) Q
    refine RR_between (by omega) (by rw [if_neg h0] at h; exact h) ?_ ?_
    · have e : (2 * f + 1 - 1) * 2 ^ d = 2 * (f * 2 ^ d) := by rw [show 2 * f + 1 - 1 = 2 * f from rfl, Nat.mul_assoc]
      rw [e]
      by_cases g : n * 2 ^ d / Q = f * 2 ^ d
      · have hz : n * 2 ^ d % Q ≠ 0 := by
          intro hz
          rw [g, hz, Nat.mul_comm] at hdm2
          omega
        rw [if_neg hz]
        omega
      · omega
    · have e : (2 * f + 1 + 1) * 2 ^ d = 2 * ((f + 1) * 2 ^ d) := by rw [show 2 * f + 1 + 1 = 2 * (f + 1) from by omega, Nat.mul_assoc]
      rw [e]
      split <;> omega

theorem stq_mono {P P' Q : Nat} (hQ : 0 < Q) (h : P ≤ P') (j : Nat) : stq P Q j ≤ stq P' Q j := by
  have hn : P * 2 ^ j ≤ P' * 2 ^ j := Nat.mul_le_mul_right _ h
  unfold stq
  generalize P * 2 ^ j = n at *
  generalize P' * 2 ^ j = n' at *
  have h1 := Nat.div_le_div_right (c := Q) hn
  have d1 := Nat.div_add_mod n Q
  have d2 := Nat.div_add_mod n' Q
  by_cases he : n / Q = n' / Q
  · rw [he] at d1 ⊢
    split <;> split <;> omega
  · split <;> split <;> omega

/-- the whole root -/
def sqr : Nat → Nat
  | 0 => 0
  | n + 1 => if (sqr n + 1) * (sqr n + 1) ≤ n + 1 then sqr n + 1 else sqr n

theorem sqr_spec (n : Nat) : sqr n * sqr n ≤ n ∧ n < (sqr n + 1) * (sqr n + 1) := by
  induction n with
  | zero => decide
  | succ n ih =>
    unfold sqr
    split
    · rename_i h
      refine ⟨h, ?_⟩
      have e : (sqr n + 1 + 1) * (sqr n + 1 + 1) = (sqr n + 1) * (sqr n + 1) + 2 * (sqr n + 1) + 1 := by
        generalize sqr n + 1 = x
        rw [Nat.add_mul, Nat.mul_add]; omega
      omega
    · exact ⟨by omega, by omega⟩

theorem sqr_unique {n f : Nat} (h1 : f * f ≤ n) (h2 : n < (f + 1) * (f + 1)) : sqr n = f := by
  obtain ⟨a, b⟩ := sqr_spec n
  rcases Nat.lt_trichotomy (sqr n) f with h | h | h
  · have := Nat.mul_le_mul (show sqr n + 1 ≤ f by omega) (show sqr n + 1 ≤ f by omega)
    omega
  · exact h
  · have := Nat.mul_le_mul (show f + 1 ≤ sqr n by omega) (show f + 1 ≤ sqr n by omega)
    omega

theorem sqr_lt {n f : Nat} (h : n < f * f) : sqr n < f := by
  obtain ⟨a, b⟩ := sqr_spec n
  rcases Nat.lt_or_ge (sqr n) f with g | g
  · exact g
  · have := Nat.mul_le_mul g g
    omega

theorem sqr_ge {n f : Nat} (h : f * f ≤ n) : f ≤ sqr n := by
  obtain ⟨a, b⟩ := sqr_spec n
  rcases Nat.lt_or_ge (sqr n) f with g | g
  · have := Nat.mul_le_mul (show sqr n + 1 ≤ f from g) (show sqr n + 1 ≤ f from g)
    omega
  · exact g

/-- the bits of a root, and whether there is more -/
def sts (P j : Nat) : Nat := 2 * sqr (P * 4 ^ j) + (if sqr (P * 4 ^ j) * sqr (P * 4 ^ j) = P * 4 ^ j then 0 else 1)

theorem sts_lift {P j : Nat} (h : 33554432 ≤ sts P j) (d K : Nat) : RR (sts P (j + d)) K = RR (sts P j * 2 ^ d) K := by
  have hD : 0 < 2 ^ d := Nat.pow_pos (by decide)
  have hP : P * 4 ^ (j + d) = P * 4 ^ j * (2 ^ d * 2 ^ d) := by
    rw [Nat.pow_add, Nat.mul_assoc]
    congr 2
    rw [← Nat.mul_pow]
  unfold sts at h ⊢
  rw [hP]
  generalize P * 4 ^ j = n at *
  obtain ⟨s1, s2⟩ := sqr_spec n
  generalize sqr n = f at *
  have sw : ∀ x : Nat, x * 2 ^ d * (x * 2 ^ d) = x * x * (2 ^ d * 2 ^ d) := fun x => by rw [Nat.mul_mul_mul_comm]
  have hDD : 0 < 2 ^ d * 2 ^ d := Nat.mul_pos hD hD
  by_cases h0 : f * f = n
  · have e : sqr (n * (2 ^ d * 2 ^ d)) = f * 2 ^ d := by
      refine sqr_unique (by rw [sw, h0]; exact Nat.le_refl _) ?_
      rw [← h0, ← sw]
      exact Nat.mul_self_lt_mul_self (Nat.lt_succ_self _)
    rw [e, sw, h0, if_pos rfl, if_pos rfl, Nat.add_zero, Nat.add_zero, Nat.mul_assoc]
  · rw [if_neg h0]
    have b1 : f * 2 ^ d * (f * 2 ^ d) < n * (2 ^ d * 2 ^ d) := by rw [sw]; exact Nat.mul_lt_mul_of_pos_right (by omega) hDD
    have b2 : n * (2 ^ d * 2 ^ d) < (f + 1) * 2 ^ d * ((f + 1) * 2 ^ d) := by rw [sw]; exact Nat.mul_lt_mul_of_pos_right s2 hDD
    have f1 : f * 2 ^ d ≤ sqr (n * (2 ^ d * 2 ^ d)) := sqr_ge (Nat.le_of_lt b1)
    have f2 : sqr (n * (2 ^ d * 2 ^ d)) < (f + 1) * 2 ^ d := sqr_lt b2
    refine RR_between (S := 2 * f + 1) (by omega) (by rw [if_neg h0] at h; exact h) ?_ ?_
    · have e : (2 * f + 1 - 1) * 2 ^ d = 2 * (f * 2 ^ d) := by rw [show 2 * f + 1 - 1 = 2 * f from rfl, Nat.mul_assoc]
      rw [e]
      by_cases g : sqr (n * (2 ^ d * 2 ^ d)) = f * 2 ^ d
      · rw [g, if_neg (by omega)]
        omega
      · omega
    · have e : (2 * f + 1 + 1) * 2 ^ d = 2 * ((f + 1) * 2 ^ d) := by rw [show 2 * f + 1 + 1 = 2 * (f + 1) from by omega, Nat.mul_assoc]
      rw [e]
      split <;> omega

theorem sts_mono {P P' : Nat} (h : P ≤ P') (j : Nat) : sts P j ≤ sts P' j := by
  have hn : P * 4 ^ j ≤ P' * 4 ^ j := Nat.mul_le_mul_right _ h
  unfold sts
  generalize P * 4 ^ j = n at *
  generalize P' * 4 ^ j = n' at *
  obtain ⟨a1, a2⟩ := sqr_spec n
  obtain ⟨b1, b2⟩ := sqr_spec n'
  have h1 : sqr n ≤ sqr n' := sqr_ge (by omega)
  by_cases he : sqr n = sqr n'
  · rw [he] at a1 a2 ⊢
    split <;> split <;> omega
  · split <;> split <;> omega

/-- the index of a quotient, out of the value of the dividend -/
def DI (U k f : Int) : Int := if U < 0 then -(RR (stq (-U).toNat k.toNat 212) (213 + f).toNat : Int) else (RR (stq U.toNat k.toNat 212) (213 + f).toNat : Int)

theorem DI_neg (U k f : Int) : DI (-U) k f = -DI U k f := by
  unfold DI
  rcases Int.lt_trichotomy U 0 with h | h | h
  · rw [if_neg (by omega), if_pos h, Int.neg_neg]
  · subst h
    have e : stq (0 : Int).toNat k.toNat 212 = 0 := by simp [stq]
    rw [Int.neg_zero, if_neg (by omega), e, RR_zero]
    rfl
  · rw [if_pos (by omega), if_neg (by omega), Int.neg_neg]

theorem DI_mono {U V : Int} (h : U ≤ V) {k f : Int} (hk : 0 < k) : DI U k f ≤ DI V k f := by
  have hQ : 0 < k.toNat := by omega
  unfold DI
  split
  · split
    · have := RR_mono (stq_mono hQ (show (-V).toNat ≤ (-U).toNat by omega) 212) (213 + f).toNat
      omega
    · omega
  · rw [if_neg (by omega)]
    have := RR_mono (stq_mono hQ (show U.toNat ≤ V.toNat by omega) 212) (213 + f).toNat
    omega

theorem quM_nat (A B s : Nat) (hs : quS (A : Int) = s) (hB : 0 < B) : quM (A : Int) (B : Int) = (stq A B s : Int) ∧ quM (-(A : Int)) (B : Int) = (if A = 0 then (1 : Int) else -1) * (stq A B s : Int) := by
  have e1 : quP (A : Int) = ((A * 2 ^ s : Nat) : Int) := by
    unfold quP
    rw [hs, Int.toNat_natCast]
    unfold ab
    rw [if_neg (by omega)]
    push_cast
    rfl
  have e2 : quP (-(A : Int)) = ((A * 2 ^ s : Nat) : Int) := by
    rw [← e1]
    unfold quP quS
    have : ab (-(A : Int)) = ab (A : Int) := by unfold ab; split <;> split <;> omega
    rw [this]
  have e3 : ab (B : Int) = (B : Int) := by unfold ab; rw [if_neg (by omega)]
  have e4 : stk (((A * 2 ^ s : Nat) : Int).tdiv (B : Int)) (((A * 2 ^ s : Nat) : Int).tmod (B : Int) != 0) = (stq A B s : Int) := by
    rw [← Int.ofNat_tdiv, ← Int.ofNat_tmod]
    unfold stk stq
    by_cases h : A * 2 ^ s % B = 0
    · rw [h, if_pos rfl, if_neg (by simp)]
      push_cast
      omega
    · rw [if_neg h, if_pos (by
        rw [bne_iff_ne]
        exact fun h' => h (Int.ofNat.inj h'))]
      push_cast
      omega
  refine ⟨?_, ?_⟩
  · unfold quM
    rw [e1, e3, e4]
    unfold qsg
    rw [if_pos]
    have h1 : decide ((A : Int) < 0) = false := by simp
    have h2 : decide ((B : Int) < 0) = false := by simp
    rw [h1, h2]
  · unfold quM
    rw [e2, e3, e4]
    unfold qsg
    have h2 : decide ((B : Int) < 0) = false := by simp
    rw [h2]
    by_cases h : A = 0
    · subst h
      rw [if_pos (by simp), if_pos rfl, Int.one_mul]
    · rw [if_neg, if_neg h]
      · omega
      · have h1 : decide (-(A : Int) < 0) = true := by simp; omega
        rw [h1]
        simp

theorem div_pos_val {A B : Nat} {e f : Int} (ha : 0 < A) (ha2 : A < 16777216) (hb : 0 < B) (hb2 : B < 16777216) (e1 : -150 ≤ e) (f1 : -150 ≤ f) :
    rI (stq A B (quS (A : Int)).toNat : Int) (quE (A : Int) e f) = (RR (stq (UU (A : Int) e).toNat B 212) (213 + f).toNat : Int) := by
  obtain ⟨s1, s2, s3, s4⟩ := quS_bd (A : Int) (by omega) (by omega)
  obtain ⟨k1, k2, k3, k4⟩ := bl_bd (A : Int) (by omega) (by omega)
  have hab : ab (A : Int) = (A : Int) := by unfold ab; rw [if_neg (by omega)]
  obtain ⟨s, hs⟩ : ∃ s : Nat, quS (A : Int) = (s : Int) := ⟨(quS (A : Int)).toNat, by omega⟩
  have hq := quM_bd (A : Int) (B : Int) (by omega) (by omega) (by omega) (by omega) (by omega)
  rw [(quM_nat A B s hs hb).1] at hq
  rw [hs, Int.toNat_natCast]
  have hsL : (s : Int) = 62 - (Lib.bitLen (A : Int).toNat : Int) := by rw [← hs]; unfold quS; rw [hab]
  have big : 33554432 ≤ stq A B s := by
    have h61 : 2 ^ 61 ≤ A * 2 ^ s := by
      have h1 : 2 ^ (Lib.bitLen (A : Int).toNat - 1) ≤ A := by exact_mod_cast k3
      have h2 := Nat.mul_le_mul_right (2 ^ s) h1
      rw [← Nat.pow_add, show Lib.bitLen (A : Int).toNat - 1 + s = 61 from by omega] at h2
      exact h2
    have h37 : 2 ^ 37 ≤ A * 2 ^ s / B := by
      rw [Nat.le_div_iff_mul_le hb]
      have : 2 ^ 37 * B ≤ 2 ^ 37 * 2 ^ 24 := Nat.mul_le_mul_left _ (by omega)
      rw [← Nat.pow_add] at this
      omega
    unfold stq
    omega
  have hE : quE (A : Int) e f = e - (s : Int) - f - 1 := by unfold quE; rw [hs]
  obtain ⟨d, hd⟩ : ∃ d : Nat, (d : Int) = e - s + 362 := ⟨(e - s + 362).toNat, by omega⟩
  rw [rI_val _ _ (213 + f).toNat (by omega) (by omega) (by rw [hE]; omega), hE, show (e - (s : Int) - f - 1 + 150 + ((213 + f).toNat : Int)).toNat = d from by omega]
  have hU : (UU (A : Int) e).toNat = A * 2 ^ (e + 150).toNat := by
    unfold UU
    have : (A : Int) * 2 ^ (e + 150).toNat = ((A * 2 ^ (e + 150).toNat : Nat) : Int) := by push_cast; rfl
    rw [this, Int.toNat_natCast]
  have hst : stq (UU (A : Int) e).toNat B 212 = stq A B (s + d) := by
    rw [hU]
    unfold stq
    rw [Nat.mul_assoc, ← Nat.pow_add, show (e + 150).toNat + 212 = s + d from by omega]
  rw [hst, stq_lift hb big]
  have hc : (stq A B s : Int) * 2 ^ d = ((stq A B s * 2 ^ d : Nat) : Int) := by push_cast; rfl
  rw [hc]
  unfold RI
  rw [if_neg (by omega), Int.toNat_natCast]

theorem div_val {m e k f : Int} (h1 : vr m e = true) (h2 : vr k f = true) (hk : 0 < k) : rI (quM m k) (quE m e f) = DI (UU m e) k f := by
  obtain ⟨m1, m2, e1, e2⟩ := vr_bd h1
  obtain ⟨k1, k2, f1, f2⟩ := vr_bd h2
  obtain ⟨B, rfl⟩ := Int.eq_ofNat_of_zero_le (Int.le_of_lt hk)
  rcases Int.lt_trichotomy m 0 with h | h | h
  · obtain ⟨A, hA⟩ := Int.eq_ofNat_of_zero_le (show 0 ≤ -m by omega)
    obtain rfl : m = -(A : Int) := by omega
    obtain ⟨s1, s2, _, _⟩ := quS_bd (A : Int) (by omega) (by omega)
    have hq := (quM_nat A B (quS (A : Int)).toNat (by omega) (by omega)).2
    have hE : quE (-(A : Int)) e f = quE (A : Int) e f := by
      unfold quE quS
      have : ab (-(A : Int)) = ab (A : Int) := by unfold ab; split <;> split <;> omega
      rw [this]
    have hx := div_pos_val (A := A) (B := B) (e := e) (f := f) (by omega) (by omega) (by omega) (by omega) e1 f1
    have hqb := quM_bd (A : Int) (B : Int) (by omega) (by omega) (by omega) (by omega) (by omega)
    rw [(quM_nat A B (quS (A : Int)).toNat (by omega) (by omega)).1] at hqb
    rw [hq, if_neg (by omega), hE, Int.neg_one_mul, UU_neg, DI_neg]
    have hn : rI (-(stq A B (quS (A : Int)).toNat : Int)) (quE (A : Int) e f) = -rI (stq A B (quS (A : Int)).toNat : Int) (quE (A : Int) e f) := by
      have hEb : -1000 ≤ quE (A : Int) e f := by unfold quE; omega
      rw [rI_val _ _ 1000 (by omega) (by omega) (by omega), rI_val _ _ 1000 (by omega) (by omega) (by omega), Int.neg_mul, RI_neg]
    rw [hn, hx]
    unfold DI
    rw [if_neg (by
      have := Int.mul_nonneg (a := (A : Int)) (b := 2 ^ (e + 150).toNat) (by omega) (Int.le_of_lt (pow_pos _))
      unfold UU
      omega), Int.toNat_natCast]
  · subst h
    have h0 : quM 0 (B : Int) = 0 := by
      have := (quM_nat 0 B 62 rfl (by omega)).1
      rw [show ((0 : Nat) : Int) = 0 from rfl] at this
      rw [this]
      simp [stq]
    have e0 : stq (0 : Int).toNat (B : Int).toNat 212 = 0 := by simp [stq]
    rw [h0, UU_zero]
    unfold DI
    rw [if_neg (by omega), e0, RR_zero]
    unfold rI
    rw [if_pos rfl]
    rfl
  · obtain ⟨A, rfl⟩ := Int.eq_ofNat_of_zero_le (Int.le_of_lt h)
    obtain ⟨s1, s2, _, _⟩ := quS_bd (A : Int) (by omega) (by omega)
    have hq := (quM_nat A B (quS (A : Int)).toNat (by omega) (by omega)).1
    rw [hq, div_pos_val (by omega) (by omega) (by omega) (by omega) e1 f1]
    unfold DI
    rw [if_neg (by
      have := Int.mul_nonneg (a := (A : Int)) (b := 2 ^ (e + 150).toNat) (by omega) (Int.le_of_lt (pow_pos _))
      unfold UU
      omega), Int.toNat_natCast]

end Go.Proofs.YtoofdihnflnaiaaGreatDoor
