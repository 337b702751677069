/-
  Several texts in one (Near, NatN, NatM, NatA, NatB, NatC, NatD, NatE, NatF, Mid, NatG, NatH).
-/
import Derived.Test.YticiabgnegbbmaaGreatDoorValA
import Derived.Below
import Derived.Lib.Hide
import Derived.Test.YticiabgnegbbmaaGreatDoorProg
import Derived.WalkKit
import Derived.Maps.AppendAt
import Derived.Laws.AppendOwnNone
import Derived.Laws.OwnMore
import Derived.Deep.AppendLies
import Derived.RegionTactic
import Derived.OwnWalk
import Derived.Laws.IdiomStrings
import Derived.IntWalk
import Derived.Deep.Draws
import Derived.Lib.SmallJoins
import Derived.Deep.QuietTactic
import Derived.BigQuiet
import Derived.Test.YticiabgnegbbmaaGreatDoorReal5
import Derived.Deep.RegionHeld3

namespace Go.Proofs.YticiabgnegbbmaaGreatDoor
open Go.RowKit
set_option linter.unusedVariables false

theorem rhe_bd (N : Nat) : rhe N (kk N 0) ≤ 16777216 ∧ (kk N 0 = 0 ∨ 8388608 ≤ rhe N (kk N 0)) ∧ (kk N 0 = 0 → rhe N (kk N 0) = N) := by
  have h1 := kk_lt N 0
  have h2 := rhe_hi N (kk N 0)
  have h3 := rhe_lo N (kk N 0)
  have h4 : N / 2 ^ kk N 0 < 16777216 := by
    rw [Nat.div_lt_iff_lt_mul (Nat.pow_pos (by decide))]
    have e : (16777216 : Nat) * 2 ^ kk N 0 = 2 ^ (0 + 24 + kk N 0) := by rw [Nat.pow_add]
    omega
  refine ⟨by omega, ?_, fun h => by rw [h]; simp [rhe]⟩
  by_cases h : kk N 0 = 0
  · exact .inl h
  · right
    have h5 := kk_ge N 0 (by omega)
    have h6 : 8388608 ≤ N / 2 ^ kk N 0 := by
      rw [Nat.le_div_iff_mul_le (Nat.pow_pos (by decide))]
      have e : (8388608 : Nat) * 2 ^ kk N 0 = 2 ^ (0 + 23 + kk N 0) := by rw [Nat.pow_add]
      omega
    omega

/-- the rounded number is at least as near as each real -/
theorem near_nat (N B t : Nat) (hB : B < 16777216) : ab (((rhe N (kk N 0) * 2 ^ kk N 0 : Nat) : Int) - N) ≤ ab (((B * 2 ^ t : Nat) : Int) - N) := by
  have hb := rhe_bd N
  by_cases hk : kk N 0 = 0
  · rw [hb.2.2 hk, hk]
    simp only [Nat.pow_zero, Nat.mul_one]
    unfold ab
    split <;> split <;> omega
  · have hge := kk_ge N 0 (by omega)
    obtain ⟨j, hj⟩ : ∃ j, kk N 0 = j + 1 := ⟨kk N 0 - 1, by omega⟩
    rw [hj] at hge ⊢
    have hP : (2 : Nat) ^ (j + 1) = 2 * 2 ^ j := by rw [Nat.pow_succ]; omega
    have hh : 0 < 2 ^ j := Nat.pow_pos (by decide)
    have hd := Nat.div_add_mod N (2 ^ (j + 1))
    have hm := Nat.mod_lt N (show 0 < 2 ^ (j + 1) by omega)
    have e23 : (8388608 : Nat) * 2 ^ (j + 1) = 2 ^ (0 + 23 + (j + 1)) := by rw [show 0 + 23 + (j + 1) = 23 + (j + 1) from by omega, Nat.pow_add 2 23 (j + 1)]
    have ha : 8388608 ≤ N / 2 ^ (j + 1) := by
      rw [Nat.le_div_iff_mul_le (by omega)]
      omega
    have hV : (rhe N (j + 1) * 2 ^ (j + 1) = 2 ^ (j + 1) * (N / 2 ^ (j + 1)) ∧ N % 2 ^ (j + 1) ≤ 2 ^ j) ∨ (rhe N (j + 1) * 2 ^ (j + 1) = 2 ^ (j + 1) * (N / 2 ^ (j + 1)) + 2 ^ (j + 1) ∧ 2 ^ j ≤ N % 2 ^ (j + 1)) := by
      unfold rhe
      rw [if_neg (by omega), show j + 1 - 1 = j from rfl]
      split
      · right
        refine ⟨by rw [Nat.add_mul, Nat.one_mul, Nat.mul_comm], by omega⟩
      · left
        refine ⟨by rw [Nat.add_zero, Nat.mul_comm], by omega⟩
    have hW : B * 2 ^ t ≤ 2 ^ (j + 1) * (N / 2 ^ (j + 1)) ∨ 2 ^ (j + 1) * (N / 2 ^ (j + 1)) + 2 ^ (j + 1) ≤ B * 2 ^ t := by
      by_cases ht : j + 1 ≤ t
      · obtain ⟨i, rfl⟩ : ∃ i, t = j + 1 + i := ⟨t - (j + 1), by omega⟩
        have e : B * 2 ^ (j + 1 + i) = 2 ^ (j + 1) * (B * 2 ^ i) := by rw [Nat.pow_add, Nat.mul_left_comm]
        rw [e]
        by_cases hc : B * 2 ^ i ≤ N / 2 ^ (j + 1)
        · exact .inl (Nat.mul_le_mul_left _ hc)
        · right
          have := Nat.mul_le_mul_left (2 ^ (j + 1)) (show N / 2 ^ (j + 1) + 1 ≤ B * 2 ^ i by omega)
          rw [Nat.mul_add, Nat.mul_one] at this
          exact this
      · left
        have h1 : B * 2 ^ t ≤ 16777216 * 2 ^ j := Nat.mul_le_mul (Nat.le_of_lt hB) (Nat.pow_le_pow_right (by decide) (by omega))
        have h2 := Nat.mul_le_mul_left (2 ^ (j + 1)) ha
        have e : (16777216 : Nat) * 2 ^ j = 2 ^ (j + 1) * 8388608 := by rw [hP]; omega
        omega
    generalize B * 2 ^ t = W at *
    generalize rhe N (j + 1) * 2 ^ (j + 1) = V at *
    generalize 2 ^ (j + 1) * (N / 2 ^ (j + 1)) = A at *
    generalize N % 2 ^ (j + 1) = r at *
    generalize 2 ^ (j + 1) = P at *
    generalize 2 ^ j = Q at *
    clear hge e23 ha
    unfold ab
    split <;> split <;> omega

theorem val_rr {m e : Int} (h : vr m e = true) (h0 : 0 ≤ m) {N : Nat} (hi : ix m e = (RR N 0 : Int)) : UU m e = ((rhe N (kk N 0) * 2 ^ kk N 0 : Nat) : Int) := by
  obtain ⟨A, s, a1, a2, a3, a4, a5, a6⟩ := val_of h
  have hu := a5 h0
  have hx := ix_val h
  rw [hu] at hx
  have e1 : RI ((A * 2 ^ s : Nat) : Int) 0 = (RR (A * 2 ^ s) 0 : Int) := by unfold RI; rw [if_neg (by omega)]; rfl
  rw [e1, RR_rep A s a1 a2, hi] at hx
  have hb := rhe_bd N
  have hR : RR N 0 = rhe N (kk N 0) + kk N 0 * 8388608 := by unfold RR; rw [Nat.zero_add]
  rw [hR] at hx
  rw [hu]
  congr 1
  by_cases hM : rhe N (kk N 0) < 16777216
  · exact Nat.le_antisymm (rep_le a1 a2 hM hb.2.1 (by omega)) (rep_le hM hb.2.1 a1 a2 (by omega))
  · have hM' : rhe N (kk N 0) = 16777216 := by omega
    rw [hM'] at hx ⊢
    have e2 : 16777216 * 2 ^ kk N 0 = 8388608 * 2 ^ (kk N 0 + 1) := by rw [Nat.pow_succ]; omega
    rw [e2]
    exact Nat.le_antisymm (rep_le a1 a2 (by decide) (.inr (Nat.le_refl _)) (by omega)) (rep_le (by decide) (.inr (Nat.le_refl _)) a1 a2 (by omega))

theorem ix_sign {m e : Int} (h : vr m e = true) (h0 : 0 ≤ ix m e) : 0 ≤ m := by
  have hb := vr_bd h
  unfold ix at h0
  split at h0
  · omega
  · split at h0 <;> omega

theorem near_pos (n : Nat) {m e : Int} (h : vr m e = true) (hI : RI (n : Int) 0 ≤ 2533359615) : ab (UU (oM (RI (n : Int) 0)) (oE (RI (n : Int) 0)) - n) ≤ ab (UU m e - n) := by
  have e1 : RI (n : Int) 0 = (RR n 0 : Int) := by unfold RI; rw [if_neg (by omega)]; rfl
  have h1 := o_in (I := RI (n : Int) 0) (by omega) hI
  have hv := o_vr (RI (n : Int) 0)
  have hs := ix_sign hv (by rw [h1.2]; omega)
  rw [val_rr hv hs (h1.2.trans e1)]
  obtain ⟨A, s, a1, a2, a3, a4, a5, a6⟩ := val_of h
  by_cases h0 : 0 ≤ m
  · rw [a5 h0]
    exact near_nat n A s a1
  · rw [a6 (by omega)]
    have := near_nat n 0 0 (by decide)
    simp only [Nat.zero_mul] at this
    generalize ((rhe n (kk n 0) * 2 ^ kk n 0 : Nat) : Int) = V at *
    have hz : (0 : Int) ≤ ((A * 2 ^ s : Nat) : Int) := by omega
    generalize ((A * 2 ^ s : Nat) : Int) = W at *
    unfold ab at *
    split at this <;> split at this <;> split <;> split <;> omega

/-- NEAREST -/
theorem near {N m e : Int} (h : vr m e = true) (h1 : -2533359615 ≤ RI N 0) (h2 : RI N 0 ≤ 2533359615) : ab (UU (oM (RI N 0)) (oE (RI N 0)) - N) ≤ ab (UU m e - N) := by
  by_cases h0 : 0 ≤ N
  · obtain ⟨n, rfl⟩ := Int.eq_ofNat_of_zero_le h0
    exact near_pos n h h2
  · obtain ⟨n, hn⟩ := Int.eq_ofNat_of_zero_le (show 0 ≤ -N by omega)
    have hN : N = -(n : Int) := by omega
    subst hN
    rw [RI_neg] at h1 h2 ⊢
    have hv : vr (-m) e = true := by
      rw [vr_iff] at h ⊢
      unfold ab at *
      split at h <;> split <;> omega
    have := near_pos n hv (by omega)
    rw [oM_neg, oE_neg, UU_neg]
    rw [UU_neg] at this
    generalize UU (oM (RI (n : Int) 0)) (oE (RI (n : Int) 0)) = V at *
    generalize UU m e = W at *
    unfold ab at *
    split at this <;> split at this <;> split <;> split <;> omega

/-- a real as a multiple of 2 to the -60th -/
def scV (m e : Int) : Int := m * 2 ^ (e + 60).toNat

theorem scV_UU {m e : Int} (he : -60 ≤ e) : UU m e = scV m e * 2 ^ 90 := by
  unfold UU scV
  rw [Int.mul_assoc, ← Int.pow_add, show (e + 150).toNat = (e + 60).toNat + 90 from by omega]

theorem near_sc {a b c u N : Int} (K : Int) (hK : 0 < K) (h : ab (u * K - N * K) ≤ ab (c * K - N * K)) : ab (u - N) ≤ ab (c - N) := by
  rw [← Int.sub_mul, ← Int.sub_mul] at h
  have e : ∀ x : Int, ab (x * K) = ab x * K := by
    intro x
    unfold ab
    split
    · rename_i hx
      rw [if_pos (by
        rcases Int.lt_or_le x 0 with g | g
        · exact g
        · have := Int.mul_nonneg g (Int.le_of_lt hK); omega), Int.neg_mul]
    · rename_i hx
      rw [if_neg]
      intro g
      have := Int.mul_neg_of_neg_of_pos g hK
      omega
  rw [e, e] at h
  exact Int.le_of_mul_le_mul_right h hK

end Go.Proofs.YticiabgnegbbmaaGreatDoor

namespace Go.Proofs.YticiabgnegbbmaaGreatDoor
set_option linter.unusedVariables false

/-- the number of digits to the base 2^15, the least significant one first -/
def vl : List Int → Int
  | [] => 0
  | d :: l => d + 32768 * vl l
def Dg (l : List Int) : Prop := ∀ d ∈ l, 0 ≤ d ∧ d < 32768
def pw (k : Nat) : Int := 32768 ^ k
theorem pw_succ (k : Nat) : pw (k + 1) = pw k * 32768 := Int.pow_succ _ _
theorem pwN_zero : pw 0 = 1 := rfl
theorem pw_pos (k : Nat) : 0 < pw k := by
  induction k with
  | zero => decide
  | succ k ih => rw [pw_succ]; omega
theorem pw_add (a b : Nat) : pw (a + b) = pw a * pw b := Int.pow_add _ _ _
theorem pw_le {a b : Nat} (h : a ≤ b) : pw a ≤ pw b := by
  obtain ⟨c, rfl⟩ := Nat.le.dest h
  rw [pw_add]
  have h1 := pw_pos a
  have h2 := pw_pos c
  have := Int.mul_le_mul_of_nonneg_left (show 1 ≤ pw c by omega) (Int.le_of_lt h1)
  omega
theorem vl_snoc (l : List Int) (d : Int) : vl (l ++ [d]) = vl l + d * pw l.length := by
  induction l with
  | nil => simp [vl, pwN_zero]
  | cons x l ih =>
    simp only [List.cons_append, vl, ih, List.length_cons, pw_succ]
    have e : d * (pw l.length * 32768) = 32768 * (d * pw l.length) := by
      rw [← Int.mul_assoc, Int.mul_comm]
    omega
theorem vl_append (l m : List Int) : vl (l ++ m) = vl l + vl m * pw l.length := by
  induction m generalizing l with
  | nil => simp [vl]
  | cons x m ih =>
    rw [show l ++ x :: m = (l ++ [x]) ++ m from by simp, ih, vl_snoc]
    simp only [vl, List.length_append, List.length_cons, List.length_nil, Nat.zero_add, pw_succ]
    have e1 : vl m * (pw l.length * 32768) = 32768 * vl m * pw l.length := by
      rw [Int.mul_comm (pw l.length), ← Int.mul_assoc, Int.mul_comm (vl m) 32768]
    rw [Int.add_mul]
    omega
theorem vl_nn {l : List Int} (h : Dg l) : 0 ≤ vl l := by
  induction l with
  | nil => decide
  | cons x l ih =>
    have h1 := h x (by simp)
    have h2 := ih fun d hd => h d (by simp [hd])
    simp only [vl]
    omega
theorem vl_lt {l : List Int} (h : Dg l) : vl l < pw l.length := by
  induction l with
  | nil => decide
  | cons x l ih =>
    have h1 := h x (by simp)
    have h2 := ih fun d hd => h d (by simp [hd])
    simp only [vl, List.length_cons, pw_succ]
    omega
theorem dg_take {l : List Int} (h : Dg l) (k : Nat) : Dg (l.take k) := fun d hd => h d (List.mem_of_mem_take hd)
theorem dg_drop {l : List Int} (h : Dg l) (k : Nat) : Dg (l.drop k) := fun d hd => h d (List.mem_of_mem_drop hd)
theorem dg_snoc {l : List Int} (h : Dg l) {d : Int} (h1 : 0 ≤ d) (h2 : d < 32768) : Dg (l ++ [d]) := by
  intro x hx
  rcases List.mem_append.1 hx with hx | hx
  · exact h x hx
  · obtain rfl : x = d := by simpa using hx
    exact ⟨h1, h2⟩
theorem dg_set {l : List Int} (h : Dg l) (j : Nat) {d : Int} (h1 : 0 ≤ d) (h2 : d < 32768) : Dg (l.set j d) := by
  intro x hx
  rcases List.mem_or_eq_of_mem_set hx with hx | rfl
  · exact h x hx
  · exact ⟨h1, h2⟩
theorem take_more {l : List Int} {k : Nat} (h : k < l.length) : l.take (k + 1) = l.take k ++ [l[k]] := List.take_succ_eq_append_getElem h
theorem vl_take {l : List Int} {k : Nat} (h : k < l.length) : vl (l.take (k + 1)) = vl (l.take k) + l[k] * pw k := by
  rw [take_more h, vl_snoc, List.length_take, Nat.min_eq_left (Nat.le_of_lt h)]
theorem vl_split (l : List Int) (k : Nat) (h : k ≤ l.length) : vl l = vl (l.take k) + vl (l.drop k) * pw k := by
  have := vl_append (l.take k) (l.drop k)
  rw [List.take_append_drop, List.length_take, Nat.min_eq_left h] at this
  exact this
theorem vl_set {l : List Int} {j : Nat} (h : j < l.length) (d : Int) : vl (l.set j d) = vl l + (d - l[j]) * pw j := by
  have e1 := vl_split l j (Nat.le_of_lt h)
  have e2 := vl_split (l.set j d) j (by simpa using Nat.le_of_lt h)
  rw [List.take_set_of_le (Nat.le_refl j)] at e2
  rw [List.drop_eq_getElem_cons h] at e1
  have e3 : (l.set j d).drop j = d :: l.drop (j + 1) := by
    rw [List.drop_eq_getElem_cons (by simpa using h), List.drop_set_of_lt (Nat.lt_succ_self j)]
    simp
  rw [e3] at e2
  simp only [vl, Int.add_mul, Int.sub_mul] at e1 e2 ⊢
  omega
theorem md_dv (c p : Int) : c % 32768 * p + c / 32768 * (p * 32768) = c * p := by
  have h := Int.emod_add_mul_ediv c 32768
  have e : c / 32768 * (p * 32768) = 32768 * (c / 32768) * p := by
    rw [Int.mul_comm p, ← Int.mul_assoc, Int.mul_comm (c / 32768) 32768]
  rw [e, ← Int.add_mul, h]

/-- no zero at the end -/
def Ct (l : List Int) : Prop := Dg l ∧ l.getLast? ≠ some 0
theorem ct_ge {l : List Int} (h : Ct l) (h0 : l ≠ []) : pw (l.length - 1) ≤ vl l := by
  obtain ⟨m, x, rfl⟩ : ∃ m x, l = m ++ [x] := ⟨l.dropLast, l.getLast h0, (List.dropLast_concat_getLast h0).symm⟩
  have hx := h.1 x (by simp)
  have hx0 : x ≠ 0 := by
    intro e
    apply h.2
    rw [List.getLast?_concat, e]
  have hm := vl_nn (l := m) fun d hd => h.1 d (by simp [hd])
  rw [vl_snoc]
  simp only [List.length_append, List.length_cons, List.length_nil, Nat.zero_add, Nat.add_sub_cancel]
  have := pw_pos m.length
  have := Int.mul_le_mul_of_nonneg_right (show 1 ≤ x by omega) (Int.le_of_lt (pw_pos m.length))
  omega
theorem ct_len {l : List Int} (h : Ct l) {k : Nat} (hk : vl l < pw k) : l.length ≤ k := by
  by_cases h0 : l = []
  · rw [h0]; exact Nat.zero_le _
  · have h1 := ct_ge h h0
    by_cases h2 : l.length ≤ k
    · exact h2
    · have := pw_le (show k ≤ l.length - 1 by omega)
      omega
theorem ct_lt {l m : List Int} (h : Dg l) (h2 : Ct m) (hl : l.length < m.length) : vl l < vl m := by
  have a := vl_lt h
  have b := ct_ge h2 (by intro e; rw [e] at hl; simp at hl)
  have := pw_le (show l.length ≤ m.length - 1 by omega)
  omega

/-- without zeros at the end -/
def tr : List Int → Nat → Nat
  | _, 0 => 0
  | l, n + 1 => if l[n]? = some 0 then tr l n else n + 1
theorem tr_le (l : List Int) (n : Nat) : tr l n ≤ n := by
  induction n with
  | zero => exact Nat.le_refl _
  | succ n ih => unfold tr; split <;> omega
theorem tr_ct {l : List Int} (h : Dg l) : ∀ n, n ≤ l.length → Ct (l.take (tr l n)) ∧ vl (l.take (tr l n)) = vl (l.take n) := by
  intro n
  induction n with
  | zero => intro _; exact ⟨⟨by intro d hd; simp [tr] at hd, by simp [tr]⟩, rfl⟩
  | succ n ih =>
    intro hn
    unfold tr
    split
    · rename_i h0
      have hlt : n < l.length := by omega
      have e0 : l[n] = 0 := by rw [List.getElem?_eq_getElem hlt] at h0; exact Option.some.inj h0
      refine ⟨(ih (by omega)).1, ?_⟩
      rw [(ih (by omega)).2, vl_take hlt, e0]
      omega
    · rename_i h0
      refine ⟨⟨dg_take h _, ?_⟩, rfl⟩
      rw [take_more (show n < l.length by omega), List.getLast?_concat]
      intro e
      apply h0
      rw [List.getElem?_eq_getElem (show n < l.length by omega)]
      exact e

/-- which of two is greater -/
def sg (a b : Int) : Int := if a < b then -1 else if b < a then 1 else 0
theorem top_lt {a b : List Int} {i : Nat} (ha : Dg a) (hb : Dg b) (hi : i < a.length) (hi2 : i < b.length) (he : a.drop (i + 1) = b.drop (i + 1)) (h : a[i] < b[i]) : vl a < vl b := by
  have e1 := vl_split a i (Nat.le_of_lt hi)
  have e2 := vl_split b i (Nat.le_of_lt hi2)
  rw [List.drop_eq_getElem_cons hi] at e1
  rw [List.drop_eq_getElem_cons hi2, ← he] at e2
  have l1 := vl_lt (dg_take ha i)
  have l2 := vl_nn (dg_take hb i)
  rw [List.length_take, Nat.min_eq_left (Nat.le_of_lt hi)] at l1
  simp only [vl, Int.add_mul] at e1 e2
  have := Int.mul_le_mul_of_nonneg_right (show a[i] + 1 ≤ b[i] by omega) (Int.le_of_lt (pw_pos i))
  rw [Int.add_mul, Int.one_mul] at this
  omega

theorem pw_two (n : Nat) : (2 : Int) ^ n = 2 ^ (n % 15) * pw (n / 15) := by
  have h := Nat.mod_add_div n 15
  have e : (2 : Int) ^ n = 2 ^ (n % 15 + 15 * (n / 15)) := by rw [h]
  rw [e, Int.pow_add, Int.pow_mul]
  rfl
theorem vl_rep (k : Nat) : vl (List.replicate k 0) = 0 := by
  induction k with
  | zero => rfl
  | succ k ih => rw [List.replicate_succ, vl, ih]; rfl
theorem dg_rep (k : Nat) : Dg (List.replicate k 0) := fun d hd => by
  rw [(List.mem_replicate.1 hd).2]; omega

theorem vl_get (l : List Int) (k : Nat) : vl (l.take (k + 1)) = vl (l.take k) + l[k]?.getD 0 * pw k := by
  by_cases h : k < l.length
  · rw [vl_take h, List.getElem?_eq_getElem h]; rfl
  · rw [List.take_of_length_le (by omega), List.take_of_length_le (by omega), List.getElem?_eq_none (by omega)]
    simp
theorem dg_get {l : List Int} (h : Dg l) (k : Nat) : 0 ≤ l[k]?.getD 0 ∧ l[k]?.getD 0 < 32768 := by
  by_cases hk : k < l.length
  · rw [List.getElem?_eq_getElem hk]
    exact h _ (List.getElem_mem hk)
  · rw [List.getElem?_eq_none (by omega)]
    exact ⟨Int.le_refl _, by decide⟩
theorem ct_top {l : List Int} (h : Dg l) (n : Nat) (hn : l.length = n + 1) (hv : pw n ≤ vl l) : Ct l := by
  refine ⟨h, fun e => ?_⟩
  have h0 : l ≠ [] := by intro e; rw [e] at hn; cases hn
  have e2 : l = l.dropLast ++ [l.getLast h0] := (List.dropLast_concat_getLast h0).symm
  have e3 : l.getLast h0 = 0 := by
    rw [List.getLast?_eq_some_getLast h0] at e
    exact Option.some.inj e
  rw [e3] at e2
  have hd : Dg l.dropLast := fun d hd => h d (List.dropLast_subset _ hd)
  have hl := vl_lt hd
  rw [List.length_dropLast, hn, Nat.add_sub_cancel] at hl
  rw [e2, vl_snoc] at hv
  omega
theorem ct_nil : Ct [] := ⟨(fun d hd => by cases hd), by simp⟩
/-- the top of a sum -/
theorem sum_top {l m O : List Int} (hl : Ct l) (hm : Ct m) (hO : Dg O) (h1 : l.length ≤ O.length) (h2 : m.length ≤ O.length) (h3 : O.length ≤ l.length ∨ O.length ≤ m.length) (hv : vl O = vl l + vl m) : Ct O := by
  cases hn : O.length with
  | zero =>
    have : O = [] := List.eq_nil_of_length_eq_zero hn
    rw [this]
    exact ct_nil
  | succ n =>
    refine ct_top hO n hn ?_
    have a1 := vl_nn hl.1
    have a2 := vl_nn hm.1
    rcases h3 with h3 | h3
    · have e : l.length = n + 1 := by omega
      have := ct_ge hl (by intro e2; rw [e2] at e; cases e)
      rw [e, Nat.add_sub_cancel] at this
      omega
    · have e : m.length = n + 1 := by omega
      have := ct_ge hm (by intro e2; rw [e2] at e; cases e)
      rw [e, Nat.add_sub_cancel] at this
      omega
/-- one step of a product -/
theorem mulN_step {O : List Int} {j : Nat} {c o p S T : Int} (hj : j < O.length) (ho : O[j] = o) (h : vl O + c * pw j = S) (hT : T = S + p * pw j) :
    vl (O.set j ((c + o + p) % 32768)) + (c + o + p) / 32768 * pw (j + 1) = T := by
  rw [vl_set hj, ho, pw_succ, hT, ← h]
  have e := md_dv (c + o + p) (pw j)
  simp only [Int.add_mul, Int.sub_mul] at e ⊢
  omega
theorem xy_bd {x y : Int} (h1 : 0 ≤ x) (h2 : x < 32768) (h3 : 0 ≤ y) (h4 : y < 32768) : 0 ≤ x * y ∧ x * y ≤ 1073676289 := by
  refine ⟨Int.mul_nonneg h1 h3, ?_⟩
  have a := Int.mul_le_mul_of_nonneg_right (show x ≤ 32767 by omega) h3
  omega
theorem z_get {l : List Int} {j : Nat} (h : l[j]?.getD 0 = 0) (hj : j < l.length) : l[j] = 0 := by
  rw [List.getElem?_eq_getElem hj] at h
  exact h
theorem z_set {l : List Int} {j q : Nat} {d : Int} (h : l[q]?.getD 0 = 0) (hne : j ≠ q) : (l.set j d)[q]?.getD 0 = 0 := by
  rw [List.getElem?_set_ne hne]
  exact h

end Go.Proofs.YticiabgnegbbmaaGreatDoor

namespace Go.Proofs.YticiabgnegbbmaaGreatDoor
open Go.RowKit
set_option linter.unusedVariables false

/-- what a slice of integers reads as -/
def Reads (w : World) (a : Option Addr) (l : List Int) : Prop := l = [] ∨ ∃ b off, a = some ⟨b, off, none⟩ ∧ ∀ i, i < l.length → w.cell? ⟨b, off + i, none⟩ = some (.int .i64 (l[i]?.getD 0))

/-- integers as cells -/
def ints (l : List Int) : List Value := l.map (Value.int .i64)

theorem ints_one (l : List Int) : ∀ u ∈ ints l, u.oneCell' = true := by
  intro u hu
  simp only [ints, List.mem_map] at hu
  obtain ⟨n, _, rfl⟩ := hu
  rfl

theorem ints_get {l : List Int} {j : Nat} {u : Value} (h : (ints l)[j]? = some u) : j < l.length ∧ u = .int .i64 (l[j]?.getD 0) := by
  simp only [ints, List.getElem?_map] at h
  rcases hj : l[j]? with _ | x
  · rw [hj] at h; simp at h
  · rw [hj] at h
    simp at h
    exact ⟨(List.getElem?_eq_some_iff.1 hj).1, by rw [← h]; rfl⟩

theorem Reads.at_ {w : World} {ad : Addr} {l : List Int} (h : Reads w (some ad) l) : ∀ j u, (ints l)[j]? = some u → w.cell? (ad.add j) = some u := by
  intro j u hu
  obtain ⟨hj, rfl⟩ := ints_get hu
  rcases h with rfl | ⟨b, off, he, hc⟩
  · simp at hj
  · injection he with he
    subst he
    have := hc j hj
    rcases j with _ | j
    · simp [Addr.add]
    · simp [Addr.add]

/-- a row of the call's own reads as its list -/
theorem Reads.own {w : World} {base : Nat} {e : TypeId} {A : Option Addr} {c : Nat} {l : List Int} {n : Nat} (h : w.ownsRow base e 1 (.slice A n c) n (ints l)) : Reads w A l ∧ l.length = n := by
  have hl : l.length = n := by have := h.1; simpa [ints] using this
  refine ⟨?_, hl⟩
  by_cases h0 : l = []
  · exact .inl h0
  · right
    have hp : 0 < n := by rcases l with _ | _; exact absurd rfl h0; simp at hl; omega
    obtain ⟨g, cap, hv, _, _⟩ := h.form hp
    injection hv with hA
    subst hA
    refine ⟨g, 0, rfl, fun i hi => ?_⟩
    have := h.cells (g := g) rfl i (.int .i64 (l[i]?.getD 0)) (by simp only [ints, List.getElem?_map]; rw [List.getElem?_eq_getElem hi]; rfl)
    rcases i with _ | i
    · simpa [Addr.add] using this
    · simpa [Addr.add] using this

theorem wpl_more {P : Program} (w : World) {ops : Array Oper} {rest : List Oper} {o : Oper} {a : Act} {Q : Exit → Act → World → Prop} (hgd : o.guard = none) (s x : Operand) (t : TypeId)
    (ho : o.op = .call { callee := .builtin .append, args := #[s, x], argTypes := #[t, t] })
    (base : Nat) (e : TypeId) (i : TypeInfo) (ht : P.underlying t = some (.slice e)) (hi : P.info? e = some i) (hz : i.zero = some (.int .i64 0)) (hsize : i.size = 1) (hby : i.bytes = 8)
    (v : Value) (n : Nat) (k l : List Int) (hs : a.eval s = v) (hown : w.ownsRow base e 1 v n (ints k))
    (A : Option Addr) (m c : Nat) (hx : a.eval x = .slice A m c) (hl : l.length = m) (hr : Reads w A l) (hA : A = none → m = 0 ∧ c = 0)
    (room : n + m ≤ 16777216) (hbase : base ≤ w.heap.size)
    (h : ∀ v' w', w'.ownsRow base e 1 v' (n + m) (ints (k ++ l)) → w.grownBy w' v.ownBlock → (v'.ownBlock = v.ownBlock ∨ v'.ownBlock = some w.heap.size) → wpList P ops Q rest (a.put o.dst v') w') :
    wpList P ops Q (o :: rest) a w := by
  rcases A with _ | ad
  · obtain ⟨rfl, rfl⟩ := hA rfl
    obtain rfl : l = [] := List.eq_nil_of_length_eq_zero hl
    refine wpList_append_own_none (w := w) hgd s x t ho base e i 1 ht hi v n (ints k) hs hown hx ?_
    exact h v w (by simpa using hown) (World.grownBy.refl w _) (.inl rfl)
  · refine wpList_append_own_at (w := w) hgd s x t ho base e i (.int .i64 0) 1 8 ht hi hz hsize hby rfl (by omega) v n (ints k) hs hown ad m c (ints l) hx (by simpa [ints] using hl) hr.at_ (ints_one l) (by simp only [maxLen]; omega) (by omega) hbase ?_
    intro v' w' h1 h2 _ h4
    exact h v' w' (by simpa [ints] using h1) h2 h4

theorem int_info : (Tryz.prog.info? 3).map (fun i => (i.zero, i.size, i.bytes)) = some (some (.int .i64 0), 1, 8) := by kernel_rfl

theorem int_parts : ∃ i, Tryz.prog.info? 3 = some i ∧ i.zero = some (.int .i64 0) ∧ i.size = 1 ∧ i.bytes = 8 := by
  have h := int_info
  rcases hi : Tryz.prog.info? 3 with _ | i
  · rw [hi] at h; simp at h
  · rw [hi] at h
    simp at h
    exact ⟨i, rfl, h.1, h.2.1, h.2.2⟩

theorem Reads.below {w w' : World} {A : Option Addr} {l : List Int} (h : Reads w A l) (hB : Below w.heap.size w w') : Reads w' A l := by
  rcases h with rfl | ⟨b, off, rfl, hc⟩
  · exact .inl rfl
  · exact .inr ⟨b, off, rfl, fun i hi => (hB.cell (World.block_lt_of_cell? w _ (hc i hi))).trans (hc i hi)⟩

theorem own_slice {w : World} {base : Nat} {e : TypeId} {v : Value} {n : Nat} {xs : List Value} (h : w.ownsRow base e 1 v n xs) :
    ∃ A c, v = .slice A n c ∧ (A = none → n = 0 ∧ c = 0) := by
  rcases h.2 with ⟨rfl, rfl⟩ | ⟨g, cap, cur, rfl, _⟩
  · exact ⟨none, 0, rfl, fun _ => ⟨rfl, rfl⟩⟩
  · exact ⟨_, _, rfl, fun h => by cases h⟩

theorem own_ge {w : World} {base : Nat} {e : TypeId} {v : Value} {n : Nat} {xs : List Value} (h : w.ownsRow base e 1 v n xs) : ∀ g, v.ownBlock = some g → base ≤ g := by
  intro g hg
  rcases h.2 with ⟨rfl, rfl⟩ | ⟨g', cap, cur, rfl, hb, _⟩
  · simp [Value.ownBlock] at hg
  · simp [Value.ownBlock] at hg
    omega

theorem reads_new (w : World) (x : Int) (e : TypeId) : Reads (w.alloc (.cells #[.int .i64 x] e)) (some ⟨w.heap.size, 0, none⟩) [x] := by
  refine .inr ⟨w.heap.size, 0, rfl, fun i hi => ?_⟩
  obtain rfl : i = 0 := by simpa using hi
  exact World.cell?_alloc_mark w #[.int .i64 x] e (0, 0) 0

theorem Reads.get {w : World} {A : Option Addr} {l : List Int} (h : Reads w A l) {i : Nat} (hi : i < l.length) : ∃ b off, A = some ⟨b, off, none⟩ ∧ b < w.heap.size ∧ w.cell? ⟨b, off + i, none⟩ = some (.int .i64 l[i]) := by
  rcases h with rfl | ⟨b, off, he, hc⟩
  · simp at hi
  · have := hc i hi
    rw [List.getElem?_eq_getElem hi] at this
    exact ⟨b, off, he, World.block_lt_of_cell? w _ this, this⟩
theorem Reads.take {w : World} {A : Option Addr} {l : List Int} (h : Reads w A l) (k : Nat) : Reads w A (l.take k) := by
  rcases h with rfl | ⟨b, off, he, hc⟩
  · exact .inl (by simp)
  · refine .inr ⟨b, off, he, fun i hi => ?_⟩
    have h2 : i < k := by rw [List.length_take] at hi; omega
    rw [List.getElem?_take_of_lt h2]
    exact hc i (by rw [List.length_take] at hi; omega)

theorem wrap64' (x : Int) (h1 : -9223372036854775808 ≤ x) (h2 : x ≤ 9223372036854775807) : IntKind.i64.wrap x = x := IntWalk.i64_in _ (by omega)
theorem belowQ {B : Nat} {a w : World} (h : Below B a w) (k : Nat) : Below B a (w.drewN k) := h.trans (Go.Joins.below_draws _ _ _)
theorem own_snoc {w : World} {B : Nat} {e : TypeId} {v : Value} {l : List Int} {d : Int} (h : w.ownsRow B e 1 v (l.length + 1) (ints (l ++ [d]))) : w.ownsRow B e 1 v (l ++ [d]).length (ints (l ++ [d])) := by
  have e1 : (l ++ [d]).length = l.length + 1 := by rw [List.length_append]; rfl
  rw [e1]
  exact h

/-- a slice that is a natural number -/
def NatIs (w : World) (v : Value) (n : Int) : Prop := ∃ (o : Option Addr) (l : List Int) (c : Nat), v = .slice o l.length c ∧ l.length ≤ c ∧ (o = none → l.length = 0 ∧ c = 0) ∧ Reads w o l ∧ Ct l ∧ vl l = n
theorem NatIs.below {w w' : World} {v : Value} {n : Int} (h : NatIs w v n) (hB : Below w.heap.size w w') : NatIs w' v n := by
  obtain ⟨o, l, c, h1, h2, h3, h4, h5⟩ := h
  exact ⟨o, l, c, h1, h2, h3, h4.below hB, h5⟩
theorem NatIs.nn {w : World} {v : Value} {n : Int} (h : NatIs w v n) : 0 ≤ n := by
  obtain ⟨o, l, c, _, _, _, _, h5, h6⟩ := h
  rw [← h6]
  exact vl_nn h5.1
theorem nat_own {w : World} {B : Nat} {e : TypeId} {v : Value} {l : List Int} {n : Int} (h : w.ownsRow B e 1 v l.length (ints l)) (hc : Ct l) (hv : vl l = n) : NatIs w v n := by
  obtain ⟨A, c, rfl, hA⟩ := own_slice h
  refine ⟨A, l, c, rfl, ?_, hA, (Reads.own h).1, hc, hv⟩
  rcases h.2 with ⟨h, _⟩ | ⟨g, cap, cur, h, _, _, h4, _⟩
  · injection h with _ e1 e2; omega
  · injection h with _ _ e2; omega

end Go.Proofs.YticiabgnegbbmaaGreatDoor

namespace Go.Proofs.YticiabgnegbbmaaGreatDoor
open Go.RowKit
set_option linter.unusedVariables false

set_option maxRecDepth 100000 in
set_option maxHeartbeats 1600000 in
theorem small_any (n : Int) (w : World) (h0 : 0 ≤ n) (h1 : n ≤ 9223372036854775807) :
    Calls Tryz.prog 66 #[.int .i64 n] w fun e w' => ∃ r, e = .returned r ∧ NatIs w' r n ∧ Below w.heap.size w w' := by
  obtain ⟨i0, hi0', hz0', hz1', hz2'⟩ := int_parts
  have hi0 := Lib.hid hi0'
  have hz0 := Lib.hid hz0'
  have hz1 := Lib.hid hz1'
  have hz2 := Lib.hid hz2'
  clear hi0' hz0' hz1' hz2'
  have hp5 : pw 5 = 37778931862957161709568 := by simp [pw]
  have HP5 := Lib.hid (show ∀ k : Nat, 5 ≤ k → 37778931862957161709568 ≤ pw k from fun k hk => by rw [← hp5]; exact pw_le hk)
  clear hp5
  go_enter Tryz.func66, Tryz.ntmps66
  go_wp2_with fail
  go_loopw [0, 3] (fun x v wr => ∃ (m : Int) (l : List Int), x = .int .i64 m ∧ 0 ≤ m ∧ m ≤ n ∧ Below w.heap.size w wr ∧ wr.ownsRow w.heap.size 3 1 v l.length (ints l) ∧ Dg l ∧ vl l + m * pw l.length = n ∧ (m = 0 → l.getLast? ≠ some 0)) (fun x _ _ => (intOf x).toNat)
  case atStart => exact ⟨n, [], rfl, h0, Int.le_refl _, Below.refl _ _, World.ownsRow_nil _ _ _ _, (fun d hd => by cases hd), by simp [vl, pwN_zero], fun _ => by simp⟩
  case round =>
    obtain ⟨m, l, rfl, m0, m1, hbw, hown, hdg, hv, hct⟩ := hrel
    have HB := Lib.hid hbw
    have HO := Lib.hid hown
    have HD := Lib.hid hdg
    have HV := Lib.hid hv
    have HC := Lib.hid hct
    clear hbw hown hdg hv hct
    by_cases hm : 0 < m
    · have hl5 : l.length ≤ 4 := by
        by_cases hk : l.length ≤ 4
        · exact hk
        · have a1 := HP5.out l.length (by omega)
          have a2 := vl_nn HD.out
          have a3 := HV.out
          have a4 := Int.mul_le_mul_of_nonneg_right (show 1 ≤ m by omega) (Int.le_of_lt (pw_pos l.length))
          omega
      have hq : m.tmod 32768 = m % 32768 := Int.tmod_eq_emod_of_nonneg m0
      have hd : m.tdiv 32768 = m / 32768 := Int.tdiv_eq_ediv_of_nonneg m0
      have b1 : 0 ≤ m % 32768 := Int.emod_nonneg _ (by decide)
      have b2 : m % 32768 < 32768 := Int.emod_lt_of_pos _ (by decide)
      have b3 : 0 ≤ m / 32768 := Int.ediv_nonneg m0 (by decide)
      have b4 : m / 32768 < m := by omega
      have HN := Lib.hid (show vl (l ++ [m % 32768]) + m / 32768 * pw (l ++ [m % 32768]).length = n by
        rw [vl_snoc, List.length_append, List.length_cons, List.length_nil, Nat.zero_add, pw_succ]
        have := md_dv m (pw l.length)
        have := HV.out
        omega)
      have HDN := Lib.hid (dg_snoc HD.out b1 b2)
      have HZ := Lib.hid (show m / 32768 = 0 → m % 32768 ≠ 0 by omega)
      obtain ⟨d, hde⟩ : ∃ d, d = m % 32768 := ⟨_, rfl⟩
      obtain ⟨q, hqe⟩ : ∃ q, q = m / 32768 := ⟨_, rfl⟩
      rw [← hde] at HN HDN HZ b1 b2 hq
      rw [← hqe] at HN HZ b3 b4 hd
      clear hde hqe
      have HA := Lib.hid (HO.out.alloc (.cells #[.int .i64 (d)] 3))
      have HBA := Lib.hid (HB.out.alloc HB.out.size (.cells #[.int .i64 (d)] 3))
      have HRN := Lib.hid (reads_new wr (d) 3)
      go_wp2_with (at_builtin; refine wpl_more _ rfl (.tmp 6) (.tmp 9) _ rfl w.heap.size 3 i0 Tryz.underlying66 hi0.out hz0.out hz1.out hz2.out _ _ l [d] (by rfl) HA.out (some ⟨wr.heap.size, 0, none⟩) 1 1 (by rfl) rfl HRN.out (fun h => by cases h) (by omega) HBA.out.size ?_; intro v2 w2 hown2 hg2 hat2; have HB2 := Lib.hid (show Below w.heap.size w w2 from HBA.out.grown hg2 HBA.out.size (own_ge HA.out)); have HO2 := Lib.hid hown2; clear hown2 hg2 hat2)
      case roundEnd =>
        refine ⟨⟨q, l ++ [d], rfl, b3, by omega, HB2.out, own_snoc HO2.out, HDN.out, HN.out, fun h => by rw [List.getLast?_concat]; exact fun e => HZ.out h (Option.some.inj e)⟩, by simp only [intOf]; omega⟩
    · have hm0 : m = 0 := by omega
      subst hm0
      obtain ⟨A, c, rfl, hA⟩ := own_slice HO.out
      have HR := Lib.hid (show NatIs wr (.slice A l.length c) n from ⟨A, l, c, rfl, by
        rcases HO.out.2 with ⟨h, _⟩ | ⟨g, cap, cur, h, _, _, h4, _⟩
        · injection h with _ e1 e2; omega
        · injection h with _ _ e2; omega, hA, (Reads.own HO.out).1, ⟨HD.out, HC.out rfl⟩, by have := HV.out; omega⟩)
      clear hA
      go_wp2_with fail
      go_ret
      exact ⟨_, rfl, HR.out, HB.out⟩

set_option maxRecDepth 100000 in
set_option maxHeartbeats 1600000 in
theorem cut_nat (A : Option Addr) (c : Nat) (l : List Int) (w : World) (hr : Reads w A l) (hd : Dg l) (hl : l.length ≤ 100000) (hc : l.length ≤ c) (hA : A = none → l.length = 0 ∧ c = 0) :
    Calls Tryz.prog 95 #[.slice A l.length c] w fun e w' => ∃ r, e = .returned r ∧ NatIs w' r (vl l) ∧ Below w.heap.size w w' := by
  have HR := Lib.hid hr
  have HD := Lib.hid hd
  have HA := Lib.hid hA
  clear hr hd hA
  go_enter Tryz.func95, Tryz.ntmps95
  go_wp2_with fail
  go_loop [3] (fun x => ∃ k : Nat, k ≤ l.length ∧ x = .int .i64 k ∧ tr l l.length = tr l k) (fun x => (intOf x).toNat)
  case atStart => exact ⟨l.length, Nat.le_refl _, rfl, rfl⟩
  case round =>
    obtain ⟨k, hk, rfl, hq⟩ := hrel
    have HQ := Lib.hid hq
    clear hq
    rcases k with _ | j
    · have HZ := Lib.hid (show NatIs w (.slice A 0 c) (vl l) from by
        have h := tr_ct HD.out l.length (Nat.le_refl _)
        have e0 : tr l l.length = 0 := HQ.out
        rw [e0, List.take_length] at h
        refine ⟨A, [], c, rfl, Nat.zero_le _, fun h => ⟨rfl, (HA.out h).2⟩, .inl rfl, ?_⟩
        exact ⟨h.1, h.2⟩)
      go_wp2_with fail
      go_ret
      exact ⟨_, rfl, HZ.out, Below.refl _ _⟩
    · obtain ⟨b, off, rfl, hb, hcell⟩ := HR.out.get (show j < l.length by omega)
      have hw : IntKind.i64.wrap (((j + 1 : Nat) : Int) - 1) = (j : Int) := by rw [wrap64' _ (by omega) (by omega)]; omega
      have hj0 : (0 : Int) < ((j + 1 : Nat) : Int) := by omega
      have hj1 : (0 : Int) ≤ (j : Int) := by omega
      have hj2 : (j : Int) < (l.length : Int) := by omega
      have hj3 : ((j + 1 : Nat) : Int) ≤ (c : Int) := by omega
      by_cases hz : l[j] = 0
      · rw [hz] at hcell
        have HN := Lib.hid (show tr l l.length = tr l j by
          rw [HQ.out]
          show (if l[j]? = some 0 then tr l j else j + 1) = _
          rw [if_pos (by rw [List.getElem?_eq_getElem (show j < l.length by omega), hz])])
        clear hz
        go_wp2_with fail
        case roundEnd => exact ⟨⟨j, by omega, by first | rfl | (congr 1; omega), HN.out⟩, by simp only [intOf]; omega⟩
      · have HN := Lib.hid (show tr l l.length = j + 1 by
          rw [HQ.out]
          show (if l[j]? = some 0 then tr l j else j + 1) = _
          rw [if_neg (by rw [List.getElem?_eq_getElem (show j < l.length by omega)]; simpa using hz)])
        have HZ := Lib.hid (show NatIs w (.slice (some ⟨b, off, none⟩) (j + 1) c) (vl l) from by
          have h := tr_ct HD.out l.length (Nat.le_refl _)
          rw [HN.out, List.take_length] at h
          have hlen : (l.take (j + 1)).length = j + 1 := by rw [List.length_take]; omega
          refine ⟨some ⟨b, off, none⟩, l.take (j + 1), c, by rw [hlen], by omega, (fun h => by cases h), HR.out.take _, h⟩)
        obtain ⟨x, hx⟩ : ∃ x, x = l[j] := ⟨_, rfl⟩
        rw [← hx] at hcell hz
        clear hx
        have hz' : (x == 0) = false := by simpa using hz
        go_wp2_with fail
        go_ret
        exact ⟨_, rfl, HZ.out, Below.refl _ _⟩

set_option maxRecDepth 100000 in
set_option maxHeartbeats 1600000 in
theorem cmp_nat (u v : Value) (a b : Int) (w : World) (hu : NatIs w u a) (hv : NatIs w v b) (ha : a < pw 1000) (hb : b < pw 1000) :
    Calls Tryz.prog 69 #[u, v] w fun e w' => e = .returned (.int .i64 (sg a b)) ∧ Below w.heap.size w w' := by
  obtain ⟨A, l, c, rfl, h1, h2, h3, h4, h5⟩ := hu
  obtain ⟨B, m, d, rfl, g1, g2, g3, g4, g5⟩ := hv
  have hl := ct_len h4 (h5 ▸ ha)
  have hm := ct_len g4 (g5 ▸ hb)
  subst h5 g5
  have HL := Lib.hid h3
  have HM := Lib.hid g3
  have CL := Lib.hid h4
  have CM := Lib.hid g4
  clear h2 h3 h4 g2 g3 g4 ha hb
  rcases Nat.lt_trichotomy l.length m.length with hlt | heq | hgt
  · have hi : (l.length : Int) < (m.length : Int) := by omega
    have HS := Lib.hid (show sg (vl l) (vl m) = -1 by unfold sg; rw [if_pos (ct_lt CL.out.1 CM.out hlt)])
    rw [HS.out]
    go_enter Tryz.func69, Tryz.ntmps69
    go_wp2_with fail
    go_ret
    exact ⟨rfl, Below.refl _ _⟩
  · have hi : ¬ (l.length : Int) < (m.length : Int) := by omega
    have hi2 : ¬ (m.length : Int) < (l.length : Int) := by omega
    have hw0 : IntKind.i64.wrap ((l.length : Int) - 1) = (l.length : Int) - 1 := wrap64' _ (by omega) (by omega)
    have HEQ := Lib.hid heq
    have hlm : m.length ≤ l.length := by omega
    have hml : l.length ≤ m.length := by omega
    clear heq
    go_enter Tryz.func69, Tryz.ntmps69
    go_wp2_with fail
    go_loopw [5] (fun x wr => ∃ (k : Nat) (i : Int), k ≤ l.length ∧ x = .int .i64 i ∧ i = (k : Int) - 1 ∧ l.drop k = m.drop k ∧ Below w.heap.size w wr) (fun x _ => (intOf x + 1).toNat)
    case atStart => exact ⟨l.length, _, Nat.le_refl _, rfl, by omega, by rw [List.drop_length, HEQ.out, List.drop_length], Below.refl _ _⟩
    case round =>
      obtain ⟨k, i, hk, rfl, hik, hq, hbw⟩ := hrel
      have HQ := Lib.hid hq
      have HBW := Lib.hid hbw
      clear hq
      rcases k with _ | j
      · have hin : ¬ (0 : Int) ≤ i := by omega
        clear hik hbw
        have HS := Lib.hid (show sg (vl l) (vl m) = 0 by
          have : l = m := by simpa using HQ.out
          unfold sg; rw [this]; simp)
        go_wp2_with fail
        go_ret
        exact ⟨by rw [HS.out]; rfl, HBW.out⟩
      · obtain rfl : i = (j : Int) := by omega
        clear hik
        have hj1 : j < l.length := by omega
        have hj2 : j < m.length := by omega
        obtain ⟨b, off, rfl, hb, hcell⟩ := (HL.out.below hbw).get hj1
        obtain ⟨b2, off2, rfl, hb2, hcell2⟩ := (HM.out.below hbw).get hj2
        clear hbw
        have HE := Lib.hid (show l[j] = m[j] → l.drop j = m.drop j from fun e => by
          rw [List.drop_eq_getElem_cons hj1, List.drop_eq_getElem_cons hj2, e, HQ.out])
        have HLT := Lib.hid (show l[j] < m[j] → sg (vl l) (vl m) = -1 from fun e => by
          unfold sg; rw [if_pos (top_lt CL.out.1 CM.out.1 hj1 hj2 HQ.out e)])
        have HGT := Lib.hid (show m[j] < l[j] → sg (vl l) (vl m) = 1 from fun e => by
          have h := top_lt CM.out.1 CL.out.1 hj2 hj1 HQ.out.symm e
          unfold sg; rw [if_neg (by omega), if_pos h])
        obtain ⟨x, hx⟩ : ∃ x, x = l[j] := ⟨_, rfl⟩
        obtain ⟨y, hy⟩ : ∃ y, y = m[j] := ⟨_, rfl⟩
        rw [← hx] at hcell HE HLT HGT
        rw [← hy] at hcell2 HE HLT HGT
        clear hx hy
        have hz0 : (0 : Int) ≤ (j : Int) := by omega
        have hz1 : (j : Int) < (l.length : Int) := by omega
        have hz2 : (j : Int) < (m.length : Int) := by omega
        have hw : IntKind.i64.wrap ((j : Int) - 1) = (j : Int) - 1 := wrap64' _ (by omega) (by omega)
        rcases Int.lt_trichotomy x y with hxy | rfl | hxy
        · have HS := Lib.hid (HLT.out hxy)
          go_wp2_with fail
          go_quiet (fail)
          go_wp2_with fail
          go_ret
          exact ⟨by rw [HS.out]; rfl, by repeat (first | with_reducible exact HBW.out | with_reducible refine Below.drew ?_ | with_reducible refine belowQ ?_ _)⟩
        · have HD := Lib.hid (HE.out rfl)
          go_wp2_with fail
          go_quiet (fail)
          go_wp2_with fail
          go_quiet (fail)
          go_wp2_with fail
          case roundEnd => exact ⟨⟨j, _, by omega, rfl, by omega, HD.out, by repeat (first | with_reducible exact HBW.out | with_reducible refine Below.drew ?_ | with_reducible refine belowQ ?_ _)⟩, by simp only [intOf]; omega⟩
        · have hxy' : ¬ x < y := by omega
          have HS := Lib.hid (HGT.out hxy)
          go_wp2_with fail
          go_quiet (fail)
          go_wp2_with fail
          go_quiet (fail)
          go_wp2_with fail
          go_ret
          exact ⟨by rw [HS.out]; rfl, by repeat (first | with_reducible exact HBW.out | with_reducible refine Below.drew ?_ | with_reducible refine belowQ ?_ _)⟩
  · have hi : ¬ (l.length : Int) < (m.length : Int) := by omega
    have hi2 : (m.length : Int) < (l.length : Int) := by omega
    have HS := Lib.hid (show sg (vl l) (vl m) = 1 by
      have := ct_lt CM.out.1 CL.out hgt
      unfold sg; rw [if_neg (by omega), if_pos this])
    rw [HS.out]
    go_enter Tryz.func69, Tryz.ntmps69
    go_wp2_with fail
    go_ret
    exact ⟨rfl, Below.refl _ _⟩

end Go.Proofs.YticiabgnegbbmaaGreatDoor

namespace Go.Proofs.YticiabgnegbbmaaGreatDoor
open Go.RowKit
set_option linter.unusedVariables false

theorem le_of_iff {a b : Nat} (h : ¬ (a : Int) < (b : Int)) : b ≤ a := by omega

end Go.Proofs.YticiabgnegbbmaaGreatDoor

namespace Go.Proofs.YticiabgnegbbmaaGreatDoor
open Go.RowKit
set_option linter.unusedVariables false

theorem ints_set (l : List Int) (j : Nat) (d : Int) : (ints l).set j (.int .i64 d) = ints (l.set j d) := by
  unfold ints
  rw [List.map_set]
/-- a row that is stored into -/
theorem own_set {w : World} {B : Nat} {e : TypeId} {g n : Nat} {l : List Int} (h : w.ownsRow B e 1 (.slice (some ⟨g, 0, none⟩) n n) n (ints l)) (j : Nat) (d : Int) :
    (w.setCell ⟨g, j, none⟩ (.int .i64 d)).ownsRow B e 1 (.slice (some ⟨g, 0, none⟩) n n) n (ints (l.set j d)) := by
  have := (h.stored j (.int .i64 d)).1
  rwa [ints_set] at this
theorem own_cell {w : World} {B : Nat} {e : TypeId} {g n : Nat} {l : List Int} (h : w.ownsRow B e 1 (.slice (some ⟨g, 0, none⟩) n n) n (ints l)) {j : Nat} (hj : j < l.length) (hn : l.length = n) : w.cell? ⟨g, j, none⟩ = some (.int .i64 l[j]) := by
  rw [h.cellAt j (by omega)]
  simp only [ints, List.getElem?_map, List.getElem?_eq_getElem hj]
  rfl
theorem own_block {w : World} {B : Nat} {e : TypeId} {g n : Nat} {xs : List Value} (h : w.ownsRow B e 1 (.slice (some ⟨g, 0, none⟩) n n) n xs) : B ≤ g ∧ g < w.heap.size := by
  rcases h.2 with ⟨h', _⟩ | ⟨g', cap', cur, h', hb, hg, _⟩
  · simp at h'
  · simp only [Value.slice.injEq, Option.some.injEq, Addr.mk.injEq, and_true, true_and] at h'
    obtain ⟨rfl, rfl⟩ := h'
    refine ⟨hb, ?_⟩
    rcases Nat.lt_or_ge g w.heap.size with h1 | h1
    · exact h1
    · rw [Array.getElem?_eq_none h1] at hg; cases hg
theorem own_drewN {w : World} {B : Nat} {e : TypeId} {v : Value} {n k : Nat} {xs : List Value} (h : w.ownsRow B e 1 v n xs) : (w.drewN k).ownsRow B e 1 v n xs := h
theorem made_ints (n : Nat) : (madeCells (Value.cells (.int .i64 0)) (n * 1)).toList = ints (List.replicate n 0) := by
  show (madeCells #[.int .i64 0] (n * 1)).toList = _
  rw [toList_madeCells_one, Nat.mul_one]
  simp [ints]

set_option maxRecDepth 100000 in
set_option maxHeartbeats 4000000 in
theorem mul_nat (u v : Value) (a b : Int) (w : World) (hu : NatIs w u a) (hv : NatIs w v b) (ha : a < pw 1000) (hb : b < pw 1000) :
    Calls Tryz.prog 65 #[u, v] w fun e w' => ∃ r, e = .returned r ∧ NatIs w' r (a * b) ∧ Below w.heap.size w w' := by
  obtain ⟨A, l, c, rfl, h1, h2, h3, h4, h5⟩ := hu
  obtain ⟨B, m, d, rfl, g1, g2, g3, g4, g5⟩ := hv
  have hl := ct_len h4 (h5 ▸ ha)
  have hm := ct_len g4 (g5 ▸ hb)
  subst h5 g5
  have HL := Lib.hid h3
  have HM := Lib.hid g3
  have CL := Lib.hid h4
  have CM := Lib.hid g4
  obtain ⟨i0, hi0, hz0, hz1, hz2⟩ := int_parts
  obtain ⟨W0, hmk, hownM, hgM⟩ := run_makeSlice_full w w.heap.size 66 3 i0 (.int .i64 0) 1 Tryz.underlying66 hi0 hz0 hz1 .i64 .i64 (l.length + m.length) (by omega) (by rw [hz2]; omega) (by unfold maxLen; omega) (Nat.le_refl _)
  rw [Int.natCast_add] at hmk
  rw [made_ints] at hownM
  have HOM := Lib.hid hownM
  have HBM := Lib.hid (show Below w.heap.size w W0 from (Below.refl _ _).grown hgM (Nat.le_refl _) (fun j h => by cases h))
  clear h2 h3 h4 g2 g3 g4 ha hb hi0 hz0 hz1 hz2 hownM hgM
  have hs0 : IntKind.i64.wrap ((l.length : Int) + (m.length : Int)) = (l.length : Int) + (m.length : Int) := wrap64' _ (by omega) (by omega)
  obtain ⟨gg, hgge⟩ : ∃ gg, gg = w.heap.size := ⟨_, rfl⟩
  rw [← hgge] at hmk HOM
  have hgw : w.heap.size ≤ gg := Nat.le_of_eq hgge.symm
  go_enter Tryz.func65, Tryz.ntmps65
  clear hgge
  go_wp2_with fail
  go_loopw [6] (fun x wr => ∃ (i : Nat) (O : List Int), x = .int .i64 i ∧ i ≤ l.length ∧ Below w.heap.size w wr ∧ wr.ownsRow gg 3 1 (.slice (some ⟨gg, 0, none⟩) (l.length + m.length) (l.length + m.length)) (l.length + m.length) (ints O) ∧ O.length = l.length + m.length ∧ Dg O ∧ vl O = vl (l.take i) * vl m ∧ (∀ j, i + m.length ≤ j → O[j]?.getD 0 = 0)) (fun x _ => l.length - (intOf x).toNat)
  case atStart => exact ⟨0, List.replicate (l.length + m.length) 0, rfl, Nat.zero_le _, HBM.out, HOM.out, by simp, dg_rep _, by simp [vl_rep, vl], fun j _ => by rw [List.getElem?_replicate]; split <;> rfl⟩
  case round =>
    obtain ⟨i, O, rfl, hi, hbo, hown, hol, hdg, hvl, hze⟩ := hrel
    obtain ⟨wo, rfl⟩ : ∃ wo, wo = wr := ⟨_, rfl⟩
    have HB := Lib.hid hbo
    have HO := Lib.hid hown
    have HOL := Lib.hid hol
    have HD := Lib.hid hdg
    have HV := Lib.hid hvl
    have HZ := Lib.hid hze
    have hgg := own_block hown
    clear hown hol hdg hvl hze
    by_cases hk1 : i < l.length
    · obtain ⟨b1, o1, rfl, _, _⟩ := (HL.out.below hbo).get hk1
      have hx := List.getElem?_eq_getElem hk1
      have HX := Lib.hid (vl_get l i)
      have dx := dg_get CL.out.1 i
      rw [hx] at HX dx
      simp only [Option.getD_some] at HX dx
      have HLC := Lib.hid (show ∀ W, Below w.heap.size w W → b1 < W.heap.size ∧ W.cell? ⟨b1, o1 + i, none⟩ = some (.int .i64 l[i]) from fun W hW => by
        obtain ⟨b', o', e, h1, h2⟩ := (HL.out.below hW).get hk1
        cases e
        exact ⟨h1, h2⟩)
      obtain ⟨x, hxe⟩ : ∃ x, x = l[i] := ⟨_, rfl⟩
      rw [← hxe] at HX dx HLC
      clear hxe hx hbo
      have hiw : IntKind.i64.wrap ((i : Int) + 1) = (i : Int) + 1 := wrap64' _ (by omega) (by omega)
      have hc1 : (i : Int) < (l.length : Int) := by omega
      go_wp2_with fail
      go_loopw [7, 8] (fun x' y' wr => ∃ (k : Nat) (cc : Int) (P : List Int), y' = .int .i64 k ∧ x' = .int .i64 cc ∧ k ≤ m.length + 1 ∧ 0 ≤ cc ∧ cc ≤ 32767 ∧ Below w.heap.size w wr ∧ wr.ownsRow gg 3 1 (.slice (some ⟨gg, 0, none⟩) (l.length + m.length) (l.length + m.length)) (l.length + m.length) (ints P) ∧ P.length = l.length + m.length ∧ Dg P ∧ vl P + cc * pw (i + k) = vl (l.take i) * vl m + x * vl (m.take k) * pw i ∧ (∀ j, i + m.length ≤ j → i + k ≤ j → P[j]?.getD 0 = 0) ∧ (m.length < k → cc = 0)) (fun _ y' _ => m.length + 1 - (intOf y').toNat)
      case atStart => exact ⟨0, 0, O, rfl, rfl, Nat.zero_le _, Int.le_refl _, by decide, HB.out, HO.out, HOL.out, HD.out, by simp only [List.take_zero, vl]; have := HV.out; omega, fun j h _ => HZ.out j h, fun h => by omega⟩
      case round =>
        obtain ⟨k, cc, P, rfl, rfl, hk, q0, q1, hbw, hown, hpl, hdg, hvl, hze, hcz⟩ := hrel
        have HBI := Lib.hid hbw
        have HP := Lib.hid hown
        have HPL := Lib.hid hpl
        have HD2 := Lib.hid hdg
        have HV2 := Lib.hid hvl
        have HZ2 := Lib.hid hze
        have hgg2 := own_block hown
        obtain ⟨hb1, hcell1⟩ := HLC.out wr hbw
        by_cases hk2 : k < m.length
        · clear hown hpl hdg hvl hze hcz
          skip
          obtain ⟨b2, o2, rfl, hb2, hcell2⟩ := (HM.out.below hbw).get hk2
          have hy := List.getElem?_eq_getElem hk2
          have HY := Lib.hid (vl_get m k)
          have dy := dg_get CM.out.1 k
          rw [hy] at HY dy
          simp only [Option.getD_some] at HY dy
          obtain ⟨y, hye⟩ : ∃ y, y = m[k] := ⟨_, rfl⟩
          rw [← hye] at HY dy hcell2
          clear hye hy
          have hxy := xy_bd dx.1 dx.2 dy.1 dy.2
          have hj : i + k < P.length := by have := HPL.out; omega
          have hcellO := own_cell HP.out hj HPL.out
          have hfr := HP.out.frozenAt (i + k)
          have dO := HD2.out _ (List.getElem_mem hj)
          skip
          obtain ⟨oo, hoe⟩ : ∃ oo, oo = P[i + k] := ⟨_, rfl⟩
          have HSTEP := Lib.hid (mulN_step (c := cc) (p := x * y) (T := vl (l.take i) * vl m + x * vl (m.take (k + 1)) * pw i) hj hoe.symm HV2.out (by rw [HY.out, pw_add, Int.mul_add, Int.add_mul, ← Int.mul_assoc x y (pw k), Int.mul_assoc (x * y) (pw k) (pw i), Int.mul_comm (pw k) (pw i)]; omega))
          skip
          rw [← hoe] at hcellO dO
          clear hoe
          skip
          have hs0 : IntKind.i64.wrap ((i : Int) + (k : Int)) = (i : Int) + (k : Int) := wrap64' _ (by omega) (by omega)
          have hs1 : IntKind.i64.wrap (cc + oo) = cc + oo := wrap64' _ (by omega) (by omega)
          have hs2 : IntKind.i64.wrap (x * y) = x * y := wrap64' _ (by omega) (by omega)
          have hs3 : IntKind.i64.wrap (cc + oo + x * y) = cc + oo + x * y := wrap64' _ (by omega) (by omega)
          have hkw : IntKind.i64.wrap ((k : Int) + 1) = (k : Int) + 1 := wrap64' _ (by omega) (by omega)
          obtain ⟨z, hz⟩ : ∃ z, z = cc + oo + x * y := ⟨_, rfl⟩
          have z0 : 0 ≤ z := by omega
          have z1 : z ≤ 1073741823 := by omega
          have hq : (cc + oo + x * y).tmod 32768 = z % 32768 := by rw [← hz]; exact Int.tmod_eq_emod_of_nonneg z0
          have hd : (cc + oo + x * y).tdiv 32768 = z / 32768 := by rw [← hz]; exact Int.tdiv_eq_ediv_of_nonneg z0
          have b1 : 0 ≤ z % 32768 := Int.emod_nonneg _ (by decide)
          have b2 : z % 32768 < 32768 := Int.emod_lt_of_pos _ (by decide)
          have b3 : 0 ≤ z / 32768 := Int.ediv_nonneg z0 (by decide)
          have b4 : z / 32768 ≤ 32767 := by omega
          skip
          rw [← hz] at HSTEP
          have HDN := Lib.hid (dg_set HD2.out (i + k) b1 b2)
          obtain ⟨r, hre⟩ : ∃ r, r = z % 32768 := ⟨_, rfl⟩
          obtain ⟨q, hqe⟩ : ∃ q, q = z / 32768 := ⟨_, rfl⟩
          rw [← hre] at HSTEP HDN b1 b2 hq
          rw [← hqe] at HSTEP b3 b4 hd
          have HON := Lib.hid (own_set HP.out (i + k) r)
          have HBN := Lib.hid (HBI.out.setCell (p := ⟨gg, i + k, none⟩) hgw (.int .i64 r))
          clear hre hqe hz z0 z1 HV2 hbw
          have hk0 : (0 : Int) ≤ (k : Int) := by omega
          have hi0 : (0 : Int) ≤ (i : Int) := by omega
          have hi1 : (i : Int) < (l.length : Int) := by omega
          have hij : (i : Int) + (k : Int) < (l.length : Int) + (m.length : Int) := by omega
          have hij0 : (0 : Int) ≤ (i : Int) + (k : Int) := by omega
          have hc2 : (k : Int) < (m.length : Int) := by omega
          go_wp2_with fail
          go_quiet (fail)
          go_wp2_with fail
          case roundEnd =>
            refine ⟨⟨k + 1, q, P.set (i + k) r, by first | rfl | (push_cast; rfl), by first | rfl | rw [hq0], by omega, b3, b4, ?_, ?_, by rw [List.length_set]; exact HPL.out, HDN.out, HSTEP.out, fun j h1 h2 => z_set (HZ2.out j h1 (by omega)) (by omega), by omega⟩, by simp only [intOf]; omega⟩
            · repeat (first | with_reducible exact HBN.out | with_reducible exact HBI.out | with_reducible refine Below.setCell ?_ hgw _ | with_reducible refine Below.drew ?_ | with_reducible refine belowQ ?_ _)
            · exact HON.out
        · by_cases hcc : 0 < cc
          · have hkm : k ≤ m.length := by
              rcases Nat.lt_or_ge m.length k with h | h
              · have := hcz h; omega
              · omega
            clear hown hpl hdg hvl hze hcz
            skip
            have hj : i + k < P.length := by have := HPL.out; omega
            have hcellO := own_cell HP.out hj HPL.out
            have hfr := HP.out.frozenAt (i + k)
            have dO := HD2.out _ (List.getElem_mem hj)
            have hoo : P[i + k] = 0 := z_get (HZ2.out (i + k) (by omega) (Nat.le_refl _)) hj
            obtain ⟨oo, hoe⟩ : ∃ oo, oo = P[i + k] := ⟨_, rfl⟩
            have HSTEP := Lib.hid (mulN_step (c := cc) (p := 0) (T := vl (l.take i) * vl m + x * vl (m.take (k + 1)) * pw i) hj hoe.symm HV2.out (by rw [List.take_of_length_le (show m.length ≤ k + 1 by omega), List.take_of_length_le (show m.length ≤ k by omega)]; omega))
            rw [hoe, hoo, Int.add_zero, Int.add_zero] at HSTEP
            rw [hoo] at hcellO dO
            clear hoe
            clear hoo
            have hs0 : IntKind.i64.wrap ((i : Int) + (k : Int)) = (i : Int) + (k : Int) := wrap64' _ (by omega) (by omega)
            have hs1 : IntKind.i64.wrap cc = cc := wrap64' _ (by omega) (by omega)
            have hkw : IntKind.i64.wrap ((k : Int) + 1) = (k : Int) + 1 := wrap64' _ (by omega) (by omega)
            obtain ⟨z, hz⟩ : ∃ z, z = cc := ⟨_, rfl⟩
            have z0 : 0 ≤ z := by omega
            have z1 : z ≤ 1073741823 := by omega
            have hq : (cc).tmod 32768 = z % 32768 := by rw [← hz]; exact Int.tmod_eq_emod_of_nonneg z0
            have hd : (cc).tdiv 32768 = z / 32768 := by rw [← hz]; exact Int.tdiv_eq_ediv_of_nonneg z0
            have b1 : 0 ≤ z % 32768 := Int.emod_nonneg _ (by decide)
            have b2 : z % 32768 < 32768 := Int.emod_lt_of_pos _ (by decide)
            have b3 : 0 ≤ z / 32768 := Int.ediv_nonneg z0 (by decide)
            have b4 : z / 32768 ≤ 32767 := by omega
            have hq0 : z / 32768 = 0 := by omega
            rw [← hz] at HSTEP
            have HDN := Lib.hid (dg_set HD2.out (i + k) b1 b2)
            obtain ⟨r, hre⟩ : ∃ r, r = z % 32768 := ⟨_, rfl⟩
            obtain ⟨q, hqe⟩ : ∃ q, q = z / 32768 := ⟨_, rfl⟩
            rw [← hre] at HSTEP HDN b1 b2 hq
            rw [← hqe] at HSTEP b3 b4 hd hq0
            have HON := Lib.hid (own_set HP.out (i + k) r)
            have HBN := Lib.hid (HBI.out.setCell (p := ⟨gg, i + k, none⟩) hgw (.int .i64 r))
            clear hre hqe hz z0 z1 HV2 hbw
            have hk0 : (0 : Int) ≤ (k : Int) := by omega
            have hi0 : (0 : Int) ≤ (i : Int) := by omega
            have hi1 : (i : Int) < (l.length : Int) := by omega
            have hij : (i : Int) + (k : Int) < (l.length : Int) + (m.length : Int) := by omega
            have hij0 : (0 : Int) ≤ (i : Int) + (k : Int) := by omega
            have hc2 : ¬ (k : Int) < (m.length : Int) := by omega
            go_wp2_with fail
            case roundEnd =>
              refine ⟨⟨k + 1, q, P.set (i + k) r, by first | rfl | (push_cast; rfl), by first | rfl | rw [hq0], by omega, b3, b4, ?_, ?_, by rw [List.length_set]; exact HPL.out, HDN.out, HSTEP.out, fun j h1 h2 => z_set (HZ2.out j h1 (by omega)) (by omega), by omega⟩, by simp only [intOf]; omega⟩
              · repeat (first | with_reducible exact HBN.out | with_reducible exact HBI.out | with_reducible refine Below.setCell ?_ hgw _ | with_reducible refine Below.drew ?_ | with_reducible refine belowQ ?_ _)
              · exact HON.out
          · have hc0 : cc = 0 := by omega
            have HN := Lib.hid (show vl P = vl (l.take (i + 1)) * vl m by
              have h := HV2.out
              rw [hc0, Int.zero_mul, Int.add_zero, List.take_of_length_le (show m.length ≤ k by omega)] at h
              rw [h, HX.out, Int.add_mul, Int.mul_assoc x (pw i), Int.mul_comm (pw i), ← Int.mul_assoc])
            have HZN := Lib.hid (show ∀ j, i + 1 + m.length ≤ j → P[j]?.getD 0 = 0 from fun j h => HZ2.out j (by omega) (by omega))
            clear hown hpl hdg hvl hze hcz hbw
            have hc2 : ¬ (k : Int) < (m.length : Int) := by omega
            have hc3 : ¬ (0 : Int) < cc := by omega
            clear hc0
            go_wp2_with fail
            case roundEnd => exact ⟨⟨i + 1, P, by first | rfl | (push_cast; rfl), by omega, HBI.out, HP.out, HPL.out, HD2.out, HN.out, HZN.out⟩, by simp only [intOf]; omega⟩
    · have hi1 : i = l.length := by omega
      have hc1 : ¬ (i : Int) < (l.length : Int) := by omega
      have HS := Lib.hid (show vl O = vl l * vl m by
        have := HV.out
        rw [List.take_of_length_le (show l.length ≤ i by omega)] at this
        exact this)
      have HCU := Lib.hid (cut_nat (some ⟨gg, 0, none⟩) (l.length + m.length) O wo (Reads.own HO.out).1 HD.out (by have := HOL.out; omega) (by have := HOL.out; omega) (fun h => by cases h))
      rw [HOL.out] at HCU
      clear hbo hi1
      go_wp2_with fail
      refine HCU.out.mono ?_
      rintro e w2 ⟨r, rfl, hr, hb2⟩
      have HR := Lib.hid hr
      have HB2 := Lib.hid (HB.out.trans (hb2.mono HB.out.size))
      clear hr hb2
      rw [HS.out] at HR
      go_wp2_with fail
      go_ret
      exact ⟨_, rfl, HR.out, HB2.out⟩

end Go.Proofs.YticiabgnegbbmaaGreatDoor

namespace Go.Proofs.YticiabgnegbbmaaGreatDoor
open Go.RowKit
set_option linter.unusedVariables false

theorem w64_in (a : Int) (h1 : -9223372036854775808 ≤ a) (h2 : a ≤ 9223372036854775807) : wrap64 a = a := by
  unfold wrap64
  omega

set_option maxRecDepth 100000 in
set_option maxHeartbeats 1600000 in
theorem two_nat (n : Nat) (w : World) (hn : n ≤ 10000) :
    Calls Tryz.prog 67 #[.int .i64 n] w fun e w' => ∃ r, e = .returned r ∧ NatIs w' r (2 ^ n) ∧ Below w.heap.size w w' := by
  obtain ⟨i0, hi0, hz0, hz1, hz2⟩ := int_parts
  obtain ⟨k, hk⟩ : ∃ k, k = n / 15 := ⟨_, rfl⟩
  obtain ⟨p, hp⟩ : ∃ p, p = n % 15 := ⟨_, rfl⟩
  have hk1 : k ≤ 1000 := by omega
  have hp1 : p < 15 := by omega
  have hq : (n : Int).tdiv 15 = (k : Int) := by rw [Int.tdiv_eq_ediv_of_nonneg (by omega)]; omega
  have hr : (n : Int).tmod 15 = (p : Int) := by rw [Int.tmod_eq_emod_of_nonneg (by omega)]; omega
  have HE := Lib.hid (show (2 : Int) ^ n = 2 ^ p * pw k by rw [hk, hp]; exact pw_two n)
  have hpp : (1 : Int) ≤ 2 ^ p ∧ (2 : Int) ^ p ≤ 16384 := by
    have : ∀ q : Fin 15, (1 : Int) ≤ 2 ^ q.val ∧ (2 : Int) ^ q.val ≤ 16384 := by decide
    exact this ⟨p, hp1⟩
  clear hk hp
  obtain ⟨W0, hmk, hownM, hgM⟩ := run_makeSlice_full w w.heap.size 66 3 i0 (.int .i64 0) 1 Tryz.underlying66 hi0 hz0 hz1 .i64 .i64 (k + 1) (by omega) (by rw [hz2]; omega) (by unfold maxLen; omega) (Nat.le_refl _)
  rw [Int.natCast_add, Int.natCast_one] at hmk
  rw [made_ints] at hownM
  have HOM := Lib.hid hownM
  have HBM := Lib.hid (show Below w.heap.size w W0 from (Below.refl _ _).grown hgM (Nat.le_refl _) (fun j h => by cases h))
  have hgg := own_block hownM
  have hcellO := own_cell hownM (j := k) (by simp) (by simp)
  simp only [List.getElem_replicate] at hcellO
  have hfr := hownM.frozenAt k
  clear hi0 hz0 hz1 hz2 hownM hgM
  have hs0 : IntKind.i64.wrap ((k : Int) + 1) = (k : Int) + 1 := wrap64' _ (by omega) (by omega)
  obtain ⟨gg, hgge⟩ : ∃ gg, gg = w.heap.size := ⟨_, rfl⟩
  rw [← hgge] at hmk HOM hcellO hfr hgg
  have hgw : w.heap.size ≤ gg := Nat.le_of_eq hgge.symm
  clear hgge
  obtain ⟨T2, hT⟩ : ∃ T2 : Int, T2 = 2 ^ p := ⟨_, rfl⟩
  rw [← hT] at HE hpp
  have hw2 : wrap64 (2 ^ p) = T2 := by rw [← hT]; exact w64_in T2 (Int.le_trans (by decide) hpp.1) (Int.le_trans hpp.2 (by decide))
  have HW2 := Lib.hid hw2
  clear hT hw2
  obtain ⟨t1, t2⟩ := hpp
  have HON := Lib.hid (own_set HOM.out k T2)
  have HBN := Lib.hid (HBM.out.setCell (p := ⟨gg, k, none⟩) hgw (.int .i64 T2))
  have HV := Lib.hid (show Ct ((List.replicate (k + 1) 0).set k T2) ∧ vl ((List.replicate (k + 1) 0).set k T2) = 2 ^ n by
    have hd := dg_set (dg_rep (k + 1)) k (d := T2) (by omega) (by omega)
    have hv : vl ((List.replicate (k + 1) 0).set k T2) = T2 * pw k := by
      rw [vl_set (by simp), vl_rep]; simp
    refine ⟨ct_top hd k (by simp) ?_, by rw [hv, HE.out]⟩
    rw [hv]
    have := Int.mul_le_mul_of_nonneg_right t1 (Int.le_of_lt (pw_pos k))
    rwa [Int.one_mul] at this)
  have HR := Lib.hid (nat_own (l := (List.replicate (k + 1) 0).set k T2) (w := W0.setCell ⟨gg, k, none⟩ (.int .i64 T2)) (B := gg) (e := 3) (v := .slice (some ⟨gg, 0, none⟩) (k + 1) (k + 1)) (by rw [List.length_set, List.length_replicate]; exact HON.out) HV.out.1 HV.out.2)
  clear HV HON HOM HBM HE
  have hw2 := HW2.out
  have hk0 : (0 : Int) ≤ (k : Int) := by omega
  have hk2 : (k : Int) < (k : Int) + 1 := by omega
  have hp0 : (0 : Int) ≤ (p : Int) := by omega
  have hp2 : (p : Int) < 15 := by omega
  have hn0 : (0 : Int) ≤ (n : Int) := by omega
  go_enter Tryz.func67, Tryz.ntmps67
  go_wp2_with fail
  go_ret
  exact ⟨_, rfl, HR.out, HBN.out⟩

end Go.Proofs.YticiabgnegbbmaaGreatDoor

namespace Go.Proofs.YticiabgnegbbmaaGreatDoor
open Go.RowKit
set_option linter.unusedVariables false

set_option maxRecDepth 100000 in
set_option maxHeartbeats 1600000 in
theorem rat_z (w : World) :
    Calls Tryz.prog 70 #[.int .i64 0] w fun r w' => r = .returned (realV 0 0) ∧ Below w.heap.size w w' := by
  go_enter Tryz.func70, Tryz.ntmps70
  go_wp2_with fail
  refine bodyPost_ret (v := realV 0 0) (by simp [results, Tryz.results70, go_sem]) rfl ⟨rfl, by repeat (first | with_reducible exact HBB.out | with_reducible exact Below.refl _ _ | with_reducible refine Below.drew ?_ | with_reducible refine belowQ ?_ _ | with_reducible refine Below.setCell ?_ (by first | omega | (simp; done) | (simp; omega)) _ | with_reducible refine Below.alloc ?_ (by first | omega | (simp; done) | (simp; omega)) _)⟩

set_option maxRecDepth 100000 in
set_option maxHeartbeats 1600000 in
theorem rat_p0 (i : Int) (w : World) (h1 : 0 < i) (h2 : i < 16777216) :
    Calls Tryz.prog 70 #[.int .i64 i] w fun r w' => r = .returned (realV i (-150)) ∧ Below w.heap.size w w' := by
  have g0 : (i == 0) = false := beq_eq_false_iff_ne.2 (by omega)
  have g1 : ¬ i < 0 := by omega
  go_enter Tryz.func70, Tryz.ntmps70
  go_wp2_with fail
  refine bodyPost_ret (v := realV i (-150)) (by simp [results, Tryz.results70, go_sem]) rfl ⟨rfl, by repeat (first | with_reducible exact HBB.out | with_reducible exact Below.refl _ _ | with_reducible refine Below.drew ?_ | with_reducible refine belowQ ?_ _ | with_reducible refine Below.setCell ?_ (by first | omega | (simp; done) | (simp; omega)) _ | with_reducible refine Below.alloc ?_ (by first | omega | (simp; done) | (simp; omega)) _)⟩

set_option maxRecDepth 100000 in
set_option maxHeartbeats 1600000 in
theorem rat_p1 (i : Int) (w : World) (h1 : 16777216 ≤ i) (h2 : i ≤ 2533359616) :
    Calls Tryz.prog 70 #[.int .i64 i] w fun r w' => r = .returned (realV (i - (i / 8388608 - 1) * 8388608) (i / 8388608 - 1 - 150)) ∧ Below w.heap.size w w' := by
  have g1 : ¬ i < 0 := by omega
  have g2 : ¬ i < 16777216 := by omega
  have q1 : 2 ≤ i / 8388608 := by omega
  have q2 : i / 8388608 ≤ 302 := by omega
  go_enter Tryz.func70, Tryz.ntmps70
  go_wp2_with fail
  refine bodyPost_ret (v := realV (i - (i / 8388608 - 1) * 8388608) (i / 8388608 - 1 - 150)) (by simp [results, Tryz.results70, go_sem]) rfl ⟨rfl, by repeat (first | with_reducible exact HBB.out | with_reducible exact Below.refl _ _ | with_reducible refine Below.drew ?_ | with_reducible refine belowQ ?_ _ | with_reducible refine Below.setCell ?_ (by first | omega | (simp; done) | (simp; omega)) _ | with_reducible refine Below.alloc ?_ (by first | omega | (simp; done) | (simp; omega)) _)⟩

theorem rat_nn (i : Int) (w : World) (h1 : 0 ≤ i) (h2 : i ≤ 2533359616) : Calls Tryz.prog 70 #[.int .i64 i] w fun r w' => r = .returned (realV (aM i) (aE i)) ∧ Below w.heap.size w w' := by
  rcases (show i = 0 ∨ (0 < i ∧ i < 16777216) ∨ 16777216 ≤ i by omega) with rfl | ⟨g1, g2⟩ | g
  · exact rat_z w
  · have e : aM i = i ∧ aE i = -150 := by
      unfold aM aE sx ab
      constructor <;> (repeat' split) <;> omega
    rw [e.1, e.2]
    exact rat_p0 i w g1 g2
  · have e : aM i = i - (i / 8388608 - 1) * 8388608 ∧ aE i = i / 8388608 - 1 - 150 := by
      unfold aM aE sx ab
      constructor <;> (repeat' split) <;> omega
    rw [e.1, e.2]
    exact rat_p1 i w g h2

set_option maxRecDepth 100000 in
set_option maxHeartbeats 1600000 in
theorem rat_n (i a b : Int) (w : World) (h1 : 0 < i) (h2 : i ≤ 2533359616) (a1 : -16777216 ≤ a) (a2 : a ≤ 16777216) (HA : Hid (∀ W, Calls Tryz.prog 70 #[.int .i64 i] W fun r w' => r = .returned (realV a b) ∧ Below W.heap.size W w')) :
    Calls Tryz.prog 70 #[.int .i64 (-i)] w fun r w' => r = .returned (realV (-a) b) ∧ Below w.heap.size w w' := by
  have g1 : -i < 0 := by omega
  go_enter Tryz.func70, Tryz.ntmps70
  go_wp2_with fail
  refine (HA.out _).mono ?_
  rintro r w1 ⟨rfl, hb1⟩
  have r0 : w1.cell? ⟨w.heap.size, 0, none⟩ = some (.int .i64 0) := carry hb1 (by go_simp)
  have r1 : w1.cell? ⟨w.heap.size, 1, none⟩ = some (.int .i64 0) := carry hb1 (by go_simp)
  have f0 : w1.frozen? ⟨w.heap.size, 0, none⟩ = false := carryF hb1 (v := .int .i64 0) (by go_simp) (by go_simp)
  have f1 : w1.frozen? ⟨w.heap.size, 1, none⟩ = false := carryF hb1 (v := .int .i64 0) (by go_simp) (by go_simp)
  have z1 : w.heap.size < w1.heap.size := by have := hb1.size; simp at this; omega
  have HBB := Lib.hid (((Below.refl w.heap.size w).alloc (Nat.le_refl _) (.cells #[.int .i64 0, .int .i64 0] 23)).trans (hb1.mono (by simp)))
  clear hb1
  go_wp2_with fail
  refine bodyPost_ret (v := realV (-a) b) (by simp [results, Tryz.results70, go_sem, r0, r1, z1]) rfl ⟨rfl, by repeat (first | with_reducible exact HBB.out | with_reducible exact Below.refl _ _ | with_reducible refine Below.drew ?_ | with_reducible refine belowQ ?_ _ | with_reducible refine Below.setCell ?_ (by first | omega | (simp; done) | (simp; omega)) _ | with_reducible refine Below.alloc ?_ (by first | omega | (simp; done) | (simp; omega)) _)⟩

theorem rat_any (i : Int) (w : World) (h1 : -2533359616 ≤ i) (h2 : i ≤ 2533359616) : Calls Tryz.prog 70 #[.int .i64 i] w fun r w' => r = .returned (realV (aM i) (aE i)) ∧ Below w.heap.size w w' := by
  by_cases h : 0 ≤ i
  · exact rat_nn i w h h2
  · have e : aM i = -aM (-i) ∧ aE i = aE (-i) := by
      unfold aM aE sx ab
      constructor <;> (repeat' split) <;> omega
    have hb : -16777216 ≤ aM (-i) ∧ aM (-i) ≤ 16777216 := by
      unfold aM sx ab
      (repeat' split) <;> omega
    have := rat_n (-i) (aM (-i)) (aE (-i)) w (by omega) (by omega) hb.1 hb.2 (Lib.hid fun W => rat_nn (-i) W (by omega) (by omega))
    rw [Int.neg_neg] at this
    rw [e.1, e.2]
    exact this

/-- the middle between an index and the next one, in units of 2^-151 -/
def Hf (i : Int) : Int := (2 * aM i + 1) * 2 ^ (sx i).toNat

theorem pw_big {n : Nat} (hn : n ≤ 10000) : (2 : Int) ^ n < pw 700 := by
  have h := pw_two n
  have h1 : (2 : Int) ^ (n % 15) < 32768 := by
    have : ∀ q : Fin 15, (2 : Int) ^ q.val < 32768 := by decide
    exact this ⟨n % 15, Nat.mod_lt _ (by decide)⟩
  have h2 : pw (n / 15 + 1) ≤ pw 700 := pw_le (by omega)
  rw [pw_succ] at h2
  rw [h]
  have h3 := Int.mul_lt_mul_of_pos_right h1 (pw_pos (n / 15))
  have e : pw (n / 15) * 32768 = 32768 * pw (n / 15) := Int.mul_comm _ _
  omega
theorem two_zero (w : World) : Calls Tryz.prog 67 #[.int .i64 0] w fun e w' => ∃ r, e = .returned r ∧ NatIs w' r (2 ^ 0) ∧ Below w.heap.size w w' := two_nat 0 w (by decide)
theorem pw_1000 {a : Int} (h : a < pw 700) : a < pw 1000 := by
  have := pw_le (show 700 ≤ 1000 by omega)
  omega
theorem pw_small {a : Int} (h : a ≤ 9223372036854775807) : a < pw 5 := by
  have : pw 5 = 37778931862957161709568 := by simp [pw]
  omega
theorem pw_5 {a : Int} (h : a < pw 5) : a < pw 1000 := by
  have := pw_le (show 5 ≤ 1000 by omega)
  omega

set_option maxRecDepth 100000 in
set_option maxHeartbeats 1600000 in
theorem half_z (m e : Int) (w : World) (m1 : 0 ≤ m) (m2 : m ≤ 16777216) (e1 : -1000 ≤ e) (e2 : e ≤ 1000) (HA : Hid (∀ W, Calls Tryz.prog 70 #[.int .i64 0] W fun r w' => r = .returned (realV m e) ∧ Below W.heap.size W w')) :
    Calls Tryz.prog 68 #[.int .i64 0] w fun e w' => ∃ r, e = .returned r ∧ NatIs w' r ((2 * m + 1) * 2 ^ 0) ∧ Below w.heap.size w w' := by
  have hw1 : IntKind.i64.wrap (2 * m) = 2 * m := wrap64' _ (by omega) (by omega)
  have hw2 : IntKind.i64.wrap (2 * m + 1) = 2 * m + 1 := wrap64' _ (by omega) (by omega)
  skip
  skip
  have HP2 := Lib.hid (pw_1000 (pw_big (n := 0) (by decide)))
  have HP1 := Lib.hid (pw_5 (pw_small (show 2 * m + 1 ≤ 9223372036854775807 by omega)))
  skip
  go_enter Tryz.func68, Tryz.ntmps68
  go_wp2_with fail
  refine (HA.out _).mono ?_
  rintro r w1 ⟨rfl, hb1⟩
  have HB1 := Lib.hid hb1
  have hz1 := hb1.size
  clear hb1
  go_wp2_with fail
  refine (small_any (2 * m + 1) _ (by omega) (by omega)).mono ?_
  rintro e w2 ⟨r2, rfl, hr2, hb2⟩
  have HR2 := Lib.hid hr2
  have HB2 := Lib.hid ((by repeat (first | with_reducible exact HB1.out | with_reducible refine Below.setCell ?_ (by first | omega | (simp; done) | (simp; omega)) _ | with_reducible refine Below.alloc ?_ (by first | omega | (simp; done) | (simp; omega)) _) : Below w.heap.size w _).trans (hb2.mono (by first | omega | (simp; omega))))
  clear hr2 hb2
  go_wp2_with fail
  refine (two_zero _).mono ?_
  rintro e w3 ⟨r3, rfl, hr3, hb3⟩
  have HR2b := Lib.hid (HR2.out.below hb3)
  have HR3 := Lib.hid hr3
  have HB3 := Lib.hid (HB2.out.trans (hb3.mono HB2.out.size))
  clear hr3 hb3
  go_wp2_with fail
  refine (mul_nat r2 r3 _ _ _ HR2b.out HR3.out HP1.out HP2.out).mono ?_
  rintro e w4 ⟨r4, rfl, hr4, hb4⟩
  have HR4 := Lib.hid hr4
  have HB4 := Lib.hid (HB3.out.trans (hb4.mono HB3.out.size))
  clear hr4 hb4
  go_wp2_with fail
  go_ret
  exact ⟨_, rfl, HR4.out, HB4.out⟩

set_option maxRecDepth 100000 in
set_option maxHeartbeats 1600000 in
theorem half_p (m e : Int) (n : Nat) (i : Int) (w : World) (h1 : 0 < i) (h2 : i ≤ 2533359616) (m1 : 0 ≤ m) (m2 : m ≤ 16777216) (e1 : -1000 ≤ e) (e2 : e ≤ 1000) (hn : n ≤ 10000) (hne : e + 150 = (n : Int)) (HA : Hid (∀ W, Calls Tryz.prog 70 #[.int .i64 i] W fun r w' => r = .returned (realV m e) ∧ Below W.heap.size W w')) :
    Calls Tryz.prog 68 #[.int .i64 i] w fun e w' => ∃ r, e = .returned r ∧ NatIs w' r ((2 * m + 1) * 2 ^ n) ∧ Below w.heap.size w w' := by
  have hw1 : IntKind.i64.wrap (2 * m) = 2 * m := wrap64' _ (by omega) (by omega)
  have hw2 : IntKind.i64.wrap (2 * m + 1) = 2 * m + 1 := wrap64' _ (by omega) (by omega)
  have hw3 : IntKind.i64.wrap (e + 150) = (n : Int) := by rw [wrap64' _ (by omega) (by omega)]; omega
  have g0 : (i == 0) = false := beq_eq_false_iff_ne.2 (by omega)
  have HP2 := Lib.hid (pw_1000 (pw_big (n := n) hn))
  have HP1 := Lib.hid (pw_5 (pw_small (show 2 * m + 1 ≤ 9223372036854775807 by omega)))
  clear hne
  go_enter Tryz.func68, Tryz.ntmps68
  go_wp2_with fail
  refine (HA.out _).mono ?_
  rintro r w1 ⟨rfl, hb1⟩
  have HB1 := Lib.hid hb1
  have hz1 := hb1.size
  clear hb1
  go_wp2_with fail
  refine (small_any (2 * m + 1) _ (by omega) (by omega)).mono ?_
  rintro e w2 ⟨r2, rfl, hr2, hb2⟩
  have HR2 := Lib.hid hr2
  have HB2 := Lib.hid ((by repeat (first | with_reducible exact HB1.out | with_reducible refine Below.setCell ?_ (by first | omega | (simp; done) | (simp; omega)) _ | with_reducible refine Below.alloc ?_ (by first | omega | (simp; done) | (simp; omega)) _) : Below w.heap.size w _).trans (hb2.mono (by first | omega | (simp; omega))))
  clear hr2 hb2
  go_wp2_with fail
  refine (two_nat n _ hn).mono ?_
  rintro e w3 ⟨r3, rfl, hr3, hb3⟩
  have HR2b := Lib.hid (HR2.out.below hb3)
  have HR3 := Lib.hid hr3
  have HB3 := Lib.hid (HB2.out.trans (hb3.mono HB2.out.size))
  clear hr3 hb3
  go_wp2_with fail
  refine (mul_nat r2 r3 _ _ _ HR2b.out HR3.out HP1.out HP2.out).mono ?_
  rintro e w4 ⟨r4, rfl, hr4, hb4⟩
  have HR4 := Lib.hid hr4
  have HB4 := Lib.hid (HB3.out.trans (hb4.mono HB3.out.size))
  clear hr4 hb4
  go_wp2_with fail
  go_ret
  exact ⟨_, rfl, HR4.out, HB4.out⟩

theorem half_any (i : Int) (w : World) (h1 : 0 ≤ i) (h2 : i ≤ 2533359616) : Calls Tryz.prog 68 #[.int .i64 i] w fun e w' => ∃ r, e = .returned r ∧ NatIs w' r (Hf i) ∧ Below w.heap.size w w' := by
  have hm : 0 ≤ aM i ∧ aM i ≤ 16777216 := by unfold aM sx ab; (repeat' split) <;> omega
  have he : -1000 ≤ aE i ∧ aE i ≤ 1000 ∧ 0 ≤ sx i ∧ sx i ≤ 400 := by
    unfold aE sx ab
    refine ⟨?_, ?_, ?_, ?_⟩ <;> (repeat' split) <;> omega
  unfold Hf
  rcases Int.lt_or_eq_of_le h1 with h | rfl
  · have e : aE i + 150 = ((sx i).toNat : Int) := by
      have : aE i = sx i - 150 := by unfold aE; rw [if_neg (by omega)]
      omega
    exact half_p (aM i) (aE i) (sx i).toNat i w h h2 hm.1 hm.2 he.1 he.2.1 (by omega) e (Lib.hid fun W => rat_any i W (by omega) h2)
  · exact half_z (aM 0) (aE 0) w hm.1 hm.2 he.1 he.2.1 (Lib.hid fun W => rat_any 0 W (by decide) (by decide))

end Go.Proofs.YticiabgnegbbmaaGreatDoor

namespace Go.Proofs.YticiabgnegbbmaaGreatDoor
open Go.RowKit
set_option linter.unusedVariables false

theorem two_151 (w : World) : Calls Tryz.prog 67 #[.int .i64 151] w fun e w' => ∃ r, e = .returned r ∧ NatIs w' r (2 ^ 151) ∧ Below w.heap.size w w' := two_nat 151 w (by decide)
theorem two_150 (w : World) : Calls Tryz.prog 67 #[.int .i64 150] w fun e w' => ∃ r, e = .returned r ∧ NatIs w' r (2 ^ 150) ∧ Below w.heap.size w w' := two_nat 150 w (by decide)

/-- what is the index of a rounded value: the least one whose upper middle is not below the number; on the middle the even one -/
structure Lo (num den lo : Int) : Prop where
  nn : 0 ≤ lo
  le : lo ≤ 2533359616
  low : lo = 0 ∨ Hf (lo - 1) * den < num * 2 ^ 151
  high : lo = 2533359616 ∨ num * 2 ^ 151 ≤ Hf lo * den
/-- the even one -/
def ev (num den lo : Int) : Int := if lo ≤ 2533359615 ∧ Hf lo * den = num * 2 ^ 151 ∧ aM lo % 2 ≠ 0 then lo + 1 else lo
def RndP (num den : Int) (mi : Bool) (m e : Int) (ok : Bool) : Prop := ∃ lo, Lo num den lo ∧ (if 2533359615 < ev num den lo then m = 0 ∧ e = 0 ∧ ok = false else ok = true ∧ m = aM (if mi then - ev num den lo else ev num den lo) ∧ e = aE (if mi then - ev num den lo else ev num den lo))

theorem hf_bd {i : Int} (h1 : 0 ≤ i) (h2 : i ≤ 2533359616) : 0 ≤ Hf i ∧ Hf i < pw 40 := by
  have hm : 0 ≤ aM i ∧ aM i ≤ 16777216 := by unfold aM sx ab; (repeat' split) <;> omega
  have hs : (sx i).toNat ≤ 400 := by unfold sx ab; (repeat' split) <;> omega
  unfold Hf
  have hp : (0 : Int) < 2 ^ (sx i).toNat := Int.pow_pos (by decide)
  have h3 := pw_two (sx i).toNat
  have h4 : (2 : Int) ^ ((sx i).toNat % 15) < 32768 := by
    have : ∀ q : Fin 15, (2 : Int) ^ q.val < 32768 := by decide
    exact this ⟨(sx i).toNat % 15, Nat.mod_lt _ (by decide)⟩
  have h5 := pw_le (show (sx i).toNat / 15 + 1 ≤ 30 by omega)
  rw [pw_succ] at h5
  have h6 := Int.mul_lt_mul_of_pos_right h4 (pw_pos ((sx i).toNat / 15))
  rw [← h3] at h6
  have h7 : (2 : Int) ^ (sx i).toNat < pw 30 := by
    have e : pw ((sx i).toNat / 15) * 32768 = 32768 * pw ((sx i).toNat / 15) := Int.mul_comm _ _
    omega
  generalize (2 : Int) ^ (sx i).toNat = P at *
  refine ⟨Int.mul_nonneg (by omega) (Int.le_of_lt hp), ?_⟩
  have h8 := Int.mul_le_mul_of_nonneg_right (show 2 * aM i + 1 ≤ 35184372088832 by omega) (Int.le_of_lt hp)
  have h9 : pw 40 = pw 30 * pw 10 := pw_add 30 10
  have h10 : 35184372088832 ≤ pw 10 := by
    have : pw 3 ≤ pw 10 := pw_le (by decide)
    have e3 : pw 3 = 35184372088832 := by simp [pw]
    omega
  have h11 := Int.mul_lt_mul_of_pos_left h7 (show (0 : Int) < 35184372088832 by decide)
  have h12 := Int.mul_le_mul_of_nonneg_right h10 (Int.le_of_lt (pw_pos 30))
  rw [h9, Int.mul_comm (pw 30)]
  omega

theorem pw_mul {a b : Int} {j k n : Nat} (h0 : 0 ≤ a) (h0' : 0 ≤ b) (h1 : a < pw j) (h2 : b < pw k) (h : j + k ≤ n) : a * b < pw n := by
  have h3 := Int.mul_le_mul (Int.le_of_lt h1) (Int.le_of_lt h2) h0' (Int.le_of_lt (pw_pos j))
  have h4 : a * b < pw j * pw k := by
    rcases Int.lt_or_eq_of_le h0' with hb | hb
    · have a1 := Int.mul_lt_mul_of_pos_right h1 hb
      have a2 := Int.mul_le_mul_of_nonneg_left (Int.le_of_lt h2) (Int.le_of_lt (pw_pos j))
      omega
    · rw [← hb, Int.mul_zero]
      exact Int.mul_pos (pw_pos j) (pw_pos k)
  rw [← pw_add] at h4
  have := pw_le h
  omega

set_option maxRecDepth 100000 in
set_option maxHeartbeats 4000000 in
theorem round_any (mi : Bool) (vn vd : Value) (num den : Int) (w : World) (hn : NatIs w vn num) (hd : NatIs w vd den) (bn : num < pw 300) (bd : den < pw 300) (cn : vn.oneCell' = true) (cd : vd.oneCell' = true) :
    Calls Tryz.prog 44 #[.agg #[.bool mi, vn, vd]] w fun r w' => ∃ m e ok, r = .returned (.agg #[.int .i64 m, .int .i64 e, .bool ok]) ∧ RndP num den mi m e ok ∧ Below w.heap.size w w' := by
  have HNN := Lib.hid (show ∀ W, Below w.heap.size w W → NatIs W vn num from fun W hW => hn.below hW)
  have HND := Lib.hid (show ∀ W, Below w.heap.size w W → NatIs W vd den from fun W hW => hd.below hW)
  have BN := Lib.hid (pw_1000 (show num < pw 700 by have := pw_le (show 300 ≤ 700 by decide); omega))
  have BD := Lib.hid (pw_1000 (show den < pw 700 by have := pw_le (show 300 ≤ 700 by decide); omega))
  have BT := Lib.hid (pw_1000 (pw_big (n := 151) (by decide)))
  have HNUM := Lib.hid hn.nn
  have HDEN := Lib.hid hd.nn
  clear hn hd
  go_enter Tryz.func44, Tryz.ntmps44
  go_wp2_with fail
  obtain ⟨wb, hW⟩ : ∃ wb, wb = (w.alloc (.cells #[.bool mi, vn, vd] 69)).alloc (.cells #[.int .i64 0, .int .i64 0, .bool false] 48) := ⟨_, rfl⟩
  rw [← hW]
  have hBB := Lib.hid (show Below w.heap.size w wb by rw [hW]; repeat (first | exact Below.refl _ _ | refine Below.alloc ?_ (by simp <;> omega) _))
  have b0 : wb.cell? ⟨w.heap.size, 0, none⟩ = some (.bool mi) := by rw [hW]; clear hW; go_simp
  have b1 : wb.cell? ⟨w.heap.size, 1, none⟩ = some vn := by rw [hW]; clear hW; go_simp
  have b2 : wb.cell? ⟨w.heap.size, 2, none⟩ = some vd := by rw [hW]; clear hW; go_simp
  have r0 : wb.cell? ⟨w.heap.size + 1, 0, none⟩ = some (.int .i64 0) := by rw [hW]; clear hW; go_simp
  have r1 : wb.cell? ⟨w.heap.size + 1, 1, none⟩ = some (.int .i64 0) := by rw [hW]; clear hW; go_simp
  have r2 : wb.cell? ⟨w.heap.size + 1, 2, none⟩ = some (.bool false) := by rw [hW]; clear hW; go_simp
  have rf0 : wb.frozen? ⟨w.heap.size + 1, 0, none⟩ = false := by rw [hW]; clear hW; go_simp
  have rf1 : wb.frozen? ⟨w.heap.size + 1, 1, none⟩ = false := by rw [hW]; clear hW; go_simp
  have rf2 : wb.frozen? ⟨w.heap.size + 1, 2, none⟩ = false := by rw [hW]; clear hW; go_simp
  have hzb : w.heap.size + 1 < wb.heap.size := by rw [hW]; simp
  clear hW
  have HNB := Lib.hid (show ∀ W, Below wb.heap.size wb W → NatIs W vn num from fun W hW => HNN.out W (hBB.out.trans (hW.mono hBB.out.size)))
  have HDB := Lib.hid (show ∀ W, Below wb.heap.size wb W → NatIs W vd den from fun W hW => HND.out W (hBB.out.trans (hW.mono hBB.out.size)))
  have HB0 := Lib.hid (Below.refl wb.heap.size wb)
  have HSK := Lib.hid (show ∀ wx, Below wb.heap.size wb wx → (wx.cell? ⟨w.heap.size, 0, none⟩ = some (.bool mi) ∧ wx.cell? ⟨w.heap.size, 1, none⟩ = some vn ∧ wx.cell? ⟨w.heap.size, 2, none⟩ = some vd) ∧ w.heap.size + 1 < wx.heap.size from fun wx h => ⟨⟨carry h b0, carry h b1, carry h b2⟩, Nat.lt_of_lt_of_le hzb h.size⟩)
  have HRB := Lib.hid (show ∀ wx, Below wb.heap.size wb wx → (wx.cell? ⟨w.heap.size + 1, 0, none⟩ = some (.int .i64 0) ∧ wx.cell? ⟨w.heap.size + 1, 1, none⟩ = some (.int .i64 0) ∧ wx.cell? ⟨w.heap.size + 1, 2, none⟩ = some (.bool false)) ∧ (wx.frozen? ⟨w.heap.size + 1, 0, none⟩ = false ∧ wx.frozen? ⟨w.heap.size + 1, 1, none⟩ = false ∧ wx.frozen? ⟨w.heap.size + 1, 2, none⟩ = false) from fun wx h => ⟨⟨carry h r0, carry h r1, carry h r2⟩, carryF h (v := .int .i64 0) r0 rf0, carryF h (v := .int .i64 0) r1 rf1, carryF h (v := .bool false) r2 rf2⟩)
  clear r0 r1 r2 rf0 rf1 rf2 HNN HND
  go_region_held3 (fun wx => wx.cell? ⟨w.heap.size, 1, none⟩ = some vn ∧ w.heap.size + 1 < wx.heap.size ∧ Below wb.heap.size wb wx) (first | (go_keep; done) | (refine ⟨?_, ?_, ?_⟩ <;> first | with_reducible assumption | exact (HSK.out _ (by first | with_reducible assumption | with_reducible exact HB0.out | with_reducible exact HB0.out.drew | with_reducible exact Below.drew (by with_reducible assumption))).1.2.1 | exact (HSK.out _ (by first | with_reducible assumption | with_reducible exact HB0.out | with_reducible exact HB0.out.drew | with_reducible exact Below.drew (by with_reducible assumption))).2 | exact (by first | with_reducible assumption | with_reducible exact HB0.out | with_reducible exact HB0.out.drew | with_reducible exact Below.drew (by with_reducible assumption))))
    (first
      | (go_at_call 67; ((with_reducible refine (two_151 _).mono ?_); rintro r wq ⟨vt, rfl, hvt, hbq⟩; have qb : Below wb.heap.size wb wq := Below.trans (by first | with_reducible assumption | with_reducible exact HB0.out | with_reducible exact HB0.out.drew | with_reducible exact Below.drew (by with_reducible assumption)) (hbq.mono (Below.size (by first | with_reducible assumption | with_reducible exact HB0.out | with_reducible exact HB0.out.drew | with_reducible exact Below.drew (by with_reducible assumption))))))
      | (go_at_call 65; ((refine (mul_nat vn vt num (2 ^ 151) _ (HNB.out _ (by first | with_reducible assumption | with_reducible exact HB0.out | with_reducible exact HB0.out.drew | with_reducible exact Below.drew (by with_reducible assumption))) (by with_reducible assumption) BN.out BT.out).mono ?_); rintro r wq ⟨vN, rfl, hvN, hbq⟩; have qb : Below wb.heap.size wb wq := Below.trans (by first | with_reducible assumption | with_reducible exact HB0.out | with_reducible exact HB0.out.drew | with_reducible exact Below.drew (by with_reducible assumption)) (hbq.mono (Below.size (by first | with_reducible assumption | with_reducible exact HB0.out | with_reducible exact HB0.out.drew | with_reducible exact Below.drew (by with_reducible assumption)))))))
  rename _ ∧ _ ∧ Below wb.heap.size wb _ => hS
  have HNQ := Lib.hid (show ∀ W, Below wq.heap.size wq W → NatIs W vN (num * 2 ^ 151) from fun W hW => hvN.below hW)
  have HQB := Lib.hid hS.2.2
  clear hS hvN qb
  go_wp2_with fail
  obtain ⟨wn, rfl⟩ : ∃ wn, wn = wq := ⟨_, rfl⟩
  have hbd : ∀ i : Int, 0 ≤ i → i ≤ 2533359615 → Hf i * den < pw 1000 := fun i h1 h2 => pw_1000 (pw_mul (hf_bd h1 (by omega)).1 HDEN.out (hf_bd h1 (by omega)).2 bd (by decide))
  have HBD := Lib.hid hbd
  have HNL := Lib.hid (show num * 2 ^ 151 < pw 1000 from pw_1000 (pw_mul HNUM.out (by decide) bn (show (2 : Int) ^ 151 < pw 20 by have := pw_two 151; simp only [show 151 % 15 = 1 from rfl, show 151 / 15 = 10 from rfl] at this; rw [this]; have := pw_le (show 11 ≤ 20 by decide); rw [pw_succ] at this; have := pw_pos 10; omega) (by decide)))
  clear hbd
  obtain ⟨NN, hNN⟩ : ∃ NN, NN = num * 2 ^ 151 := ⟨_, rfl⟩
  rw [← hNN] at HNQ HNL
  have HEQ := Lib.hid hNN
  clear hNN hbq
  have HW0 := Lib.hid (Below.refl wn.heap.size wn)
  go_loopw [4, 5] (fun x y wr => ∃ lo hi : Int, x = .int .i64 lo ∧ y = .int .i64 hi ∧ 0 ≤ lo ∧ lo ≤ hi ∧ hi ≤ 2533359616 ∧ (lo = 0 ∨ Hf (lo - 1) * den < NN) ∧ (hi = 2533359616 ∨ NN ≤ Hf hi * den) ∧ Below wn.heap.size wn wr) (fun x y _ => (intOf y - intOf x).toNat)
  case atStart => exact ⟨0, 2533359616, rfl, rfl, Int.le_refl _, by decide, Int.le_refl _, .inl rfl, .inl rfl, Below.refl _ _⟩
  case round =>
    obtain ⟨lo, hi, rfl, rfl, l0, l1, l2, hlo, hhi, hbw⟩ := hrel
    have HLO := Lib.hid hlo
    have HHI := Lib.hid hhi
    have HB2 := Lib.hid hbw
    clear hlo hhi
    by_cases hlt : lo < hi
    · obtain ⟨md, hmd⟩ : ∃ md, md = (lo + hi) / 2 := ⟨_, rfl⟩
      have m1 : lo ≤ md := by omega
      have m2 : md < hi := by omega
      have hw1 : IntKind.i64.wrap (lo + hi) = lo + hi := wrap64' _ (by omega) (by omega)
      have hq : (lo + hi).tdiv 2 = md := by rw [hmd]; exact Int.tdiv_eq_ediv_of_nonneg (by omega)
      have hw2 : IntKind.i64.wrap (md + 1) = md + 1 := wrap64' _ (by omega) (by omega)
      clear hmd
      have HHM := Lib.hid (fun W : World => half_any md W (by omega) (by omega))
      have HBM := Lib.hid (HBD.out md (by omega) (by omega))
      obtain ⟨H, hH⟩ : ∃ H, H = Hf md := ⟨_, rfl⟩
      rw [← hH] at HHM HBM
      have HHB := Lib.hid (show H < pw 1000 from hH ▸ pw_1000 (by have := (hf_bd (i := md) (by omega) (by omega)).2; have := pw_le (show 40 ≤ 700 by decide); omega))
      have HLO2 := Lib.hid (show H * den < NN → (md + 1 = 0 ∨ Hf (md + 1 - 1) * den < NN) from fun h => .inr (by rw [Int.add_sub_cancel, ← hH]; exact h))
      have HHI2 := Lib.hid (show NN ≤ H * den → (md = 2533359616 ∨ NN ≤ Hf md * den) from fun h => .inr (by rw [← hH]; exact h))
      clear hH
      obtain ⟨g, hg⟩ : ∃ g, g = sg (H * den) NN := ⟨_, rfl⟩
      have HG := Lib.hid hg
      clear hg
      have HDD := Lib.hid (show ∀ W, Below wn.heap.size wn W → NatIs W vd den from fun W hW => HDB.out W (HQB.out.trans (hW.mono HQB.out.size)))
      have HSL := Lib.hid (show ∀ wx, Below wn.heap.size wn wx → wx.cell? ⟨w.heap.size, 2, none⟩ = some vd ∧ w.heap.size + 1 < wx.heap.size from fun wx h => by
        have := HSK.out wx (HQB.out.trans (h.mono HQB.out.size))
        exact ⟨this.1.2.2, this.2⟩)
      by_cases hge : NN ≤ H * den
      · have hg0 : 0 ≤ g := by rw [HG.out]; unfold sg; split <;> (try split) <;> omega
        have HH2 := Lib.hid (HHI2.out hge)
        clear hge
        go_wp2_with fail
        go_region_held3 (fun wx => wx.cell? ⟨w.heap.size, 2, none⟩ = some vd ∧ w.heap.size + 1 < wx.heap.size ∧ Below wn.heap.size wn wx) (first | (go_keep; done) | (refine ⟨?_, ?_, ?_⟩ <;> first | with_reducible assumption | exact (HSL.out _ (by first | with_reducible assumption | with_reducible exact HB2.out | with_reducible exact HB2.out.drew | with_reducible exact Below.drew (by with_reducible assumption))).1 | exact (HSL.out _ (by first | with_reducible assumption | with_reducible exact HB2.out | with_reducible exact HB2.out.drew | with_reducible exact Below.drew (by with_reducible assumption))).2 | exact (by first | with_reducible assumption | with_reducible exact HB2.out | with_reducible exact HB2.out.drew | with_reducible exact Below.drew (by with_reducible assumption))))
          (first
            | (go_at_call 68; ((with_reducible refine (HHM.out _).mono ?_); rintro r wq ⟨vh, rfl, hvh, hbq⟩; have qb : Below wn.heap.size wn wq := Below.trans (by first | with_reducible assumption | with_reducible exact HB2.out | with_reducible exact HB2.out.drew | with_reducible exact Below.drew (by with_reducible assumption)) (hbq.mono (Below.size (by first | with_reducible assumption | with_reducible exact HB2.out | with_reducible exact HB2.out.drew | with_reducible exact Below.drew (by with_reducible assumption))))))
            | (go_at_call 65; ((refine (mul_nat vh vd H den _ (by with_reducible assumption) (HDD.out _ (by first | with_reducible assumption | with_reducible exact HB2.out | with_reducible exact HB2.out.drew | with_reducible exact Below.drew (by with_reducible assumption))) HHB.out BD.out).mono ?_); rintro r wq ⟨vp, rfl, hvp, hbq⟩; have qb : Below wn.heap.size wn wq := Below.trans (by first | with_reducible assumption | with_reducible exact HB2.out | with_reducible exact HB2.out.drew | with_reducible exact Below.drew (by with_reducible assumption)) (hbq.mono (Below.size (by first | with_reducible assumption | with_reducible exact HB2.out | with_reducible exact HB2.out.drew | with_reducible exact Below.drew (by with_reducible assumption))))))
            | (go_at_call 69; ((refine (cmp_nat vp vN (H * den) NN _ (by with_reducible assumption) (HNQ.out _ (by first | with_reducible assumption | with_reducible exact HB2.out | with_reducible exact HB2.out.drew | with_reducible exact Below.drew (by with_reducible assumption))) HBM.out HNL.out).mono ?_); rw [← HG.out]; rintro r wq ⟨rfl, hbq⟩; have qb : Below wn.heap.size wn wq := Below.trans (by first | with_reducible assumption | with_reducible exact HB2.out | with_reducible exact HB2.out.drew | with_reducible exact Below.drew (by with_reducible assumption)) (hbq.mono (Below.size (by first | with_reducible assumption | with_reducible exact HB2.out | with_reducible exact HB2.out.drew | with_reducible exact Below.drew (by with_reducible assumption)))))))
        rename _ ∧ _ ∧ Below wn.heap.size wn _ => hS
        have HBE := Lib.hid hS.2.2
        clear hS
        go_wp2_with fail
        case roundEnd => exact ⟨⟨lo, md, rfl, rfl, l0, m1, by omega, HLO.out, HH2.out, HBE.out⟩, by simp only [intOf]; omega⟩
      · have hg0 : ¬ 0 ≤ g := by rw [HG.out]; unfold sg; rw [if_pos (by omega)]; decide
        have HH2 := Lib.hid (HLO2.out (by omega))
        clear hge
        go_wp2_with fail
        go_region_held3 (fun wx => wx.cell? ⟨w.heap.size, 2, none⟩ = some vd ∧ w.heap.size + 1 < wx.heap.size ∧ Below wn.heap.size wn wx) (first | (go_keep; done) | (refine ⟨?_, ?_, ?_⟩ <;> first | with_reducible assumption | exact (HSL.out _ (by first | with_reducible assumption | with_reducible exact HB2.out | with_reducible exact HB2.out.drew | with_reducible exact Below.drew (by with_reducible assumption))).1 | exact (HSL.out _ (by first | with_reducible assumption | with_reducible exact HB2.out | with_reducible exact HB2.out.drew | with_reducible exact Below.drew (by with_reducible assumption))).2 | exact (by first | with_reducible assumption | with_reducible exact HB2.out | with_reducible exact HB2.out.drew | with_reducible exact Below.drew (by with_reducible assumption))))
          (first
            | (go_at_call 68; ((with_reducible refine (HHM.out _).mono ?_); rintro r wq ⟨vh, rfl, hvh, hbq⟩; have qb : Below wn.heap.size wn wq := Below.trans (by first | with_reducible assumption | with_reducible exact HB2.out | with_reducible exact HB2.out.drew | with_reducible exact Below.drew (by with_reducible assumption)) (hbq.mono (Below.size (by first | with_reducible assumption | with_reducible exact HB2.out | with_reducible exact HB2.out.drew | with_reducible exact Below.drew (by with_reducible assumption))))))
            | (go_at_call 65; ((refine (mul_nat vh vd H den _ (by with_reducible assumption) (HDD.out _ (by first | with_reducible assumption | with_reducible exact HB2.out | with_reducible exact HB2.out.drew | with_reducible exact Below.drew (by with_reducible assumption))) HHB.out BD.out).mono ?_); rintro r wq ⟨vp, rfl, hvp, hbq⟩; have qb : Below wn.heap.size wn wq := Below.trans (by first | with_reducible assumption | with_reducible exact HB2.out | with_reducible exact HB2.out.drew | with_reducible exact Below.drew (by with_reducible assumption)) (hbq.mono (Below.size (by first | with_reducible assumption | with_reducible exact HB2.out | with_reducible exact HB2.out.drew | with_reducible exact Below.drew (by with_reducible assumption))))))
            | (go_at_call 69; ((refine (cmp_nat vp vN (H * den) NN _ (by with_reducible assumption) (HNQ.out _ (by first | with_reducible assumption | with_reducible exact HB2.out | with_reducible exact HB2.out.drew | with_reducible exact Below.drew (by with_reducible assumption))) HBM.out HNL.out).mono ?_); rw [← HG.out]; rintro r wq ⟨rfl, hbq⟩; have qb : Below wn.heap.size wn wq := Below.trans (by first | with_reducible assumption | with_reducible exact HB2.out | with_reducible exact HB2.out.drew | with_reducible exact Below.drew (by with_reducible assumption)) (hbq.mono (Below.size (by first | with_reducible assumption | with_reducible exact HB2.out | with_reducible exact HB2.out.drew | with_reducible exact Below.drew (by with_reducible assumption)))))))
        rename _ ∧ _ ∧ Below wn.heap.size wn _ => hS
        have HBE := Lib.hid hS.2.2
        clear hS
        go_wp2_with fail
        case roundEnd => exact ⟨⟨md + 1, hi, rfl, rfl, by omega, by omega, l2, HH2.out, HHI.out, HBE.out⟩, by simp only [intOf]; omega⟩
    · have hle : lo = hi := by omega
      subst hle
      have HRR := Lib.hid (show ∀ wx, Below wn.heap.size wn wx → (wx.cell? ⟨w.heap.size + 1, 0, none⟩ = some (.int .i64 0) ∧ wx.cell? ⟨w.heap.size + 1, 1, none⟩ = some (.int .i64 0) ∧ wx.cell? ⟨w.heap.size + 1, 2, none⟩ = some (.bool false)) ∧ (wx.frozen? ⟨w.heap.size + 1, 0, none⟩ = false ∧ wx.frozen? ⟨w.heap.size + 1, 1, none⟩ = false ∧ wx.frozen? ⟨w.heap.size + 1, 2, none⟩ = false) from fun wx h => HRB.out wx (HQB.out.trans (h.mono HQB.out.size)))
      have HSB := Lib.hid (show ∀ wx, Below wn.heap.size wn wx → wx.cell? ⟨w.heap.size, 0, none⟩ = some (.bool mi) ∧ w.heap.size + 1 < wx.heap.size ∧ Below w.heap.size w wx from fun wx h => by
        have hq := HQB.out.trans (h.mono HQB.out.size)
        have := HSK.out wx hq
        exact ⟨this.1.1, this.2, hBB.out.trans (hq.mono hBB.out.size)⟩)
      have HL := Lib.hid (show Lo num den lo from ⟨l0, l2, by rw [← HEQ.out]; exact HLO.out, by rw [← HEQ.out]; exact HHI.out⟩)
      have HS2 := Lib.hid (show ∀ wx, Below wn.heap.size wn wx → wx.cell? ⟨w.heap.size, 2, none⟩ = some vd ∧ w.heap.size + 1 < wx.heap.size from fun wx h => by
        have := HSK.out wx (HQB.out.trans (h.mono HQB.out.size))
        exact ⟨this.1.2.2, this.2⟩)
      clear hlt l1 HSK HRB
      by_cases hmx : 2533359615 < lo
      · have HP := Lib.hid (show RndP num den mi 0 0 false from ⟨lo, HL.out, by
          have : ev num den lo = lo := by unfold ev; rw [if_neg (by omega)]
          rw [this, if_pos hmx]
          exact ⟨rfl, rfl, rfl⟩⟩)
        obtain ⟨⟨c0, c1, c2⟩, f0, f1, f2⟩ := HRR.out wr hbw
        have hz := (HSB.out wr hbw).2.1
        have HBW := Lib.hid (HSB.out wr hbw).2.2
        clear hbw
        go_wp2_with fail
        refine bodyPost_ret (v := .agg #[.int .i64 0, .int .i64 0, .bool false]) (by simp [results, Tryz.results44, go_sem, c0, c1, c2]) rfl ⟨_, _, _, rfl, HP.out, by repeat (first | with_reducible exact HBW.out | with_reducible refine Below.setCell ?_ (by first | omega | (simp; done) | (simp; omega)) _)⟩
      · have hmd : lo ≤ 2533359615 := by omega
        obtain ⟨tt, ht⟩ : ∃ tt : Bool, tt = decide (Hf lo * den = NN ∧ aM lo % 2 ≠ 0) := ⟨_, rfl⟩
        have HE := Lib.hid (show ev num den lo = if tt = true then lo + 1 else lo from by
          unfold ev
          rw [ht, ← HEQ.out]
          by_cases hc : Hf lo * den = NN ∧ aM lo % 2 ≠ 0
          · rw [if_pos ⟨hmd, hc⟩, if_pos (by simpa using hc)]
          · rw [if_neg (fun h => hc h.2), if_neg (by simpa using hc)])
        have HT := Lib.hid ht
        clear ht
        go_wp2_with fail
        go_upto_region 11 with fail
        go_cut [47] (fun s wx => s = .bool tt ∧ Below wn.heap.size wn wx)
        case first =>
          have HHM := Lib.hid (fun W : World => half_any lo W (by omega) (by omega))
          have HBM := Lib.hid (HBD.out lo (by omega) (by omega))
          obtain ⟨H, hH⟩ : ∃ H, H = Hf lo := ⟨_, rfl⟩
          rw [← hH] at HHM HBM HT
          have HHB := Lib.hid (show H < pw 1000 from hH ▸ pw_1000 (by have := (hf_bd (i := lo) (by omega) (by omega)).2; have := pw_le (show 40 ≤ 700 by decide); omega))
          clear hH
          obtain ⟨g, hg⟩ : ∃ g, g = sg (H * den) NN := ⟨_, rfl⟩
          have HG := Lib.hid hg
          clear hg
          have HDD := Lib.hid (show ∀ W, Below wn.heap.size wn W → NatIs W vd den from fun W hW => HDB.out W (HQB.out.trans (hW.mono HQB.out.size)))
          have HSL := Lib.hid (show ∀ wx, Below wn.heap.size wn wx → wx.cell? ⟨w.heap.size, 2, none⟩ = some vd ∧ w.heap.size + 1 < wx.heap.size from fun wx h => HS2.out wx h)
          have hfd : ∀ a b w, Sem.run Tryz.prog (Instr.field 23 (.agg #[.int .i64 a, .int .i64 b]) 0) w = .ok (.int .i64 a) w := fun a b w => by kernel_rfl
          by_cases heq : H * den = NN
          · have hg0 : g = 0 := by rw [HG.out, heq]; unfold sg; simp
            subst hg0
            have hm : 0 ≤ aM lo := by unfold aM sx ab; (repeat' split) <;> omega
            have HAT := Lib.hid (fun W : World => rat_any lo W (by omega) (by omega))
            have HT2 := Lib.hid (show tt = (aM lo % 2 != 0) by rw [HT.out]; by_cases hz : aM lo % 2 = 0 <;> simp [heq, hz])
            obtain ⟨xm, hxm⟩ : ∃ xm, xm = aM lo := ⟨_, rfl⟩
            obtain ⟨xe, hxe⟩ : ∃ xe, xe = aE lo := ⟨_, rfl⟩
            rw [← hxm] at HT2 hm
            rw [← hxm, ← hxe] at HAT
            have hrm : xm.tmod 2 = xm % 2 := Int.tmod_eq_emod_of_nonneg hm
            clear hxm hxe heq
            refine wp_region_noPanic ?_
            refine wp_region_held_drew (S := fun wx => wx.cell? ⟨w.heap.size, 2, none⟩ = some vd ∧ w.heap.size + 1 < wx.heap.size ∧ Below wn.heap.size wn wx) (by kernel_rfl) ?_ (fun hHeld => ?_)
            · (try dsimp only)
              (first | (go_keep; done) | (refine ⟨?_, ?_, ?_⟩ <;> first | with_reducible assumption | exact (HSL.out _ (by first | with_reducible assumption | with_reducible exact HB2.out | with_reducible exact HB2.out.drew | with_reducible exact Below.drew (by with_reducible assumption))).1 | exact (HSL.out _ (by first | with_reducible assumption | with_reducible exact HB2.out | with_reducible exact HB2.out.drew | with_reducible exact Below.drew (by with_reducible assumption))).2 | exact (by first | with_reducible assumption | with_reducible exact HB2.out | with_reducible exact HB2.out.drew | with_reducible exact Below.drew (by with_reducible assumption))))
            refine wpAnyH_take (i := 0) (oi := _) (v := ?_) rfl (by kernel_rfl) (by kernel_rfl) (by kernel_rfl) (fun _ _ _ h => h) (Or.inl ⟨by rfl, ?hyT0⟩) (by assumption) ?restT0
            case hyT0 => (intro w hSw; (try dsimp only at hSw); go_simp; (try with_reducible rfl))
            (try simp (maxSteps := 4000000) only [List.getElem_toArray, List.getElem_cons_zero, Act.put, List.setIfInBounds_toArray, List.set_cons_zero, List.set_cons_succ])
            refine wpAnyH_take (i := 2) (oi := _) (v := ?_) rfl (by kernel_rfl) (by kernel_rfl) (by kernel_rfl) (fun _ _ _ h => h) (Or.inl ⟨by rfl, ?hyT2⟩) (by assumption) ?restT2
            case hyT2 => (intro w hSw; (try dsimp only at hSw); go_simp; (try with_reducible rfl))
            (try simp (maxSteps := 4000000) only [List.getElem_toArray, List.getElem_cons_succ, List.getElem_cons_zero, Act.put, List.setIfInBounds_toArray, List.set_cons_zero, List.set_cons_succ])
            refine wpAnyH_take (i := 3) (oi := _) (v := ?_) rfl (by kernel_rfl) (by kernel_rfl) (by kernel_rfl) (fun _ _ _ h => h) (Or.inl ⟨by rfl, ?hyT3⟩) (by assumption) ?restT3
            case hyT3 => (intro w hSw; (try dsimp only at hSw); go_simp; (try with_reducible rfl))
            (try simp (maxSteps := 4000000) only [List.getElem_toArray, List.getElem_cons_succ, List.getElem_cons_zero, Act.put, List.setIfInBounds_toArray, List.set_cons_zero, List.set_cons_succ])
            refine wpAnyH_take (i := 5) (oi := _) (v := ?_) rfl (by kernel_rfl) (by kernel_rfl) (by kernel_rfl) (fun _ _ _ h => h) (Or.inl ⟨by rfl, ?hyT5⟩) (by assumption) ?restT5
            case hyT5 => (intro w hSw; (try dsimp only at hSw); go_simp; (try with_reducible rfl))
            (try simp (maxSteps := 4000000) only [List.getElem_toArray, List.getElem_cons_succ, List.getElem_cons_zero, Act.put, List.setIfInBounds_toArray, List.set_cons_zero, List.set_cons_succ])
            refine wpAnyH_ready (rs := [1]) (by kernel_rfl) (by simp) ?_
            refine AllReadyH.cons (o := _) rfl (fun K hK => ?_) AllReadyH.nil
            go_simp
            (go_at_call 68; ((with_reducible refine (HHM.out _).mono ?_); rintro r wq ⟨vh, rfl, hvh, hbq⟩; have qb : Below wn.heap.size wn wq := Below.trans (by first | with_reducible assumption | with_reducible exact HB2.out | with_reducible exact HB2.out.drew | with_reducible exact Below.drew (by with_reducible assumption)) (hbq.mono (Below.size (by first | with_reducible assumption | with_reducible exact HB2.out | with_reducible exact HB2.out.drew | with_reducible exact Below.drew (by with_reducible assumption))))))
            go_wp2_with fail
            refine hK.out _ _ ?_ (fun hHeld => ?_)
            · (try dsimp only)
              (first | (go_keep; done) | (refine ⟨?_, ?_, ?_⟩ <;> first | with_reducible assumption | exact (HSL.out _ (by first | with_reducible assumption | with_reducible exact HB2.out | with_reducible exact HB2.out.drew | with_reducible exact Below.drew (by with_reducible assumption))).1 | exact (HSL.out _ (by first | with_reducible assumption | with_reducible exact HB2.out | with_reducible exact HB2.out.drew | with_reducible exact Below.drew (by with_reducible assumption))).2 | exact (by first | with_reducible assumption | with_reducible exact HB2.out | with_reducible exact HB2.out.drew | with_reducible exact Below.drew (by with_reducible assumption))))
            clear hK K
            (try simp (maxSteps := 4000000) only [List.getElem_toArray, List.getElem_cons_succ, List.getElem_cons_zero, Act.put, List.setIfInBounds_toArray, List.set_cons_zero, List.set_cons_succ])
            refine wpAnyH_ready (rs := [4]) (by kernel_rfl) (by simp) ?_
            refine AllReadyH.cons (o := _) rfl (fun K hK => ?_) AllReadyH.nil
            go_simp
            (go_at_call 65; ((refine (mul_nat vh vd H den _ (by with_reducible assumption) (HDD.out _ (by first | with_reducible assumption | with_reducible exact HB2.out | with_reducible exact HB2.out.drew | with_reducible exact Below.drew (by with_reducible assumption))) HHB.out BD.out).mono ?_); rintro r wq ⟨vp, rfl, hvp, hbq⟩; have qb : Below wn.heap.size wn wq := Below.trans (by first | with_reducible assumption | with_reducible exact HB2.out | with_reducible exact HB2.out.drew | with_reducible exact Below.drew (by with_reducible assumption)) (hbq.mono (Below.size (by first | with_reducible assumption | with_reducible exact HB2.out | with_reducible exact HB2.out.drew | with_reducible exact Below.drew (by with_reducible assumption))))))
            go_wp2_with fail
            refine hK.out _ _ ?_ (fun hHeld => ?_)
            · (try dsimp only)
              (first | (go_keep; done) | (refine ⟨?_, ?_, ?_⟩ <;> first | with_reducible assumption | exact (HSL.out _ (by first | with_reducible assumption | with_reducible exact HB2.out | with_reducible exact HB2.out.drew | with_reducible exact Below.drew (by with_reducible assumption))).1 | exact (HSL.out _ (by first | with_reducible assumption | with_reducible exact HB2.out | with_reducible exact HB2.out.drew | with_reducible exact Below.drew (by with_reducible assumption))).2 | exact (by first | with_reducible assumption | with_reducible exact HB2.out | with_reducible exact HB2.out.drew | with_reducible exact Below.drew (by with_reducible assumption))))
            clear hK K
            (try simp (maxSteps := 4000000) only [List.getElem_toArray, List.getElem_cons_succ, List.getElem_cons_zero, Act.put, List.setIfInBounds_toArray, List.set_cons_zero, List.set_cons_succ])
            refine wpAnyH_ready (rs := [6]) (by kernel_rfl) (by simp) ?_
            refine AllReadyH.cons (o := _) rfl (fun K hK => ?_) AllReadyH.nil
            go_simp
            (go_at_call 69; ((refine (cmp_nat vp vN (H * den) NN _ (by with_reducible assumption) (HNQ.out _ (by first | with_reducible assumption | with_reducible exact HB2.out | with_reducible exact HB2.out.drew | with_reducible exact Below.drew (by with_reducible assumption))) HBM.out HNL.out).mono ?_); rw [← HG.out]; rintro r wq ⟨rfl, hbq⟩; have qb : Below wn.heap.size wn wq := Below.trans (by first | with_reducible assumption | with_reducible exact HB2.out | with_reducible exact HB2.out.drew | with_reducible exact Below.drew (by with_reducible assumption)) (hbq.mono (Below.size (by first | with_reducible assumption | with_reducible exact HB2.out | with_reducible exact HB2.out.drew | with_reducible exact Below.drew (by with_reducible assumption))))))
            go_wp2_with fail
            refine hK.out _ _ ?_ (fun hHeld => ?_)
            · (try dsimp only)
              (first | (go_keep; done) | (refine ⟨?_, ?_, ?_⟩ <;> first | with_reducible assumption | exact (HSL.out _ (by first | with_reducible assumption | with_reducible exact HB2.out | with_reducible exact HB2.out.drew | with_reducible exact Below.drew (by with_reducible assumption))).1 | exact (HSL.out _ (by first | with_reducible assumption | with_reducible exact HB2.out | with_reducible exact HB2.out.drew | with_reducible exact Below.drew (by with_reducible assumption))).2 | exact (by first | with_reducible assumption | with_reducible exact HB2.out | with_reducible exact HB2.out.drew | with_reducible exact Below.drew (by with_reducible assumption))))
            clear hK K
            (try simp (maxSteps := 4000000) only [List.getElem_toArray, List.getElem_cons_succ, List.getElem_cons_zero, Act.put, List.setIfInBounds_toArray, List.set_cons_zero, List.set_cons_succ])
            refine wpAnyH_take (i := 7) (oi := _) (v := ?_) rfl (by kernel_rfl) (by kernel_rfl) (by kernel_rfl) (fun _ _ _ h => h) (Or.inl ⟨by rfl, ?hyT7⟩) (by assumption) ?restT7
            case hyT7 => (intro w hSw; (try dsimp only at hSw); go_simp; (try with_reducible rfl))
            (try simp (maxSteps := 4000000) only [List.getElem_toArray, List.getElem_cons_succ, List.getElem_cons_zero, Act.put, List.setIfInBounds_toArray, List.set_cons_zero, List.set_cons_succ])
            refine wpAnyH_take (i := 8) (oi := _) (v := ?_) rfl (by kernel_rfl) (by kernel_rfl) (by kernel_rfl) (fun _ _ _ h => h) (Or.inl ⟨by rfl, ?hyT8⟩) (by assumption) ?restT8
            case hyT8 => (intro w hSw; (try dsimp only at hSw); go_simp; (try with_reducible rfl))
            (try simp (maxSteps := 4000000) only [List.getElem_toArray, List.getElem_cons_succ, List.getElem_cons_zero, Act.put, List.setIfInBounds_toArray, List.set_cons_zero, List.set_cons_succ])
            refine wpAnyH_take (i := 9) (oi := _) (v := ?_) rfl (by kernel_rfl) (by kernel_rfl) (by kernel_rfl) (fun _ _ _ h => h) (Or.inl ⟨by rfl, ?hyT9⟩) (by assumption) ?restT9
            case hyT9 => (intro w hSw; (try dsimp only at hSw); go_simp; (try with_reducible rfl))
            (try simp (maxSteps := 4000000) only [List.getElem_toArray, List.getElem_cons_succ, List.getElem_cons_zero, Act.put, List.setIfInBounds_toArray, List.set_cons_zero, List.set_cons_succ])
            refine wpAnyH_ready (rs := [10]) (by kernel_rfl) (by simp) ?_
            refine AllReadyH.cons (o := _) rfl (fun K hK => ?_) AllReadyH.nil
            go_simp
            (go_at_call 70; ((refine (HAT.out _).mono ?_); rintro r wq ⟨rfl, hbq⟩; have qb : Below wn.heap.size wn wq := Below.trans (by first | with_reducible assumption | with_reducible exact HB2.out | with_reducible exact HB2.out.drew | with_reducible exact Below.drew (by with_reducible assumption)) (hbq.mono (Below.size (by first | with_reducible assumption | with_reducible exact HB2.out | with_reducible exact HB2.out.drew | with_reducible exact Below.drew (by with_reducible assumption))))))
            go_wp2_with fail
            refine hK.out _ _ ?_ (fun hHeld => ?_)
            · (try dsimp only)
              (first | (go_keep; done) | (refine ⟨?_, ?_, ?_⟩ <;> first | with_reducible assumption | exact (HSL.out _ (by first | with_reducible assumption | with_reducible exact HB2.out | with_reducible exact HB2.out.drew | with_reducible exact Below.drew (by with_reducible assumption))).1 | exact (HSL.out _ (by first | with_reducible assumption | with_reducible exact HB2.out | with_reducible exact HB2.out.drew | with_reducible exact Below.drew (by with_reducible assumption))).2 | exact (by first | with_reducible assumption | with_reducible exact HB2.out | with_reducible exact HB2.out.drew | with_reducible exact Below.drew (by with_reducible assumption))))
            clear hK K
            (try simp (maxSteps := 4000000) only [List.getElem_toArray, List.getElem_cons_succ, List.getElem_cons_zero, Act.put, List.setIfInBounds_toArray, List.set_cons_zero, List.set_cons_succ])
            refine wpAnyH_take (i := 11) (oi := _) (v := ?_) rfl (by kernel_rfl) (by kernel_rfl) (by kernel_rfl) (fun _ _ _ h => h) (Or.inl ⟨by rfl, ?hyT11⟩) (by assumption) ?restT11
            case hyT11 => (intro w hSw; (try dsimp only at hSw); go_simp; (try with_reducible rfl))
            (try simp (maxSteps := 4000000) only [List.getElem_toArray, List.getElem_cons_succ, List.getElem_cons_zero, Act.put, List.setIfInBounds_toArray, List.set_cons_zero, List.set_cons_succ])
            refine wpAnyH_take (i := 12) (oi := _) (v := ?_) rfl (by kernel_rfl) (by kernel_rfl) (by kernel_rfl) (fun _ _ _ h => h) (Or.inl ⟨by rfl, ?hyT12⟩) (by assumption) ?restT12
            case hyT12 => (intro w hSw; (try dsimp only at hSw); go_simp; (try with_reducible rfl))
            (try simp (maxSteps := 4000000) only [List.getElem_toArray, List.getElem_cons_succ, List.getElem_cons_zero, Act.put, List.setIfInBounds_toArray, List.set_cons_zero, List.set_cons_succ])
            refine wpAnyH_take (i := 13) (oi := _) (v := ?_) rfl (by kernel_rfl) (by kernel_rfl) (by kernel_rfl) (fun _ _ _ h => h) (Or.inl ⟨by rfl, ?hyT13⟩) (by assumption) ?restT13
            case hyT13 => (intro w hSw; (try dsimp only at hSw); go_simp; (try with_reducible rfl))
            (try simp (maxSteps := 4000000) only [List.getElem_toArray, List.getElem_cons_succ, List.getElem_cons_zero, Act.put, List.setIfInBounds_toArray, List.set_cons_zero, List.set_cons_succ])
            refine wpAnyH_take (i := 14) (oi := _) (v := ?_) rfl (by kernel_rfl) (by kernel_rfl) (by kernel_rfl) (fun _ _ _ h => h) (Or.inl ⟨by rfl, ?hyT14⟩) (by assumption) ?restT14
            case hyT14 => (intro w hSw; (try dsimp only at hSw); go_simp; (try with_reducible rfl))
            (try simp (maxSteps := 4000000) only [List.getElem_toArray, List.getElem_cons_succ, List.getElem_cons_zero, Act.put, List.setIfInBounds_toArray, List.set_cons_zero, List.set_cons_succ])
            refine wpAnyH_done (by kernel_rfl) ?_ _
            refine NoPanic.normal ?_
            have HBE := Lib.hid (show Below wn.heap.size wn _ by assumption)
            go_wp2_with fail
            go_meet
            case rel => exact ⟨by rw [HT2.out], HBE.out⟩
          · have hg0 : (g == 0) = false := by
              simp only [beq_eq_false_iff_ne, ne_eq]
              rw [HG.out]; unfold sg; split <;> (try split) <;> omega
            have HT2 := Lib.hid (show tt = false by rw [HT.out]; simp [heq])
            clear heq
            refine wp_region_noPanic ?_
            refine wp_region_held_drew (S := fun wx => wx.cell? ⟨w.heap.size, 2, none⟩ = some vd ∧ w.heap.size + 1 < wx.heap.size ∧ Below wn.heap.size wn wx) (by kernel_rfl) ?_ (fun hHeld => ?_)
            · (try dsimp only)
              (first | (go_keep; done) | (refine ⟨?_, ?_, ?_⟩ <;> first | with_reducible assumption | exact (HSL.out _ (by first | with_reducible assumption | with_reducible exact HB2.out | with_reducible exact HB2.out.drew | with_reducible exact Below.drew (by with_reducible assumption))).1 | exact (HSL.out _ (by first | with_reducible assumption | with_reducible exact HB2.out | with_reducible exact HB2.out.drew | with_reducible exact Below.drew (by with_reducible assumption))).2 | exact (by first | with_reducible assumption | with_reducible exact HB2.out | with_reducible exact HB2.out.drew | with_reducible exact Below.drew (by with_reducible assumption))))
            refine wpAnyH_take (i := 0) (oi := _) (v := ?_) rfl (by kernel_rfl) (by kernel_rfl) (by kernel_rfl) (fun _ _ _ h => h) (Or.inl ⟨by rfl, ?hyN0⟩) (by assumption) ?restN0
            case hyN0 => (intro w hSw; (try dsimp only at hSw); go_simp; (try with_reducible rfl))
            (try simp (maxSteps := 4000000) only [List.getElem_toArray, List.getElem_cons_zero, Act.put, List.setIfInBounds_toArray, List.set_cons_zero, List.set_cons_succ])
            refine wpAnyH_take (i := 2) (oi := _) (v := ?_) rfl (by kernel_rfl) (by kernel_rfl) (by kernel_rfl) (fun _ _ _ h => h) (Or.inl ⟨by rfl, ?hyN2⟩) (by assumption) ?restN2
            case hyN2 => (intro w hSw; (try dsimp only at hSw); go_simp; (try with_reducible rfl))
            (try simp (maxSteps := 4000000) only [List.getElem_toArray, List.getElem_cons_succ, List.getElem_cons_zero, Act.put, List.setIfInBounds_toArray, List.set_cons_zero, List.set_cons_succ])
            refine wpAnyH_take (i := 3) (oi := _) (v := ?_) rfl (by kernel_rfl) (by kernel_rfl) (by kernel_rfl) (fun _ _ _ h => h) (Or.inl ⟨by rfl, ?hyN3⟩) (by assumption) ?restN3
            case hyN3 => (intro w hSw; (try dsimp only at hSw); go_simp; (try with_reducible rfl))
            (try simp (maxSteps := 4000000) only [List.getElem_toArray, List.getElem_cons_succ, List.getElem_cons_zero, Act.put, List.setIfInBounds_toArray, List.set_cons_zero, List.set_cons_succ])
            refine wpAnyH_take (i := 5) (oi := _) (v := ?_) rfl (by kernel_rfl) (by kernel_rfl) (by kernel_rfl) (fun _ _ _ h => h) (Or.inl ⟨by rfl, ?hyN5⟩) (by assumption) ?restN5
            case hyN5 => (intro w hSw; (try dsimp only at hSw); go_simp; (try with_reducible rfl))
            (try simp (maxSteps := 4000000) only [List.getElem_toArray, List.getElem_cons_succ, List.getElem_cons_zero, Act.put, List.setIfInBounds_toArray, List.set_cons_zero, List.set_cons_succ])
            refine wpAnyH_ready (rs := [1]) (by kernel_rfl) (by simp) ?_
            refine AllReadyH.cons (o := _) rfl (fun K hK => ?_) AllReadyH.nil
            go_simp
            (go_at_call 68; ((with_reducible refine (HHM.out _).mono ?_); rintro r wq ⟨vh, rfl, hvh, hbq⟩; have qb : Below wn.heap.size wn wq := Below.trans (by first | with_reducible assumption | with_reducible exact HB2.out | with_reducible exact HB2.out.drew | with_reducible exact Below.drew (by with_reducible assumption)) (hbq.mono (Below.size (by first | with_reducible assumption | with_reducible exact HB2.out | with_reducible exact HB2.out.drew | with_reducible exact Below.drew (by with_reducible assumption))))))
            go_wp2_with fail
            refine hK.out _ _ ?_ (fun hHeld => ?_)
            · (try dsimp only)
              (first | (go_keep; done) | (refine ⟨?_, ?_, ?_⟩ <;> first | with_reducible assumption | exact (HSL.out _ (by first | with_reducible assumption | with_reducible exact HB2.out | with_reducible exact HB2.out.drew | with_reducible exact Below.drew (by with_reducible assumption))).1 | exact (HSL.out _ (by first | with_reducible assumption | with_reducible exact HB2.out | with_reducible exact HB2.out.drew | with_reducible exact Below.drew (by with_reducible assumption))).2 | exact (by first | with_reducible assumption | with_reducible exact HB2.out | with_reducible exact HB2.out.drew | with_reducible exact Below.drew (by with_reducible assumption))))
            clear hK K
            (try simp (maxSteps := 4000000) only [List.getElem_toArray, List.getElem_cons_succ, List.getElem_cons_zero, Act.put, List.setIfInBounds_toArray, List.set_cons_zero, List.set_cons_succ])
            refine wpAnyH_ready (rs := [4]) (by kernel_rfl) (by simp) ?_
            refine AllReadyH.cons (o := _) rfl (fun K hK => ?_) AllReadyH.nil
            go_simp
            (go_at_call 65; ((refine (mul_nat vh vd H den _ (by with_reducible assumption) (HDD.out _ (by first | with_reducible assumption | with_reducible exact HB2.out | with_reducible exact HB2.out.drew | with_reducible exact Below.drew (by with_reducible assumption))) HHB.out BD.out).mono ?_); rintro r wq ⟨vp, rfl, hvp, hbq⟩; have qb : Below wn.heap.size wn wq := Below.trans (by first | with_reducible assumption | with_reducible exact HB2.out | with_reducible exact HB2.out.drew | with_reducible exact Below.drew (by with_reducible assumption)) (hbq.mono (Below.size (by first | with_reducible assumption | with_reducible exact HB2.out | with_reducible exact HB2.out.drew | with_reducible exact Below.drew (by with_reducible assumption))))))
            go_wp2_with fail
            refine hK.out _ _ ?_ (fun hHeld => ?_)
            · (try dsimp only)
              (first | (go_keep; done) | (refine ⟨?_, ?_, ?_⟩ <;> first | with_reducible assumption | exact (HSL.out _ (by first | with_reducible assumption | with_reducible exact HB2.out | with_reducible exact HB2.out.drew | with_reducible exact Below.drew (by with_reducible assumption))).1 | exact (HSL.out _ (by first | with_reducible assumption | with_reducible exact HB2.out | with_reducible exact HB2.out.drew | with_reducible exact Below.drew (by with_reducible assumption))).2 | exact (by first | with_reducible assumption | with_reducible exact HB2.out | with_reducible exact HB2.out.drew | with_reducible exact Below.drew (by with_reducible assumption))))
            clear hK K
            (try simp (maxSteps := 4000000) only [List.getElem_toArray, List.getElem_cons_succ, List.getElem_cons_zero, Act.put, List.setIfInBounds_toArray, List.set_cons_zero, List.set_cons_succ])
            refine wpAnyH_ready (rs := [6]) (by kernel_rfl) (by simp) ?_
            refine AllReadyH.cons (o := _) rfl (fun K hK => ?_) AllReadyH.nil
            go_simp
            (go_at_call 69; ((refine (cmp_nat vp vN (H * den) NN _ (by with_reducible assumption) (HNQ.out _ (by first | with_reducible assumption | with_reducible exact HB2.out | with_reducible exact HB2.out.drew | with_reducible exact Below.drew (by with_reducible assumption))) HBM.out HNL.out).mono ?_); rw [← HG.out]; rintro r wq ⟨rfl, hbq⟩; have qb : Below wn.heap.size wn wq := Below.trans (by first | with_reducible assumption | with_reducible exact HB2.out | with_reducible exact HB2.out.drew | with_reducible exact Below.drew (by with_reducible assumption)) (hbq.mono (Below.size (by first | with_reducible assumption | with_reducible exact HB2.out | with_reducible exact HB2.out.drew | with_reducible exact Below.drew (by with_reducible assumption))))))
            go_wp2_with fail
            refine hK.out _ _ ?_ (fun hHeld => ?_)
            · (try dsimp only)
              (first | (go_keep; done) | (refine ⟨?_, ?_, ?_⟩ <;> first | with_reducible assumption | exact (HSL.out _ (by first | with_reducible assumption | with_reducible exact HB2.out | with_reducible exact HB2.out.drew | with_reducible exact Below.drew (by with_reducible assumption))).1 | exact (HSL.out _ (by first | with_reducible assumption | with_reducible exact HB2.out | with_reducible exact HB2.out.drew | with_reducible exact Below.drew (by with_reducible assumption))).2 | exact (by first | with_reducible assumption | with_reducible exact HB2.out | with_reducible exact HB2.out.drew | with_reducible exact Below.drew (by with_reducible assumption))))
            clear hK K
            (try simp (maxSteps := 4000000) only [List.getElem_toArray, List.getElem_cons_succ, List.getElem_cons_zero, Act.put, List.setIfInBounds_toArray, List.set_cons_zero, List.set_cons_succ])
            refine wpAnyH_take (i := 7) (oi := _) (v := ?_) rfl (by kernel_rfl) (by kernel_rfl) (by kernel_rfl) (fun _ _ _ h => h) (Or.inl ⟨by rfl, ?hyN7⟩) (by assumption) ?restN7
            case hyN7 => (intro w hSw; (try dsimp only at hSw); go_simp; (try with_reducible rfl))
            (try simp (maxSteps := 4000000) only [List.getElem_toArray, List.getElem_cons_succ, List.getElem_cons_zero, Act.put, List.setIfInBounds_toArray, List.set_cons_zero, List.set_cons_succ])
            refine wpAnyH_take (i := 8) (oi := _) (v := ?_) rfl (by kernel_rfl) (by kernel_rfl) (by kernel_rfl) (fun _ _ _ h => h) (Or.inl ⟨by rfl, ?hyN8⟩) (by assumption) ?restN8
            case hyN8 => (intro w hSw; (try dsimp only at hSw); go_simp; (try with_reducible rfl))
            (try simp (maxSteps := 4000000) only [List.getElem_toArray, List.getElem_cons_succ, List.getElem_cons_zero, Act.put, List.setIfInBounds_toArray, List.set_cons_zero, List.set_cons_succ])
            refine wpAnyH_take (i := 9) (oi := _) (v := _) rfl (by kernel_rfl) (by kernel_rfl) (by kernel_rfl) (fun _ _ _ h => h) (Or.inr ⟨by rfl, rfl⟩) (by assumption) ?_
            (try simp (maxSteps := 4000000) only [List.getElem_toArray, List.getElem_cons_succ, List.getElem_cons_zero, Act.put, List.setIfInBounds_toArray, List.set_cons_zero, List.set_cons_succ])
            refine wpAnyH_take (i := 10) (oi := _) (v := _) rfl (by kernel_rfl) (by kernel_rfl) (by kernel_rfl) (fun _ _ _ h => h) (Or.inr ⟨by rfl, rfl⟩) (by assumption) ?_
            (try simp (maxSteps := 4000000) only [List.getElem_toArray, List.getElem_cons_succ, List.getElem_cons_zero, Act.put, List.setIfInBounds_toArray, List.set_cons_zero, List.set_cons_succ])
            refine wpAnyH_take (i := 11) (oi := _) (v := _) rfl (by kernel_rfl) (by kernel_rfl) (by kernel_rfl) (fun _ _ _ h => h) (Or.inr ⟨by rfl, rfl⟩) (by assumption) ?_
            (try simp (maxSteps := 4000000) only [List.getElem_toArray, List.getElem_cons_succ, List.getElem_cons_zero, Act.put, List.setIfInBounds_toArray, List.set_cons_zero, List.set_cons_succ])
            refine wpAnyH_take (i := 12) (oi := _) (v := _) rfl (by kernel_rfl) (by kernel_rfl) (by kernel_rfl) (fun _ _ _ h => h) (Or.inr ⟨by rfl, rfl⟩) (by assumption) ?_
            (try simp (maxSteps := 4000000) only [List.getElem_toArray, List.getElem_cons_succ, List.getElem_cons_zero, Act.put, List.setIfInBounds_toArray, List.set_cons_zero, List.set_cons_succ])
            refine wpAnyH_take (i := 13) (oi := _) (v := _) rfl (by kernel_rfl) (by kernel_rfl) (by kernel_rfl) (fun _ _ _ h => h) (Or.inr ⟨by rfl, rfl⟩) (by assumption) ?_
            (try simp (maxSteps := 4000000) only [List.getElem_toArray, List.getElem_cons_succ, List.getElem_cons_zero, Act.put, List.setIfInBounds_toArray, List.set_cons_zero, List.set_cons_succ])
            refine wpAnyH_take (i := 14) (oi := _) (v := ?_) rfl (by kernel_rfl) (by kernel_rfl) (by kernel_rfl) (fun _ _ _ h => h) (Or.inl ⟨by rfl, ?hyN14⟩) (by assumption) ?restN14
            case hyN14 => (intro w hSw; (try dsimp only at hSw); go_simp; (try with_reducible rfl))
            (try simp (maxSteps := 4000000) only [List.getElem_toArray, List.getElem_cons_succ, List.getElem_cons_zero, Act.put, List.setIfInBounds_toArray, List.set_cons_zero, List.set_cons_succ])
            refine wpAnyH_done (by kernel_rfl) ?_ _
            refine NoPanic.normal ?_
            have HBE := Lib.hid (show Below wn.heap.size wn _ by assumption)
            go_wp2_with fail
            go_meet
            case rel => exact ⟨by rw [HT2.out], HBE.out⟩
        case rest =>
        obtain ⟨rfl, hbc⟩ := hcut
        have HBC := Lib.hid hbc
        clear HLO HHI hbw HB2
        cases tt
        · have HEV := Lib.hid (show ev num den lo = lo from HE.out)
          clear HE HT
          cases mi
          · have HP := Lib.hid (show RndP num den false (aM lo) (aE lo) true from ⟨lo, HL.out, by rw [HEV.out, if_neg (by omega)]; exact ⟨rfl, rfl, rfl⟩⟩)
            go_wp2_with fail
            refine (rat_any lo _ (by omega) (by omega)).mono ?_
            rintro r wa ⟨rfl, hba⟩
            have hbx := HBC.out.trans (hba.mono HBC.out.size)
            obtain ⟨⟨c0, c1, c2⟩, f0, f1, f2⟩ := HRR.out _ hbx
            have hmi := (HSB.out _ hbx).1
            have hz := (HSB.out _ hbx).2.1
            have HBW := Lib.hid (HSB.out _ hbx).2.2
            have HBX := Lib.hid hbx
            clear hba hbx hbc
            obtain ⟨xm, hxm⟩ : ∃ xm, xm = aM lo := ⟨_, rfl⟩
            obtain ⟨xe, hxe⟩ : ∃ xe, xe = aE lo := ⟨_, rfl⟩
            rw [← hxm, ← hxe]
            rw [← hxm, ← hxe] at HP
            have hz0 : w.heap.size < wa.heap.size := by omega
            clear hxm hxe
            go_wp2_with fail
            refine bodyPost_ret (v := .agg #[.int .i64 xm, .int .i64 xe, .bool true]) (by simp [results, Tryz.results44, go_sem, c0, c1, c2, hz]) rfl ⟨_, _, _, rfl, HP.out, by repeat (first | with_reducible exact HBW.out | with_reducible refine Below.setCell ?_ (by first | omega | (simp; done) | (simp; omega)) _ | with_reducible refine Below.alloc ?_ (by first | omega | (simp; done) | (simp; omega)) _)⟩
          · have HP := Lib.hid (show RndP num den true (aM (-lo)) (aE (-lo)) true from ⟨lo, HL.out, by rw [HEV.out, if_neg (by omega)]; exact ⟨rfl, rfl, rfl⟩⟩)
            go_wp2_with fail
            refine (rat_any lo _ (by omega) (by omega)).mono ?_
            rintro r wa ⟨rfl, hba⟩
            have hbx := HBC.out.trans (hba.mono HBC.out.size)
            obtain ⟨⟨c0, c1, c2⟩, f0, f1, f2⟩ := HRR.out _ hbx
            have hmi := (HSB.out _ hbx).1
            have hz := (HSB.out _ hbx).2.1
            have HBW := Lib.hid (HSB.out _ hbx).2.2
            have HBX := Lib.hid hbx
            clear hba hbx hbc
            obtain ⟨xm, hxm⟩ : ∃ xm, xm = aM lo := ⟨_, rfl⟩
            obtain ⟨xe, hxe⟩ : ∃ xe, xe = aE lo := ⟨_, rfl⟩
            rw [← hxm, ← hxe]
            skip
            have hz0 : w.heap.size < wa.heap.size := by omega
            clear hxm hxe
            go_wp2_with fail
            refine (rat_any (-lo) _ (by omega) (by omega)).mono ?_
            rintro r wb2 ⟨rfl, hbb⟩
            have y0 : wb2.cell? ⟨wa.heap.size, 0, none⟩ = some (.int .i64 xm) := carry hbb (by go_simp)
            have y1 : wb2.cell? ⟨wa.heap.size, 1, none⟩ = some (.int .i64 xe) := carry hbb (by go_simp)
            have g0 : wb2.frozen? ⟨wa.heap.size, 0, none⟩ = false := carryF hbb (v := .int .i64 xm) (by go_simp) (by go_simp)
            have g1 : wb2.frozen? ⟨wa.heap.size, 1, none⟩ = false := carryF hbb (v := .int .i64 xe) (by go_simp) (by go_simp)
            have yz : wa.heap.size < wb2.heap.size := by have := hbb.size; simp at this; omega
            have hb2x : Below wn.heap.size wn wb2 := (HBX.out.alloc HBX.out.size (.cells #[.int .i64 xm, .int .i64 xe] 23)).trans (hbb.mono (by have := HBX.out.size; simp; omega))
            obtain ⟨⟨c0, c1, c2⟩, f0, f1, f2⟩ := HRR.out _ hb2x
            have HBW2 := Lib.hid (HSB.out _ hb2x).2.2
            have hz2 := (HSB.out _ hb2x).2.1
            clear hbb hb2x
            obtain ⟨ym, hym⟩ : ∃ ym, ym = aM (-lo) := ⟨_, rfl⟩
            obtain ⟨ye, hye⟩ : ∃ ye, ye = aE (-lo) := ⟨_, rfl⟩
            rw [← hym, ← hye]
            rw [← hym, ← hye] at HP
            clear hym hye
            go_wp2_with fail
            refine bodyPost_ret (v := .agg #[.int .i64 ym, .int .i64 ye, .bool true]) (by simp [results, Tryz.results44, go_sem, c0, c1, c2]) rfl ⟨_, _, _, rfl, HP.out, by repeat (first | with_reducible exact HBW2.out | with_reducible refine Below.setCell ?_ (by first | omega | (simp; done) | (simp; omega)) _)⟩
        · have HEV := Lib.hid (show ev num den lo = lo + 1 from HE.out)
          clear HE HT
          have hwl : IntKind.i64.wrap (lo + 1) = lo + 1 := wrap64' _ (by omega) (by omega)
          by_cases hmx2 : 2533359615 < lo + 1
          · have HP := Lib.hid (show RndP num den mi 0 0 false from ⟨lo, HL.out, by rw [HEV.out, if_pos hmx2]; exact ⟨rfl, rfl, rfl⟩⟩)
            obtain ⟨⟨c0, c1, c2⟩, f0, f1, f2⟩ := HRR.out _ hbc
            have hz := (HSB.out _ hbc).2.1
            have HBW := Lib.hid (HSB.out _ hbc).2.2
            clear hbc
            go_wp2_with fail
            refine bodyPost_ret (v := .agg #[.int .i64 0, .int .i64 0, .bool false]) (by simp [results, Tryz.results44, go_sem, c0, c1, c2]) rfl ⟨_, _, _, rfl, HP.out, by repeat (first | with_reducible exact HBW.out | with_reducible refine Below.setCell ?_ (by first | omega | (simp; done) | (simp; omega)) _)⟩
          · have hm2 : lo + 1 ≤ 2533359615 := by omega
            clear hmx2
            have p0 : 0 ≤ lo + 1 := by omega
            cases mi
            · have HP := Lib.hid (show RndP num den false (aM (lo + 1)) (aE (lo + 1)) true from ⟨lo, HL.out, by rw [HEV.out, if_neg (by omega)]; exact ⟨rfl, rfl, rfl⟩⟩)
              go_wp2_with fail
              refine (rat_any (lo + 1) _ (by omega) (by omega)).mono ?_
              rintro r wa ⟨rfl, hba⟩
              have hbx := HBC.out.trans (hba.mono HBC.out.size)
              obtain ⟨⟨c0, c1, c2⟩, f0, f1, f2⟩ := HRR.out _ hbx
              have hmi := (HSB.out _ hbx).1
              have hz := (HSB.out _ hbx).2.1
              have HBW := Lib.hid (HSB.out _ hbx).2.2
              have HBX := Lib.hid hbx
              clear hba hbx hbc
              obtain ⟨xm, hxm⟩ : ∃ xm, xm = aM (lo + 1) := ⟨_, rfl⟩
              obtain ⟨xe, hxe⟩ : ∃ xe, xe = aE (lo + 1) := ⟨_, rfl⟩
              rw [← hxm, ← hxe]
              rw [← hxm, ← hxe] at HP
              have hz0 : w.heap.size < wa.heap.size := by omega
              clear hxm hxe
              go_wp2_with fail
              refine bodyPost_ret (v := .agg #[.int .i64 xm, .int .i64 xe, .bool true]) (by simp [results, Tryz.results44, go_sem, c0, c1, c2, hz]) rfl ⟨_, _, _, rfl, HP.out, by repeat (first | with_reducible exact HBW.out | with_reducible refine Below.setCell ?_ (by first | omega | (simp; done) | (simp; omega)) _ | with_reducible refine Below.alloc ?_ (by first | omega | (simp; done) | (simp; omega)) _)⟩
            · have HP := Lib.hid (show RndP num den true (aM (-(lo + 1))) (aE (-(lo + 1))) true from ⟨lo, HL.out, by rw [HEV.out, if_neg (by omega)]; exact ⟨rfl, rfl, rfl⟩⟩)
              go_wp2_with fail
              refine (rat_any (lo + 1) _ (by omega) (by omega)).mono ?_
              rintro r wa ⟨rfl, hba⟩
              have hbx := HBC.out.trans (hba.mono HBC.out.size)
              obtain ⟨⟨c0, c1, c2⟩, f0, f1, f2⟩ := HRR.out _ hbx
              have hmi := (HSB.out _ hbx).1
              have hz := (HSB.out _ hbx).2.1
              have HBW := Lib.hid (HSB.out _ hbx).2.2
              have HBX := Lib.hid hbx
              clear hba hbx hbc
              obtain ⟨xm, hxm⟩ : ∃ xm, xm = aM (lo + 1) := ⟨_, rfl⟩
              obtain ⟨xe, hxe⟩ : ∃ xe, xe = aE (lo + 1) := ⟨_, rfl⟩
              rw [← hxm, ← hxe]
              skip
              have hz0 : w.heap.size < wa.heap.size := by omega
              clear hxm hxe
              go_wp2_with fail
              refine (rat_any (-(lo + 1)) _ (by omega) (by omega)).mono ?_
              rintro r wb2 ⟨rfl, hbb⟩
              have y0 : wb2.cell? ⟨wa.heap.size, 0, none⟩ = some (.int .i64 xm) := carry hbb (by go_simp)
              have y1 : wb2.cell? ⟨wa.heap.size, 1, none⟩ = some (.int .i64 xe) := carry hbb (by go_simp)
              have g0 : wb2.frozen? ⟨wa.heap.size, 0, none⟩ = false := carryF hbb (v := .int .i64 xm) (by go_simp) (by go_simp)
              have g1 : wb2.frozen? ⟨wa.heap.size, 1, none⟩ = false := carryF hbb (v := .int .i64 xe) (by go_simp) (by go_simp)
              have yz : wa.heap.size < wb2.heap.size := by have := hbb.size; simp at this; omega
              have hb2x : Below wn.heap.size wn wb2 := (HBX.out.alloc HBX.out.size (.cells #[.int .i64 xm, .int .i64 xe] 23)).trans (hbb.mono (by have := HBX.out.size; simp; omega))
              obtain ⟨⟨c0, c1, c2⟩, f0, f1, f2⟩ := HRR.out _ hb2x
              have HBW2 := Lib.hid (HSB.out _ hb2x).2.2
              have hz2 := (HSB.out _ hb2x).2.1
              clear hbb hb2x
              obtain ⟨ym, hym⟩ : ∃ ym, ym = aM (-(lo + 1)) := ⟨_, rfl⟩
              obtain ⟨ye, hye⟩ : ∃ ye, ye = aE (-(lo + 1)) := ⟨_, rfl⟩
              rw [← hym, ← hye]
              rw [← hym, ← hye] at HP
              clear hym hye
              go_wp2_with fail
              refine bodyPost_ret (v := .agg #[.int .i64 ym, .int .i64 ye, .bool true]) (by simp [results, Tryz.results44, go_sem, c0, c1, c2]) rfl ⟨_, _, _, rfl, HP.out, by repeat (first | with_reducible exact HBW2.out | with_reducible refine Below.setCell ?_ (by first | omega | (simp; done) | (simp; omega)) _)⟩

end Go.Proofs.YticiabgnegbbmaaGreatDoor

namespace Go.Proofs.YticiabgnegbbmaaGreatDoor
open Go.RowKit
set_option linter.unusedVariables false

theorem sx_norm (r k : Nat) (h : r < 16777216) (hk : k = 0 ∨ 8388608 ≤ r) : sx ((r + k * 8388608 : Nat) : Int) = (k : Int) := by
  unfold sx ab
  (repeat' split) <;> omega
theorem aM_norm (r k : Nat) (h : r < 16777216) (hk : k = 0 ∨ 8388608 ≤ r) : aM ((r + k * 8388608 : Nat) : Int) = (r : Int) := by
  have hs := sx_norm r k h hk
  unfold aM
  split
  · omega
  · rw [if_neg (by omega), hs]
    unfold ab
    rw [if_neg (by omega)]
    omega
theorem hf_norm (r k : Nat) (h : r < 16777216) (hk : k = 0 ∨ 8388608 ≤ r) : Hf ((r + k * 8388608 : Nat) : Int) = (((2 * r + 1) * 2 ^ k : Nat) : Int) := by
  unfold Hf
  rw [sx_norm r k h hk, aM_norm r k h hk]
  simp
theorem hf_dec (i : Int) (h0 : 0 ≤ i) : ∃ r k : Nat, i = ((r + k * 8388608 : Nat) : Int) ∧ r < 16777216 ∧ (k = 0 ∨ 8388608 ≤ r) := by
  by_cases h : i < 16777216
  · exact ⟨i.toNat, 0, by omega, by omega, .inl rfl⟩
  · exact ⟨(i - (i / 8388608 - 1) * 8388608).toNat, (i / 8388608 - 1).toNat, by omega, by omega, .inr (by omega)⟩
theorem hf_step (i : Int) (h0 : 0 ≤ i) : Hf i < Hf (i + 1) := by
  obtain ⟨r, k, rfl, h1, h2⟩ := hf_dec i h0
  have hp : 0 < 2 ^ k := Nat.pow_pos (by decide)
  rw [hf_norm r k h1 h2]
  by_cases h : r + 1 < 16777216
  · rw [show (((r + k * 8388608 : Nat) : Int) + 1) = (((r + 1) + k * 8388608 : Nat) : Int) from by omega, hf_norm (r + 1) k h (by omega)]
    have := Nat.mul_lt_mul_of_pos_right (show 2 * r + 1 < 2 * (r + 1) + 1 by omega) hp
    omega
  · rw [show (((r + k * 8388608 : Nat) : Int) + 1) = ((8388608 + (k + 1) * 8388608 : Nat) : Int) from by omega, hf_norm 8388608 (k + 1) (by decide) (.inr (Nat.le_refl _)), Nat.pow_succ]
    have hr : r = 16777215 := by omega
    subst hr
    omega
theorem hf_mono' (n : Nat) : ∀ i : Int, 0 ≤ i → Hf i < Hf (i + (n + 1 : Nat)) := by
  induction n with
  | zero => intro i h; exact hf_step i h
  | succ n ih =>
    intro i h
    have h1 := ih i h
    have h2 := hf_step (i + (n + 1 : Nat)) (by omega)
    rw [show i + ((n + 1 + 1 : Nat) : Int) = i + (n + 1 : Nat) + 1 from by omega]
    omega
theorem hf_mono {i j : Int} (h0 : 0 ≤ i) (h : i < j) : Hf i < Hf j := by
  have := hf_mono' (j - i - 1).toNat i h0
  rw [show i + (((j - i - 1).toNat + 1 : Nat) : Int) = j from by omega] at this
  exact this

/-- the middles around what is rounded to -/
structure Mid (N q : Nat) (R : Nat) : Prop where
  hi : 2 * (N : Int) ≤ Hf R * 2 ^ q
  lo : R = 0 ∨ Hf ((R : Int) - 1) * 2 ^ q ≤ 2 * (N : Int)
  ti : 2 * (N : Int) = Hf R * 2 ^ q → aM R % 2 = 0
  tl : R ≠ 0 → Hf ((R : Int) - 1) * 2 ^ q = 2 * (N : Int) → aM ((R : Int) - 1) % 2 ≠ 0

theorem pq_cast (x k q P : Nat) (hP : P = 2 ^ (q + k)) : ((x * 2 ^ k : Nat) : Int) * 2 ^ q = ((x * P : Nat) : Int) := by
  have e5 : ((x * 2 ^ k : Nat) : Int) * 2 ^ q = ((x * 2 ^ k * 2 ^ q : Nat) : Int) := by rw [Int.natCast_mul (x * 2 ^ k), Int.natCast_pow]; rfl
  rw [e5, hP, Nat.pow_add, Nat.mul_assoc, Nat.mul_comm (2 ^ k)]

theorem up_mid (r k q P : Nat) (hP : P = 2 ^ (q + k)) (h1 : r ≤ 16777216) (hk : k = 0 ∨ 8388608 ≤ r) :
    (r < 16777216 ∧ Hf ((r + k * 8388608 : Nat) : Int) * 2 ^ q = (((2 * r + 1) * P : Nat) : Int) ∧ aM ((r + k * 8388608 : Nat) : Int) = r) ∨ (r = 16777216 ∧ Hf ((r + k * 8388608 : Nat) : Int) * 2 ^ q = ((33554434 * P : Nat) : Int)) := by
  have hc := fun x => pq_cast x k q P hP
  clear hP
  by_cases h : r < 16777216
  · left
    exact ⟨h, by rw [hf_norm r k h hk, hc], aM_norm r k h hk⟩
  · right
    have hr0 : r = 16777216 := by omega
    subst hr0
    refine ⟨rfl, ?_⟩
    have e : 16777216 + k * 8388608 = 8388608 + (k + 1) * 8388608 := by omega
    have e2 : (2 * 8388608 + 1) * (2 ^ k * 2) = 33554434 * 2 ^ k := by
      rw [Nat.mul_comm (2 ^ k) 2, ← Nat.mul_assoc]
    rw [e, hf_norm 8388608 (k + 1) (by decide) (.inr (Nat.le_refl _)), Nat.pow_succ, e2, hc]

theorem dn_mid (r k q P : Nat) (hP : P = 2 ^ (q + k)) (h1 : r ≤ 16777216) (hk : k = 0 ∨ 8388608 ≤ r) :
    (r = 0 ∧ k = 0) ∨ (0 < r ∧ Hf (((r + k * 8388608 : Nat) : Int) - 1) * 2 ^ q = (((2 * (r - 1) + 1) * P : Nat) : Int) ∧ aM (((r + k * 8388608 : Nat) : Int) - 1) = ((r - 1 : Nat) : Int)) ∨ (r = 8388608 ∧ k ≠ 0 ∧ 2 * (Hf (((r + k * 8388608 : Nat) : Int) - 1) * 2 ^ q) = ((33554431 * P : Nat) : Int)) := by
  by_cases h0 : r = 0
  · left
    exact ⟨h0, by omega⟩
  · right
    by_cases h1' : k = 0 ∨ 8388608 ≤ r - 1
    · left
      have hc := fun x => pq_cast x k q P hP
      clear hP
      have e : (((r + k * 8388608 : Nat) : Int) - 1) = (((r - 1) + k * 8388608 : Nat) : Int) := by omega
      refine ⟨by omega, ?_, ?_⟩
      · rw [e, hf_norm (r - 1) k (by omega) h1', hc]
      · rw [e, aM_norm (r - 1) k (by omega) h1']
    · right
      obtain ⟨j, rfl⟩ : ∃ j, k = j + 1 := by
        cases k with
        | zero => exact absurd (Or.inl rfl) h1'
        | succ j => exact ⟨j, rfl⟩
      have hP2 : P = 2 * 2 ^ (q + j) := by rw [hP, ← Nat.add_assoc, Nat.pow_succ, Nat.mul_comm]
      have hc := pq_cast 33554431 j q (2 ^ (q + j)) rfl
      clear hP
      have hr0 : r = 8388608 := by
        have : ¬ 8388608 ≤ r - 1 := fun h => h1' (.inr h)
        rcases hk with h | h
        · cases h
        · omega
      subst hr0
      refine ⟨rfl, Nat.succ_ne_zero j, ?_⟩
      have e : (((8388608 + (j + 1) * 8388608 : Nat) : Int) - 1) = ((16777215 + j * 8388608 : Nat) : Int) := by omega
      rw [e, hf_norm 16777215 j (by decide) (.inr (by decide)), show 2 * 16777215 + 1 = 33554431 from rfl, hc, hP2]
      generalize 2 ^ (q + j) = X
      omega

theorem mid_lin (N r a d P X Y U V Z k : Nat) (H1 G1 A1 B1 : Int) (hN : N = X + d) (hd : d < P) (e1 : U = 2 * Y + P) (e3 : 0 < r → V + P = 2 * Y)
    (hr : (r = a ∧ Y = X ∧ (2 * d < P ∨ 2 * d = P ∧ a % 2 = 0)) ∨ (r = a + 1 ∧ Y = X + P ∧ (P < 2 * d ∨ 2 * d = P ∧ a % 2 = 1)))
    (up : (H1 = (U : Int) ∧ A1 = (r : Int)) ∨ (r = a + 1 ∧ Y = 2 * Z ∧ H1 = ((4 * Z + 2 * P : Nat) : Int)))
    (dn : (r = 0 ∧ k = 0) ∨ (0 < r ∧ G1 = (V : Int) ∧ B1 = ((r - 1 : Nat) : Int)) ∨ (r = a ∧ Y = Z ∧ 2 * G1 + P = ((4 * Z : Nat) : Int))) :
    2 * (N : Int) ≤ H1 ∧ ((r = 0 ∧ k = 0) ∨ G1 ≤ 2 * (N : Int)) ∧ (2 * (N : Int) = H1 → A1 % 2 = 0) ∧ (¬ (r = 0 ∧ k = 0) → G1 = 2 * (N : Int) → B1 % 2 ≠ 0) := by
  refine ⟨?_, ?_, ?_, ?_⟩
  · clear dn e3
    rcases up with ⟨u, _⟩ | ⟨_, u0, u⟩ <;> omega
  · clear up e1
    rcases dn with h | ⟨v0, v, _⟩ | ⟨v0, v1, v⟩
    · exact .inl h
    · right; have := e3 v0; omega
    · right; clear e3; omega
  · clear dn e3
    intro h2
    rcases up with ⟨u, um⟩ | ⟨_, u0, u⟩ <;> omega
  · clear up e1
    intro h0 h2
    rcases dn with h | ⟨v0, v, vm⟩ | ⟨v0, v1, v⟩
    · exact absurd h h0
    · have := e3 v0; omega
    · clear e3; omega

theorem mid_mk (N q r k a d P : Nat) (hP : P = 2 ^ (q + k)) (hN : N = P * a + d) (hd : d < P) (ha : a < 16777216) (hk : k = 0 ∨ 8388608 ≤ a)
    (hr : (r = a ∧ (2 * d < P ∨ 2 * d = P ∧ a % 2 = 0)) ∨ (r = a + 1 ∧ (P < 2 * d ∨ 2 * d = P ∧ a % 2 = 1))) : Mid N q (r + k * 8388608) := by
  have hr1 : r ≤ 16777216 := by omega
  have hk1 : k = 0 ∨ 8388608 ≤ r := by omega
  have up := up_mid r k q P hP hr1 hk1
  have dn := dn_mid r k q P hP hr1 hk1
  clear hP
  rw [Nat.mul_comm P a] at hN
  have e1 : (2 * r + 1) * P = 2 * (r * P) + P := by rw [Nat.add_mul, Nat.one_mul, Nat.mul_assoc]
  have e3 : 0 < r → (2 * (r - 1) + 1) * P + P = 2 * (r * P) := fun h => by
    obtain ⟨j, rfl⟩ : ∃ j, r = j + 1 := ⟨r - 1, (Nat.succ_pred_eq_of_pos h).symm⟩
    rw [Nat.add_sub_cancel, Nat.add_mul, Nat.one_mul, Nat.mul_assoc, Nat.add_mul, Nat.one_mul, Nat.mul_add, Nat.two_mul P, Nat.add_assoc]
  have key := mid_lin N r a d P (a * P) (r * P) ((2 * r + 1) * P) ((2 * (r - 1) + 1) * P) (8388608 * P) k _ _ _ _ hN hd e1 e3
    (by
      rcases hr with ⟨h, h'⟩ | ⟨h, h'⟩
      · exact .inl ⟨h, by rw [h], h'⟩
      · exact .inr ⟨h, by rw [h, Nat.add_mul, Nat.one_mul], h'⟩)
    (by
      rcases up with ⟨_, u, um⟩ | ⟨u0, u⟩
      · exact .inl ⟨u, um⟩
      · refine .inr ⟨by clear dn e1 e3 hN u; omega, by rw [u0, ← Nat.mul_assoc], ?_⟩
        rw [u, ← Nat.mul_assoc, ← Nat.add_mul])
    (by
      rcases dn with h | h | ⟨v0, vk, v⟩
      · exact .inl h
      · exact .inr (.inl h)
      · by_cases hk0 : r = a
        · refine .inr (.inr ⟨hk0, by rw [v0], ?_⟩)
          rw [v, ← Int.natCast_add, ← Nat.mul_assoc]
          congr 1
          rw [show 4 * 8388608 = 33554431 + 1 from rfl, Nat.add_mul, Nat.one_mul]
        · refine .inr (.inl ⟨by rw [v0]; decide, ?_⟩)
          exfalso
          have hka : k = 0 ∨ r ≤ a := by rw [v0]; exact hk
          rcases hka with h0 | h0
          · exact vk h0
          · clear up e1 e3 hN v; omega)
  refine ⟨key.1, ?_, key.2.2.1, fun h0 => key.2.2.2 (fun h => h0 (by rw [h.1, h.2]))⟩
  rcases key.2.1 with h | h
  · exact .inl (by rw [h.1, h.2])
  · exact .inr h

theorem rr_mid (N q : Nat) : Mid N q (RR N q) := by
  have h1 := kk_lt N q
  have hP : (0 : Nat) < 2 ^ (q + kk N q) := Nat.pow_pos (by decide)
  have ha : N / 2 ^ (q + kk N q) < 16777216 := by
    rw [Nat.div_lt_iff_lt_mul hP]
    have e : (16777216 : Nat) * 2 ^ (q + kk N q) = 2 ^ (q + 24 + kk N q) := by rw [show q + 24 + kk N q = 24 + (q + kk N q) from by omega, Nat.pow_add 2 24]
    omega
  have hk : kk N q = 0 ∨ 8388608 ≤ N / 2 ^ (q + kk N q) := by
    by_cases h : kk N q = 0
    · exact .inl h
    · right
      have h5 := kk_ge N q (by omega)
      rw [Nat.le_div_iff_mul_le hP]
      have e : (8388608 : Nat) * 2 ^ (q + kk N q) = 2 ^ (q + 23 + kk N q) := by rw [show q + 23 + kk N q = 23 + (q + kk N q) from by omega, Nat.pow_add 2 23]
      omega
  unfold RR
  refine mid_mk N q _ (kk N q) (N / 2 ^ (q + kk N q)) (N % 2 ^ (q + kk N q)) (2 ^ (q + kk N q)) rfl (Nat.div_add_mod _ _).symm (Nat.mod_lt _ hP) ha hk ?_
  unfold rhe
  by_cases hs : q + kk N q = 0
  · rw [if_pos hs, hs]
    left
    simp [Nat.mod_one]
  · rw [if_neg hs]
    obtain ⟨j, hj⟩ : ∃ j, q + kk N q = j + 1 := ⟨q + kk N q - 1, by omega⟩
    rw [hj, show j + 1 - 1 = j from rfl]
    have e : (2 : Nat) ^ (j + 1) = 2 * 2 ^ j := by rw [Nat.pow_succ]; omega
    generalize N % 2 ^ (j + 1) = d at *
    generalize N / 2 ^ (j + 1) = a at *
    generalize (2 : Nat) ^ (j + 1) = P at *
    generalize (2 : Nat) ^ j = Q at *
    split
    · rename_i hc
      right
      omega
    · rename_i hc
      left
      omega

/-- the reference's index is the one that is rounded to -/
theorem lo_is {N q : Nat} {num den lo : Int} (hL : Lo num den lo) (hden : 0 < den) {R : Nat} (hM : Mid N q R) (hs : ∀ i, 0 ≤ i → (num * 2 ^ 151 ≤ Hf i * den ↔ 2 * (N : Int) ≤ Hf i * 2 ^ q) ∧ (Hf i * den = num * 2 ^ 151 ↔ 2 * (N : Int) = Hf i * 2 ^ q)) :
    ((R : Int) ≤ 2533359615 → ev num den lo = R) ∧ (2533359615 < (R : Int) → 2533359615 < ev num den lo) := by
  have hq : (0 : Int) < 2 ^ q := Int.pow_pos (by decide)
  have hmono : ∀ i j : Int, 0 ≤ i → i < j → Hf i * 2 ^ q < Hf j * 2 ^ q := fun i j h0 h => Int.mul_lt_mul_of_pos_right (hf_mono h0 h) hq
  have l1 := hL.nn
  have l2 := hL.le
  have low : lo = 0 ∨ Hf (lo - 1) * 2 ^ q < 2 * (N : Int) := by
    rcases hL.low with h | h
    · exact .inl h
    · by_cases h0 : lo = 0
      · exact .inl h0
      · right
        have := (hs (lo - 1) (by omega)).1
        omega
  have high : lo = 2533359616 ∨ 2 * (N : Int) ≤ Hf lo * 2 ^ q := by
    rcases hL.high with h | h
    · exact .inl h
    · right
      exact ((hs lo l1).1).1 h
  have tie := (hs lo l1).2
  have m1 := hM.hi
  -- lo is not above R
  have a1 : lo ≤ R := by
    rcases low with h | h
    · omega
    · by_cases hc : lo ≤ R
      · exact hc
      · by_cases he : lo - 1 = R
        · rw [he] at h; omega
        · have := hmono R (lo - 1) (by omega) (by omega); omega
  unfold ev
  by_cases hR0 : R = 0
  · subst hR0
    have hlo : lo = 0 := by omega
    subst hlo
    have : ¬ ((0 : Int) ≤ 2533359615 ∧ Hf 0 * den = num * 2 ^ 151 ∧ aM 0 % 2 ≠ 0) := by
      rintro ⟨_, _, h⟩; exact h rfl
    rw [if_neg this]
    exact ⟨fun _ => rfl, fun h => by simp at h⟩
  · have m2 : Hf ((R : Int) - 1) * 2 ^ q ≤ 2 * (N : Int) := by
      rcases hM.lo with h | h
      · exact absurd h hR0
      · exact h
    by_cases hc : lo = R
    · have hne : ¬ (lo ≤ 2533359615 ∧ Hf lo * den = num * 2 ^ 151 ∧ aM lo % 2 ≠ 0) := by
        rintro ⟨_, h2, h3⟩
        have := hM.ti (by rw [← hc]; exact tie.1 h2)
        rw [← hc] at this
        exact h3 this
      rw [if_neg hne]
      exact ⟨fun _ => hc, fun h => by omega⟩
    · rcases high with h | h
      · have hne : ¬ (lo ≤ 2533359615 ∧ Hf lo * den = num * 2 ^ 151 ∧ aM lo % 2 ≠ 0) := by rintro ⟨h1, _⟩; omega
        rw [if_neg hne]
        exact ⟨fun _ => by omega, fun _ => by omega⟩
      · have e1 : lo = (R : Int) - 1 := by
          by_cases he : lo = (R : Int) - 1
          · exact he
          · have := hmono lo ((R : Int) - 1) l1 (by omega); omega
        have e2 : Hf ((R : Int) - 1) * 2 ^ q = 2 * (N : Int) := by rw [← e1] at m2 ⊢; omega
        have e3 := hM.tl hR0 e2
        rw [← e1] at e2 e3
        by_cases hmx : lo ≤ 2533359615
        · rw [if_pos ⟨hmx, tie.2 e2.symm, e3⟩]
          exact ⟨fun _ => by omega, fun _ => by omega⟩
        · rw [if_neg (fun h => hmx h.1)]
          exact ⟨fun _ => by omega, fun _ => by omega⟩

end Go.Proofs.YticiabgnegbbmaaGreatDoor

namespace Go.Proofs.YticiabgnegbbmaaGreatDoor
open Go.RowKit
set_option linter.unusedVariables false

/-- a number stays one while a block is written that holds no integer -/
theorem NatIs.off {w w' : World} {v : Value} {n : Int} {B : Nat} (h : NatIs w v n) (hB : ∀ o k x, w.cell? ⟨B, o, none⟩ ≠ some (.int k x)) (hag : ∀ b o, b ≠ B → w'.cell? ⟨b, o, none⟩ = w.cell? ⟨b, o, none⟩) : NatIs w' v n := by
  obtain ⟨o, l, c, h1, h2, h3, h4, h5⟩ := h
  refine ⟨o, l, c, h1, h2, h3, ?_, h5⟩
  rcases h4 with h | ⟨b, off, he, hc⟩
  · exact .inl h
  · refine .inr ⟨b, off, he, fun i hi => ?_⟩
    rw [hag b _ (fun e => hB (off + i) _ _ (by rw [← e]; exact hc i hi))]
    exact hc i hi
theorem NatIs.form {w : World} {v : Value} {n : Int} (h : NatIs w v n) : ∃ o k c, v = .slice o k c := by
  obtain ⟨o, l, c, h1, _⟩ := h
  exact ⟨o, _, c, h1⟩
theorem no_ints {w : World} {B : Nat} {x0 x1 x2 : Value} {T : TypeId} (h : w.heap[B]? = some (.cells #[x0, x1, x2] T (0, 0))) (h0 : ∀ k x, x0 ≠ .int k x) (h1 : ∀ k x, x1 ≠ .int k x) (h2 : ∀ k x, x2 ≠ .int k x) : ∀ o k x, w.cell? ⟨B, o, none⟩ ≠ some (.int k x) := by
  intro o k x e
  simp only [World.cell?, h] at e
  rcases o with _ | _ | _ | o
  · simp at e; exact h0 _ _ e
  · simp at e; exact h1 _ _ e
  · simp at e; exact h2 _ _ e
  · simp at e

set_option maxRecDepth 100000 in
set_option maxHeartbeats 1600000 in
theorem of_pos (m e : Int) (n : Nat) (w : World) (m1 : 0 < m) (m2 : m ≤ 16777216) (e1 : -150 ≤ e) (e2 : e ≤ 150) (hn : n ≤ 400) (hne : e + 150 = (n : Int)) :
    Calls Tryz.prog 43 #[realV m e] w fun r w' => ∃ vn vd, r = .returned (.agg #[.bool false, vn, vd]) ∧ NatIs w' vn (m * 2 ^ n) ∧ NatIs w' vd (2 ^ 150) ∧ Below w.heap.size w w' := by
  have hw3 : IntKind.i64.wrap (e + 150) = (n : Int) := by rw [wrap64' _ (by omega) (by omega)]; omega
  have g0 : (m == 0) = false := beq_eq_false_iff_ne.2 (by omega)
  have g1 : ¬ m < 0 := by omega
  have HP2 := Lib.hid (pw_1000 (pw_big (n := n) (by omega)))
  have HP1 := Lib.hid (pw_5 (pw_small (show m ≤ 9223372036854775807 by omega)))
  have HSM := Lib.hid (fun W : World => small_any m W (by omega) (by omega))
  have HTW := Lib.hid (fun W : World => two_nat n W (by omega))
  obtain ⟨T2, hT2⟩ : ∃ T2 : Int, T2 = 2 ^ n := ⟨_, rfl⟩
  rw [← hT2] at HP2 HTW ⊢
  clear hne hT2
  go_enter Tryz.func43, Tryz.ntmps43
  go_wp2_with fail
  obtain ⟨wb, hW⟩ : ∃ wb, wb = (w.alloc (.cells #[.int .i64 m, .int .i64 e] 23)).alloc (.cells #[.bool false, .slice none 0 0, .slice none 0 0] 69) := ⟨_, rfl⟩
  rw [← hW]
  have hBB := Lib.hid (show Below w.heap.size w wb by rw [hW]; repeat (first | exact Below.refl _ _ | refine Below.alloc ?_ (by simp <;> omega) _))
  have b0 : wb.cell? ⟨w.heap.size, 0, none⟩ = some (.int .i64 m) := by rw [hW]; clear hW; go_simp
  have r0 : wb.cell? ⟨w.heap.size + 1, 0, none⟩ = some (.bool false) := by rw [hW]; clear hW; go_simp
  have r1 : wb.cell? ⟨w.heap.size + 1, 1, none⟩ = some (.slice none 0 0) := by rw [hW]; clear hW; go_simp
  have r2 : wb.cell? ⟨w.heap.size + 1, 2, none⟩ = some (.slice none 0 0) := by rw [hW]; clear hW; go_simp
  have rf0 : wb.frozen? ⟨w.heap.size + 1, 0, none⟩ = false := by rw [hW]; clear hW; go_simp
  have rf1 : wb.frozen? ⟨w.heap.size + 1, 1, none⟩ = false := by rw [hW]; clear hW; go_simp
  have rf2 : wb.frozen? ⟨w.heap.size + 1, 2, none⟩ = false := by rw [hW]; clear hW; go_simp
  have hzb : w.heap.size + 1 < wb.heap.size := by rw [hW]; simp
  have hbk : wb.heap[w.heap.size + 1]? = some (.cells #[.bool false, .slice none 0 0, .slice none 0 0] 69 (0, 0)) := by
    rw [hW]
    have := heap_alloc_new (w.alloc (.cells #[.int .i64 m, .int .i64 e] 23)) (.cells #[.bool false, .slice none 0 0, .slice none 0 0] 69)
    rwa [World.size_alloc] at this
  clear hW
  have hzl : w.heap.size + 1 ≤ wb.heap.size := Nat.le_of_lt hzb
  have HB0 := Lib.hid (Below.refl wb.heap.size wb)
  have HSK := Lib.hid (show ∀ wx, Below wb.heap.size wb wx → wx.cell? ⟨w.heap.size, 0, none⟩ = some (.int .i64 m) ∧ w.heap.size + 1 < wx.heap.size from fun wx h => ⟨carry h b0, Nat.lt_of_lt_of_le hzb h.size⟩)
  have HRB := Lib.hid (show ∀ wx, Below wb.heap.size wb wx → (wx.cell? ⟨w.heap.size + 1, 0, none⟩ = some (.bool false) ∧ wx.cell? ⟨w.heap.size + 1, 1, none⟩ = some (.slice none 0 0) ∧ wx.cell? ⟨w.heap.size + 1, 2, none⟩ = some (.slice none 0 0)) ∧ (wx.frozen? ⟨w.heap.size + 1, 0, none⟩ = false ∧ wx.frozen? ⟨w.heap.size + 1, 1, none⟩ = false ∧ wx.frozen? ⟨w.heap.size + 1, 2, none⟩ = false) from fun wx h => ⟨⟨carry h r0, carry h r1, carry h r2⟩, carryF h (v := .bool false) r0 rf0, carryF h (v := .slice none 0 0) r1 rf1, carryF h (v := .slice none 0 0) r2 rf2⟩)
  have HNI := Lib.hid (show ∀ wx, Below wb.heap.size wb wx → ∀ o k x, wx.cell? ⟨w.heap.size + 1, o, none⟩ ≠ some (.int k x) from fun wx h => no_ints ((h.block _ hzb).trans hbk) (fun _ _ e => by cases e) (fun _ _ e => by cases e) (fun _ _ e => by cases e))
  clear r0 r1 r2 rf0 rf1 rf2 hbk
  go_region_held3 (fun wx => wx.cell? ⟨w.heap.size, 0, none⟩ = some (.int .i64 m) ∧ w.heap.size + 1 < wx.heap.size ∧ Below (w.heap.size + 1) wb wx) (first | (go_keep; done) | (refine ⟨?_, ?_, ?_⟩ <;> first | with_reducible assumption | exact (HSK.out _ (by first | with_reducible assumption | with_reducible exact HB0.out | with_reducible exact HB0.out.drew | with_reducible exact Below.drew (by with_reducible assumption))).1 | exact (HSK.out _ (by first | with_reducible assumption | with_reducible exact HB0.out | with_reducible exact HB0.out.drew | with_reducible exact Below.drew (by with_reducible assumption))).2 | exact Below.mono (by first | with_reducible assumption | with_reducible exact HB0.out | with_reducible exact HB0.out.drew | with_reducible exact Below.drew (by with_reducible assumption)) hzl | (go_simp; done) | (exact Below.setCell (p := ⟨w.heap.size + 1, 2, none⟩) (Below.setCell (p := ⟨w.heap.size + 1, 1, none⟩) (Below.setCell (p := ⟨w.heap.size + 1, 0, none⟩) (Below.mono (by first | with_reducible assumption | with_reducible exact HB0.out | with_reducible exact HB0.out.drew | with_reducible exact Below.drew (by with_reducible assumption)) hzl) (Nat.le_refl _) _) (Nat.le_refl _) _) (Nat.le_refl _) _)))
    (first
      | (go_at_call 66; ((with_reducible refine (HSM.out _).mono ?_); rintro r wq ⟨vs, rfl, hvs, hbq⟩; have qb : Below wb.heap.size wb wq := Below.trans (by first | with_reducible assumption | with_reducible exact HB0.out | with_reducible exact HB0.out.drew | with_reducible exact Below.drew (by with_reducible assumption)) (hbq.mono (Below.size (by first | with_reducible assumption | with_reducible exact HB0.out | with_reducible exact HB0.out.drew | with_reducible exact Below.drew (by with_reducible assumption))))))
      | (go_at_call 67; ((with_reducible refine (two_150 _).mono ?_); rintro r wq ⟨vd, rfl, hvd, hbq⟩; obtain ⟨dO, dK, dC, rfl⟩ := NatIs.form hvd; have qb : Below wb.heap.size wb wq := Below.trans (by first | with_reducible assumption | with_reducible exact HB0.out | with_reducible exact HB0.out.drew | with_reducible exact Below.drew (by with_reducible assumption)) (hbq.mono (Below.size (by first | with_reducible assumption | with_reducible exact HB0.out | with_reducible exact HB0.out.drew | with_reducible exact Below.drew (by with_reducible assumption)))); have hvp2 := NatIs.below hvp hbq; obtain ⟨⟨q0, q1, q2⟩, qf0, qf1, qf2⟩ := HRB.out _ qb; obtain ⟨qk, qz⟩ := HSK.out _ qb))
      | (go_at_call 67; ((with_reducible refine (HTW.out _).mono ?_); rintro r wq ⟨vt, rfl, hvt, hbq⟩; have qb : Below wb.heap.size wb wq := Below.trans (by first | with_reducible assumption | with_reducible exact HB0.out | with_reducible exact HB0.out.drew | with_reducible exact Below.drew (by with_reducible assumption)) (hbq.mono (Below.size (by first | with_reducible assumption | with_reducible exact HB0.out | with_reducible exact HB0.out.drew | with_reducible exact Below.drew (by with_reducible assumption)))); have hvs2 := NatIs.below hvs hbq))
      | (go_at_call 65; ((refine (mul_nat vs vt m T2 _ (by first | with_reducible assumption | exact hvs2) (by first | with_reducible assumption | exact hvt) HP1.out HP2.out).mono ?_); rintro r wq ⟨vp, rfl, hvp, hbq⟩; obtain ⟨pO, pK, pC, rfl⟩ := NatIs.form hvp; have qb : Below wb.heap.size wb wq := Below.trans (by first | with_reducible assumption | with_reducible exact HB0.out | with_reducible exact HB0.out.drew | with_reducible exact Below.drew (by with_reducible assumption)) (hbq.mono (Below.size (by first | with_reducible assumption | with_reducible exact HB0.out | with_reducible exact HB0.out.drew | with_reducible exact Below.drew (by with_reducible assumption)))))))
  have hBE := Lib.hid (show Below w.heap.size w _ from hBB.out.trans (Below.mono (Below.setCell (p := ⟨w.heap.size + 1, 2, none⟩) (Below.setCell (p := ⟨w.heap.size + 1, 1, none⟩) (Below.setCell (p := ⟨w.heap.size + 1, 0, none⟩) (Below.mono qb hzl) (Nat.le_refl _) (.bool (decide (m < 0)))) (Nat.le_refl _) (.slice pO pK pC)) (Nat.le_refl _) (.slice dO dK dC)) (Nat.le_succ _)))
  have HNQ := HNI.out _ qb
  have hag : ∀ b o, b ≠ w.heap.size + 1 → (((wq.setCell ⟨w.heap.size + 1, 0, none⟩ (.bool (decide (m < 0)))).setCell ⟨w.heap.size + 1, 1, none⟩ (.slice pO pK pC)).setCell ⟨w.heap.size + 1, 2, none⟩ (.slice dO dK dC)).cell? ⟨b, o, none⟩ = wq.cell? ⟨b, o, none⟩ := fun b o hb => by
    have hb' : w.heap.size + 1 ≠ b := fun e => hb e.symm
    exact (World.cell?_setCell_far _ _ _ _ hb').trans ((World.cell?_setCell_far _ _ _ _ hb').trans (World.cell?_setCell_far _ _ _ _ hb'))
  have HV1 := Lib.hid (NatIs.off hvp2 HNQ hag)
  have HV2 := Lib.hid (NatIs.off hvd HNQ hag)
  clear hag HNQ
  go_wp2_with fail
  refine bodyPost_ret (v := .agg #[.bool (decide (m < 0)), .slice pO pK pC, .slice dO dK dC]) ?_ rfl ?_
  · simp [results, Tryz.results43, go_sem, q0, q1, q2]
  · exact ⟨_, _, (by rw [show decide (m < 0) = false from by simp; omega]), HV1.out, HV2.out, hBE.out⟩

set_option maxRecDepth 100000 in
set_option maxHeartbeats 1600000 in
theorem of_zero (w : World) :
    Calls Tryz.prog 43 #[realV 0 0] w fun r w' => ∃ vn vd, r = .returned (.agg #[.bool false, vn, vd]) ∧ NatIs w' vn (0) ∧ NatIs w' vd (2 ^ 150) ∧ Below w.heap.size w w' := by
  have hw3 : IntKind.i64.wrap 0 = 0 := by decide
  have HP2 := Lib.hid (show (2 ^ 0 : Int) < pw 1000 from pw_5 (pw_small (by decide)))
  have HP1 := Lib.hid (show (0 : Int) < pw 1000 from pw_5 (pw_small (by decide)))
  have HSM := Lib.hid (fun W : World => small_any 0 W (by decide) (by decide))
  have HTW := Lib.hid (fun W : World => two_zero W)
  go_enter Tryz.func43, Tryz.ntmps43
  go_wp2_with fail
  obtain ⟨wb, hW⟩ : ∃ wb, wb = (w.alloc (.cells #[.int .i64 0, .int .i64 0] 23)).alloc (.cells #[.bool false, .slice none 0 0, .slice none 0 0] 69) := ⟨_, rfl⟩
  rw [← hW]
  have hBB := Lib.hid (show Below w.heap.size w wb by rw [hW]; repeat (first | exact Below.refl _ _ | refine Below.alloc ?_ (by simp <;> omega) _))
  have b0 : wb.cell? ⟨w.heap.size, 0, none⟩ = some (.int .i64 0) := by rw [hW]; clear hW; go_simp
  have r0 : wb.cell? ⟨w.heap.size + 1, 0, none⟩ = some (.bool false) := by rw [hW]; clear hW; go_simp
  have r1 : wb.cell? ⟨w.heap.size + 1, 1, none⟩ = some (.slice none 0 0) := by rw [hW]; clear hW; go_simp
  have r2 : wb.cell? ⟨w.heap.size + 1, 2, none⟩ = some (.slice none 0 0) := by rw [hW]; clear hW; go_simp
  have rf0 : wb.frozen? ⟨w.heap.size + 1, 0, none⟩ = false := by rw [hW]; clear hW; go_simp
  have rf1 : wb.frozen? ⟨w.heap.size + 1, 1, none⟩ = false := by rw [hW]; clear hW; go_simp
  have rf2 : wb.frozen? ⟨w.heap.size + 1, 2, none⟩ = false := by rw [hW]; clear hW; go_simp
  have hzb : w.heap.size + 1 < wb.heap.size := by rw [hW]; simp
  have hbk : wb.heap[w.heap.size + 1]? = some (.cells #[.bool false, .slice none 0 0, .slice none 0 0] 69 (0, 0)) := by
    rw [hW]
    have := heap_alloc_new (w.alloc (.cells #[.int .i64 0, .int .i64 0] 23)) (.cells #[.bool false, .slice none 0 0, .slice none 0 0] 69)
    rwa [World.size_alloc] at this
  clear hW
  have hzl : w.heap.size + 1 ≤ wb.heap.size := Nat.le_of_lt hzb
  have HB0 := Lib.hid (Below.refl wb.heap.size wb)
  have HSK := Lib.hid (show ∀ wx, Below wb.heap.size wb wx → wx.cell? ⟨w.heap.size, 0, none⟩ = some (.int .i64 0) ∧ w.heap.size + 1 < wx.heap.size from fun wx h => ⟨carry h b0, Nat.lt_of_lt_of_le hzb h.size⟩)
  have HRB := Lib.hid (show ∀ wx, Below wb.heap.size wb wx → (wx.cell? ⟨w.heap.size + 1, 0, none⟩ = some (.bool false) ∧ wx.cell? ⟨w.heap.size + 1, 1, none⟩ = some (.slice none 0 0) ∧ wx.cell? ⟨w.heap.size + 1, 2, none⟩ = some (.slice none 0 0)) ∧ (wx.frozen? ⟨w.heap.size + 1, 0, none⟩ = false ∧ wx.frozen? ⟨w.heap.size + 1, 1, none⟩ = false ∧ wx.frozen? ⟨w.heap.size + 1, 2, none⟩ = false) from fun wx h => ⟨⟨carry h r0, carry h r1, carry h r2⟩, carryF h (v := .bool false) r0 rf0, carryF h (v := .slice none 0 0) r1 rf1, carryF h (v := .slice none 0 0) r2 rf2⟩)
  have HNI := Lib.hid (show ∀ wx, Below wb.heap.size wb wx → ∀ o k x, wx.cell? ⟨w.heap.size + 1, o, none⟩ ≠ some (.int k x) from fun wx h => no_ints ((h.block _ hzb).trans hbk) (fun _ _ e => by cases e) (fun _ _ e => by cases e) (fun _ _ e => by cases e))
  clear r0 r1 r2 rf0 rf1 rf2 hbk
  go_region_held3 (fun wx => wx.cell? ⟨w.heap.size, 0, none⟩ = some (.int .i64 0) ∧ w.heap.size + 1 < wx.heap.size ∧ Below (w.heap.size + 1) wb wx) (first | (go_keep; done) | (refine ⟨?_, ?_, ?_⟩ <;> first | with_reducible assumption | exact (HSK.out _ (by first | with_reducible assumption | with_reducible exact HB0.out | with_reducible exact HB0.out.drew | with_reducible exact Below.drew (by with_reducible assumption))).1 | exact (HSK.out _ (by first | with_reducible assumption | with_reducible exact HB0.out | with_reducible exact HB0.out.drew | with_reducible exact Below.drew (by with_reducible assumption))).2 | exact Below.mono (by first | with_reducible assumption | with_reducible exact HB0.out | with_reducible exact HB0.out.drew | with_reducible exact Below.drew (by with_reducible assumption)) hzl | (go_simp; done) | (exact Below.setCell (p := ⟨w.heap.size + 1, 2, none⟩) (Below.setCell (p := ⟨w.heap.size + 1, 1, none⟩) (Below.setCell (p := ⟨w.heap.size + 1, 0, none⟩) (Below.mono (by first | with_reducible assumption | with_reducible exact HB0.out | with_reducible exact HB0.out.drew | with_reducible exact Below.drew (by with_reducible assumption)) hzl) (Nat.le_refl _) _) (Nat.le_refl _) _) (Nat.le_refl _) _)))
    (first
      | (go_at_call 66; ((with_reducible refine (HSM.out _).mono ?_); rintro r wq ⟨vs, rfl, hvs, hbq⟩; have qb : Below wb.heap.size wb wq := Below.trans (by first | with_reducible assumption | with_reducible exact HB0.out | with_reducible exact HB0.out.drew | with_reducible exact Below.drew (by with_reducible assumption)) (hbq.mono (Below.size (by first | with_reducible assumption | with_reducible exact HB0.out | with_reducible exact HB0.out.drew | with_reducible exact Below.drew (by with_reducible assumption))))))
      | (go_at_call 67; ((with_reducible refine (two_150 _).mono ?_); rintro r wq ⟨vd, rfl, hvd, hbq⟩; obtain ⟨dO, dK, dC, rfl⟩ := NatIs.form hvd; have qb : Below wb.heap.size wb wq := Below.trans (by first | with_reducible assumption | with_reducible exact HB0.out | with_reducible exact HB0.out.drew | with_reducible exact Below.drew (by with_reducible assumption)) (hbq.mono (Below.size (by first | with_reducible assumption | with_reducible exact HB0.out | with_reducible exact HB0.out.drew | with_reducible exact Below.drew (by with_reducible assumption)))); have hvp2 := NatIs.below hvp hbq; obtain ⟨⟨q0, q1, q2⟩, qf0, qf1, qf2⟩ := HRB.out _ qb; obtain ⟨qk, qz⟩ := HSK.out _ qb))
      | (go_at_call 67; ((with_reducible refine (HTW.out _).mono ?_); rintro r wq ⟨vt, rfl, hvt, hbq⟩; have qb : Below wb.heap.size wb wq := Below.trans (by first | with_reducible assumption | with_reducible exact HB0.out | with_reducible exact HB0.out.drew | with_reducible exact Below.drew (by with_reducible assumption)) (hbq.mono (Below.size (by first | with_reducible assumption | with_reducible exact HB0.out | with_reducible exact HB0.out.drew | with_reducible exact Below.drew (by with_reducible assumption)))); have hvs2 := NatIs.below hvs hbq))
      | (go_at_call 65; ((refine (mul_nat vs vt 0 (2 ^ 0) _ (by first | with_reducible assumption | exact hvs2) (by first | with_reducible assumption | exact hvt) HP1.out HP2.out).mono ?_); rintro r wq ⟨vp, rfl, hvp, hbq⟩; obtain ⟨pO, pK, pC, rfl⟩ := NatIs.form hvp; have qb : Below wb.heap.size wb wq := Below.trans (by first | with_reducible assumption | with_reducible exact HB0.out | with_reducible exact HB0.out.drew | with_reducible exact Below.drew (by with_reducible assumption)) (hbq.mono (Below.size (by first | with_reducible assumption | with_reducible exact HB0.out | with_reducible exact HB0.out.drew | with_reducible exact Below.drew (by with_reducible assumption)))))))
  have hBE := Lib.hid (show Below w.heap.size w _ from hBB.out.trans (Below.mono (Below.setCell (p := ⟨w.heap.size + 1, 2, none⟩) (Below.setCell (p := ⟨w.heap.size + 1, 1, none⟩) (Below.setCell (p := ⟨w.heap.size + 1, 0, none⟩) (Below.mono qb hzl) (Nat.le_refl _) (.bool false)) (Nat.le_refl _) (.slice pO pK pC)) (Nat.le_refl _) (.slice dO dK dC)) (Nat.le_succ _)))
  have HNQ := HNI.out _ qb
  have hag : ∀ b o, b ≠ w.heap.size + 1 → (((wq.setCell ⟨w.heap.size + 1, 0, none⟩ (.bool false)).setCell ⟨w.heap.size + 1, 1, none⟩ (.slice pO pK pC)).setCell ⟨w.heap.size + 1, 2, none⟩ (.slice dO dK dC)).cell? ⟨b, o, none⟩ = wq.cell? ⟨b, o, none⟩ := fun b o hb => by
    have hb' : w.heap.size + 1 ≠ b := fun e => hb e.symm
    exact (World.cell?_setCell_far _ _ _ _ hb').trans ((World.cell?_setCell_far _ _ _ _ hb').trans (World.cell?_setCell_far _ _ _ _ hb'))
  have HV1 := Lib.hid (NatIs.off hvp2 HNQ hag)
  have HV2 := Lib.hid (NatIs.off hvd HNQ hag)
  clear hag HNQ
  go_wp2_with fail
  refine bodyPost_ret (v := .agg #[.bool false, .slice pO pK pC, .slice dO dK dC]) ?_ rfl ?_
  · simp [results, Tryz.results43, go_sem, q0, q1, q2]
  · exact ⟨_, _, rfl, HV1.out, HV2.out, hBE.out⟩

set_option maxRecDepth 100000 in
set_option maxHeartbeats 1600000 in
theorem of_neg (m e : Int) (n : Nat) (w : World) (m1 : -16777216 ≤ m) (m2 : m < 0) (e1 : -150 ≤ e) (e2 : e ≤ 150) (hn : n ≤ 400) (hne : e + 150 = (n : Int)) :
    Calls Tryz.prog 43 #[realV m e] w fun r w' => ∃ vn vd, r = .returned (.agg #[.bool true, vn, vd]) ∧ NatIs w' vn ((-m) * 2 ^ n) ∧ NatIs w' vd (2 ^ 150) ∧ Below w.heap.size w w' := by
  have hw3 : IntKind.i64.wrap (e + 150) = (n : Int) := by rw [wrap64' _ (by omega) (by omega)]; omega
  have g0 : ((-m) == 0) = false := beq_eq_false_iff_ne.2 (by omega)
  have g1 : m < 0 := by omega
  have HP2 := Lib.hid (pw_1000 (pw_big (n := n) (by omega)))
  have HP1 := Lib.hid (pw_5 (pw_small (show (-m) ≤ 9223372036854775807 by omega)))
  have HSM := Lib.hid (fun W : World => small_any (-m) W (by omega) (by omega))
  have HTW := Lib.hid (fun W : World => two_nat n W (by omega))
  obtain ⟨T2, hT2⟩ : ∃ T2 : Int, T2 = 2 ^ n := ⟨_, rfl⟩
  rw [← hT2] at HP2 HTW ⊢
  clear hne hT2
  obtain ⟨am, ham⟩ : ∃ am, am = -m := ⟨_, rfl⟩
  have hwn : IntKind.i64.wrap (-m) = am := by rw [wrap64' _ (by omega) (by omega)]; exact ham.symm
  have hwn2 : -m = am := ham.symm
  rw [← ham] at HP1 HSM g0 ⊢
  clear ham
  go_enter Tryz.func43, Tryz.ntmps43
  go_wp2_with fail
  obtain ⟨wb, hW⟩ : ∃ wb, wb = (w.alloc (.cells #[.int .i64 m, .int .i64 e] 23)).alloc (.cells #[.bool false, .slice none 0 0, .slice none 0 0] 69) := ⟨_, rfl⟩
  rw [← hW]
  have hBB := Lib.hid (show Below w.heap.size w wb by rw [hW]; repeat (first | exact Below.refl _ _ | refine Below.alloc ?_ (by simp <;> omega) _))
  have b0 : wb.cell? ⟨w.heap.size, 0, none⟩ = some (.int .i64 m) := by rw [hW]; clear hW; go_simp
  have r0 : wb.cell? ⟨w.heap.size + 1, 0, none⟩ = some (.bool false) := by rw [hW]; clear hW; go_simp
  have r1 : wb.cell? ⟨w.heap.size + 1, 1, none⟩ = some (.slice none 0 0) := by rw [hW]; clear hW; go_simp
  have r2 : wb.cell? ⟨w.heap.size + 1, 2, none⟩ = some (.slice none 0 0) := by rw [hW]; clear hW; go_simp
  have rf0 : wb.frozen? ⟨w.heap.size + 1, 0, none⟩ = false := by rw [hW]; clear hW; go_simp
  have rf1 : wb.frozen? ⟨w.heap.size + 1, 1, none⟩ = false := by rw [hW]; clear hW; go_simp
  have rf2 : wb.frozen? ⟨w.heap.size + 1, 2, none⟩ = false := by rw [hW]; clear hW; go_simp
  have hzb : w.heap.size + 1 < wb.heap.size := by rw [hW]; simp
  have hbk : wb.heap[w.heap.size + 1]? = some (.cells #[.bool false, .slice none 0 0, .slice none 0 0] 69 (0, 0)) := by
    rw [hW]
    have := heap_alloc_new (w.alloc (.cells #[.int .i64 m, .int .i64 e] 23)) (.cells #[.bool false, .slice none 0 0, .slice none 0 0] 69)
    rwa [World.size_alloc] at this
  clear hW
  have hzl : w.heap.size + 1 ≤ wb.heap.size := Nat.le_of_lt hzb
  have HB0 := Lib.hid (Below.refl wb.heap.size wb)
  have HSK := Lib.hid (show ∀ wx, Below wb.heap.size wb wx → wx.cell? ⟨w.heap.size, 0, none⟩ = some (.int .i64 m) ∧ w.heap.size + 1 < wx.heap.size from fun wx h => ⟨carry h b0, Nat.lt_of_lt_of_le hzb h.size⟩)
  have HRB := Lib.hid (show ∀ wx, Below wb.heap.size wb wx → (wx.cell? ⟨w.heap.size + 1, 0, none⟩ = some (.bool false) ∧ wx.cell? ⟨w.heap.size + 1, 1, none⟩ = some (.slice none 0 0) ∧ wx.cell? ⟨w.heap.size + 1, 2, none⟩ = some (.slice none 0 0)) ∧ (wx.frozen? ⟨w.heap.size + 1, 0, none⟩ = false ∧ wx.frozen? ⟨w.heap.size + 1, 1, none⟩ = false ∧ wx.frozen? ⟨w.heap.size + 1, 2, none⟩ = false) from fun wx h => ⟨⟨carry h r0, carry h r1, carry h r2⟩, carryF h (v := .bool false) r0 rf0, carryF h (v := .slice none 0 0) r1 rf1, carryF h (v := .slice none 0 0) r2 rf2⟩)
  have HNI := Lib.hid (show ∀ wx, Below wb.heap.size wb wx → ∀ o k x, wx.cell? ⟨w.heap.size + 1, o, none⟩ ≠ some (.int k x) from fun wx h => no_ints ((h.block _ hzb).trans hbk) (fun _ _ e => by cases e) (fun _ _ e => by cases e) (fun _ _ e => by cases e))
  clear r0 r1 r2 rf0 rf1 rf2 hbk
  go_region_held3 (fun wx => wx.cell? ⟨w.heap.size, 0, none⟩ = some (.int .i64 m) ∧ w.heap.size + 1 < wx.heap.size ∧ Below (w.heap.size + 1) wb wx) (first | (go_keep; done) | (refine ⟨?_, ?_, ?_⟩ <;> first | with_reducible assumption | exact (HSK.out _ (by first | with_reducible assumption | with_reducible exact HB0.out | with_reducible exact HB0.out.drew | with_reducible exact Below.drew (by with_reducible assumption))).1 | exact (HSK.out _ (by first | with_reducible assumption | with_reducible exact HB0.out | with_reducible exact HB0.out.drew | with_reducible exact Below.drew (by with_reducible assumption))).2 | exact Below.mono (by first | with_reducible assumption | with_reducible exact HB0.out | with_reducible exact HB0.out.drew | with_reducible exact Below.drew (by with_reducible assumption)) hzl | (go_simp; done) | (exact Below.setCell (p := ⟨w.heap.size + 1, 2, none⟩) (Below.setCell (p := ⟨w.heap.size + 1, 1, none⟩) (Below.setCell (p := ⟨w.heap.size + 1, 0, none⟩) (Below.mono (by first | with_reducible assumption | with_reducible exact HB0.out | with_reducible exact HB0.out.drew | with_reducible exact Below.drew (by with_reducible assumption)) hzl) (Nat.le_refl _) _) (Nat.le_refl _) _) (Nat.le_refl _) _)))
    (first
      | (go_at_call 66; ((with_reducible refine (HSM.out _).mono ?_); rintro r wq ⟨vs, rfl, hvs, hbq⟩; have qb : Below wb.heap.size wb wq := Below.trans (by first | with_reducible assumption | with_reducible exact HB0.out | with_reducible exact HB0.out.drew | with_reducible exact Below.drew (by with_reducible assumption)) (hbq.mono (Below.size (by first | with_reducible assumption | with_reducible exact HB0.out | with_reducible exact HB0.out.drew | with_reducible exact Below.drew (by with_reducible assumption))))))
      | (go_at_call 67; ((with_reducible refine (two_150 _).mono ?_); rintro r wq ⟨vd, rfl, hvd, hbq⟩; obtain ⟨dO, dK, dC, rfl⟩ := NatIs.form hvd; have qb : Below wb.heap.size wb wq := Below.trans (by first | with_reducible assumption | with_reducible exact HB0.out | with_reducible exact HB0.out.drew | with_reducible exact Below.drew (by with_reducible assumption)) (hbq.mono (Below.size (by first | with_reducible assumption | with_reducible exact HB0.out | with_reducible exact HB0.out.drew | with_reducible exact Below.drew (by with_reducible assumption)))); have hvp2 := NatIs.below hvp hbq; obtain ⟨⟨q0, q1, q2⟩, qf0, qf1, qf2⟩ := HRB.out _ qb; obtain ⟨qk, qz⟩ := HSK.out _ qb))
      | (go_at_call 67; ((with_reducible refine (HTW.out _).mono ?_); rintro r wq ⟨vt, rfl, hvt, hbq⟩; have qb : Below wb.heap.size wb wq := Below.trans (by first | with_reducible assumption | with_reducible exact HB0.out | with_reducible exact HB0.out.drew | with_reducible exact Below.drew (by with_reducible assumption)) (hbq.mono (Below.size (by first | with_reducible assumption | with_reducible exact HB0.out | with_reducible exact HB0.out.drew | with_reducible exact Below.drew (by with_reducible assumption)))); have hvs2 := NatIs.below hvs hbq))
      | (go_at_call 65; ((refine (mul_nat vs vt am T2 _ (by first | with_reducible assumption | exact hvs2) (by first | with_reducible assumption | exact hvt) HP1.out HP2.out).mono ?_); rintro r wq ⟨vp, rfl, hvp, hbq⟩; obtain ⟨pO, pK, pC, rfl⟩ := NatIs.form hvp; have qb : Below wb.heap.size wb wq := Below.trans (by first | with_reducible assumption | with_reducible exact HB0.out | with_reducible exact HB0.out.drew | with_reducible exact Below.drew (by with_reducible assumption)) (hbq.mono (Below.size (by first | with_reducible assumption | with_reducible exact HB0.out | with_reducible exact HB0.out.drew | with_reducible exact Below.drew (by with_reducible assumption)))))))
  have hBE := Lib.hid (show Below w.heap.size w _ from hBB.out.trans (Below.mono (Below.setCell (p := ⟨w.heap.size + 1, 2, none⟩) (Below.setCell (p := ⟨w.heap.size + 1, 1, none⟩) (Below.setCell (p := ⟨w.heap.size + 1, 0, none⟩) (Below.mono qb hzl) (Nat.le_refl _) (.bool true)) (Nat.le_refl _) (.slice pO pK pC)) (Nat.le_refl _) (.slice dO dK dC)) (Nat.le_succ _)))
  have HNQ := HNI.out _ qb
  have hag : ∀ b o, b ≠ w.heap.size + 1 → (((wq.setCell ⟨w.heap.size + 1, 0, none⟩ (.bool true)).setCell ⟨w.heap.size + 1, 1, none⟩ (.slice pO pK pC)).setCell ⟨w.heap.size + 1, 2, none⟩ (.slice dO dK dC)).cell? ⟨b, o, none⟩ = wq.cell? ⟨b, o, none⟩ := fun b o hb => by
    have hb' : w.heap.size + 1 ≠ b := fun e => hb e.symm
    exact (World.cell?_setCell_far _ _ _ _ hb').trans ((World.cell?_setCell_far _ _ _ _ hb').trans (World.cell?_setCell_far _ _ _ _ hb'))
  have HV1 := Lib.hid (NatIs.off hvp2 HNQ hag)
  have HV2 := Lib.hid (NatIs.off hvd HNQ hag)
  clear hag HNQ
  go_wp2_with fail
  refine bodyPost_ret (v := .agg #[.bool true, .slice pO pK pC, .slice dO dK dC]) ?_ rfl ?_
  · simp [results, Tryz.results43, go_sem, q0, q1, q2]
  · exact ⟨_, _, rfl, HV1.out, HV2.out, hBE.out⟩

end Go.Proofs.YticiabgnegbbmaaGreatDoor

namespace Go.Proofs.YticiabgnegbbmaaGreatDoor
open Go.RowKit
set_option linter.unusedVariables false

theorem of_any (m e : Int) (w : World) (h : vr m e = true) :
    Calls Tryz.prog 43 #[realV m e] w fun r w' => ∃ o1 k1 c1 o2 k2 c2, r = .returned (.agg #[.bool (decide (m < 0)), .slice o1 k1 c1, .slice o2 k2 c2]) ∧ NatIs w' (.slice o1 k1 c1) (ab (UU m e)) ∧ NatIs w' (.slice o2 k2 c2) (2 ^ 150) ∧ Below w.heap.size w w' := by
  obtain ⟨b1, b2, b3, b4⟩ := vr_bd h
  have T : ∀ (b : Bool) (n : Int), decide (m < 0) = b → ab (UU m e) = n → ∀ r (w' : World), (∃ vn vd, r = Ending.returned (.agg #[.bool b, vn, vd]) ∧ NatIs w' vn n ∧ NatIs w' vd (2 ^ 150) ∧ Below w.heap.size w w') → ∃ o1 k1 c1 o2 k2 c2, r = Ending.returned (.agg #[.bool (decide (m < 0)), .slice o1 k1 c1, .slice o2 k2 c2]) ∧ NatIs w' (.slice o1 k1 c1) (ab (UU m e)) ∧ NatIs w' (.slice o2 k2 c2) (2 ^ 150) ∧ Below w.heap.size w w' := by
    rintro b n e1 e2 r w' ⟨vn, vd, hr, hn, hd, hb⟩
    obtain ⟨o1, k1, c1, rfl⟩ := hn.form
    obtain ⟨o2, k2, c2, rfl⟩ := hd.form
    exact ⟨o1, k1, c1, o2, k2, c2, by rw [e1]; exact hr, by rw [e2]; exact hn, hd, hb⟩
  have hpos : (0 : Int) < 2 ^ (e + 150).toNat := Int.pow_pos (by decide)
  by_cases h0 : m = 0
  · subst h0
    have he : e = 0 := by have k := vr_iff.1 h; unfold ab at k; split at k <;> omega
    subst he
    exact (of_zero w).mono fun r w' hr => T false 0 rfl (by simp [UU, ab]) r w' hr
  · by_cases hn : m < 0
    · refine (of_neg m e (e + 150).toNat w (by omega) hn b3 b4 (by omega) (by omega)).mono fun r w' hr => T true _ (by simpa using hn) ?_ r w' hr
      have : m * 2 ^ (e + 150).toNat < 0 := Int.mul_neg_of_neg_of_pos hn hpos
      unfold UU ab
      rw [if_pos this, Int.neg_mul]
    · refine (of_pos m e (e + 150).toNat w (by omega) (by omega) b3 b4 (by omega) (by omega)).mono fun r w' hr => T false _ (by simpa using hn) ?_ r w' hr
      have : 0 < m * 2 ^ (e + 150).toNat := Int.mul_pos (by omega) hpos
      unfold UU ab
      rw [if_neg (by omega)]

theorem uu_bd {m e : Int} (h : vr m e = true) : 0 ≤ ab (UU m e) ∧ ab (UU m e) < pw 40 := by
  obtain ⟨b1, b2, b3, b4⟩ := vr_bd h
  have hp : (0 : Int) < 2 ^ (e + 150).toNat := Int.pow_pos (by decide)
  have h3 := pw_two (e + 150).toNat
  have h4 : (2 : Int) ^ ((e + 150).toNat % 15) < 32768 := by
    have : ∀ q : Fin 15, (2 : Int) ^ q.val < 32768 := by decide
    exact this ⟨(e + 150).toNat % 15, Nat.mod_lt _ (by decide)⟩
  have h5 := pw_le (show (e + 150).toNat / 15 + 1 ≤ 30 by omega)
  rw [pw_succ] at h5
  have h6 := Int.mul_lt_mul_of_pos_right h4 (pw_pos ((e + 150).toNat / 15))
  rw [← h3] at h6
  have h7 : (2 : Int) ^ (e + 150).toNat < pw 30 := by
    have e : pw ((e + 150).toNat / 15) * 32768 = 32768 * pw ((e + 150).toNat / 15) := Int.mul_comm _ _
    omega
  have hab : ab (UU m e) = ab m * 2 ^ (e + 150).toNat := by
    unfold UU ab
    by_cases hm : m < 0
    · rw [if_pos hm, if_pos (Int.mul_neg_of_neg_of_pos hm hp), Int.neg_mul]
    · rw [if_neg hm, if_neg (by have := Int.mul_nonneg (show 0 ≤ m by omega) (Int.le_of_lt hp); omega)]
  rw [hab]
  have ha : 0 ≤ ab m ∧ ab m ≤ 16777215 := by unfold ab; split <;> omega
  have hk : (16777215 : Int) < pw 10 := by
    have : pw 3 ≤ pw 10 := pw_le (by decide)
    have e3 : pw 3 = 35184372088832 := by simp [pw]
    omega
  generalize (2 : Int) ^ (e + 150).toNat = P at *
  exact ⟨Int.mul_nonneg ha.1 (Int.le_of_lt hp), pw_mul ha.1 (Int.le_of_lt hp) (show ab m < pw 10 by omega) h7 (by decide)⟩

/-- what the reference rounds to, as an index -/
theorem rnd_is {N : Int} {q : Nat} {num den : Int} {mi : Bool} {m e : Int} {ok : Bool} (h : RndP num den mi m e ok) (hden : 0 < den) (hmi : (mi = true ∧ N ≤ 0) ∨ (mi = false ∧ 0 ≤ N)) (hs : ∀ i, 0 ≤ i → (num * 2 ^ 151 ≤ Hf i * den ↔ 2 * (N.natAbs : Int) ≤ Hf i * 2 ^ q) ∧ (Hf i * den = num * 2 ^ 151 ↔ 2 * (N.natAbs : Int) = Hf i * 2 ^ q)) :
    m = oM (RI N q) ∧ e = oE (RI N q) ∧ ok = decide (-2533359615 ≤ RI N q ∧ RI N q ≤ 2533359615) := by
  obtain ⟨lo, hL, hr⟩ := h
  have hl := lo_is hL hden (rr_mid N.natAbs q) hs
  have hI : RI N q = if mi then -(RR N.natAbs q : Int) else (RR N.natAbs q : Int) := by
    unfold RI
    rcases hmi with ⟨rfl, hN⟩ | ⟨rfl, hN⟩
    · by_cases h0 : N = 0
      · subst h0; simp [RR_zero]
      · rw [if_pos (by omega), show (-N).toNat = N.natAbs by omega]; simp
    · rw [if_neg (by omega), show N.toNat = N.natAbs by omega]; simp
  rw [hI]
  have hR0 : (0 : Int) ≤ (RR N.natAbs q : Int) := Int.natCast_nonneg _
  clear hI hs hmi
  generalize (RR N.natAbs q : Int) = R at *
  by_cases hR : R ≤ 2533359615
  · have he := hl.1 hR
    rw [he, if_neg (by omega)] at hr
    obtain ⟨h1, h2, h3⟩ := hr
    cases mi
    · simp only [Bool.false_eq_true, if_false] at h2 h3 ⊢
      unfold oM oE
      rw [if_pos ⟨by omega, hR⟩, if_pos ⟨by omega, hR⟩]
      exact ⟨h2, h3, by rw [h1]; exact (decide_eq_true ⟨by omega, hR⟩).symm⟩
    · simp only [if_true] at h2 h3 ⊢
      unfold oM oE
      rw [if_pos ⟨by omega, by omega⟩, if_pos ⟨by omega, by omega⟩]
      exact ⟨h2, h3, by rw [h1]; exact (decide_eq_true ⟨by omega, by omega⟩).symm⟩
  · have he := hl.2 (by omega)
    rw [if_pos he] at hr
    obtain ⟨h1, h2, h3⟩ := hr
    cases mi
    · simp only [Bool.false_eq_true, if_false]
      unfold oM oE
      rw [if_neg (by omega), if_neg (by omega)]
      exact ⟨h1, h2, by rw [h3]; exact (decide_eq_false (by omega)).symm⟩
    · simp only [if_true]
      unfold oM oE
      rw [if_neg (by omega), if_neg (by omega)]
      exact ⟨h1, h2, by rw [h3]; exact (decide_eq_false (by omega)).symm⟩

/-- over 2^150 -/
theorem hs_150 {num : Int} {n : Nat} (h : num = (n : Int)) : ∀ i, 0 ≤ i → (num * 2 ^ 151 ≤ Hf i * 2 ^ 150 ↔ 2 * (n : Int) ≤ Hf i * 2 ^ 0) ∧ (Hf i * 2 ^ 150 = num * 2 ^ 151 ↔ 2 * (n : Int) = Hf i * 2 ^ 0) := by
  intro i _
  subst h
  have hp : (0 : Int) < 2 ^ 150 := Int.pow_pos (by decide)
  have e : (2 : Int) ^ 151 = 2 ^ 150 * 2 := Int.pow_succ _ _
  rw [e]
  generalize (2 : Int) ^ 150 = P at *
  generalize Hf i = H
  have e2 : (n : Int) * (P * 2) = 2 * (n : Int) * P := by rw [Int.mul_comm P 2, ← Int.mul_assoc, Int.mul_comm (n : Int) 2]
  rw [e2, Int.pow_zero, Int.mul_one]
  refine ⟨⟨fun h => Int.le_of_mul_le_mul_right h hp, fun h => Int.mul_le_mul_of_nonneg_right h (Int.le_of_lt hp)⟩, ⟨fun h => (Int.eq_of_mul_eq_mul_right (Int.ne_of_gt hp) h).symm, fun h => by rw [h]⟩⟩

end Go.Proofs.YticiabgnegbbmaaGreatDoor
