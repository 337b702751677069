/-
  PLAIN NUMBERS: what the functions of package integer compute, on whole numbers. No program is named here.
-/
import Derived.WalkKit
namespace Go.Proofs.Ytnhieokegidibaa
open Go.RowKit

/-- a valid integer -/
def vld (n : Int) : Bool := decide (-2147483647 ≤ n) && decide (n ≤ 2147483647)

theorem vld_iff {n : Int} : vld n = true ↔ -2147483647 ≤ n ∧ n ≤ 2147483647 := by simp [vld]
theorem vld_mk {n : Int} (h : -2147483647 ≤ n ∧ n ≤ 2147483647) : vld n = true := vld_iff.2 h
theorem vld_no {n : Int} (h : n < -2147483647 ∨ 2147483647 < n) : vld n = false := by
  cases hv : vld n
  · rfl
  · have := vld_iff.1 hv; omega
theorem vld_false {n : Int} (h : vld n = false) : n < -2147483647 ∨ 2147483647 < n := by
  by_cases h1 : -2147483647 ≤ n ∧ n ≤ 2147483647
  · rw [vld_mk h1] at h; cases h
  · omega
theorem vld_neg (n : Int) : vld (-n) = vld n := by
  cases h : vld n
  · have := vld_false h; exact vld_no (by omega)
  · have := vld_iff.1 h; exact vld_mk (by omega)

/-- an exact result, or 0 with ErrRange -/
def exV (n : Int) : Int := if vld n then n else 0
def exE (n : Int) : Int := if vld n then 0 else 3

/-- a result of one integer; ErrArg if it is not valid -/
def oneV (a v : Int) : Int := if vld a then v else 0
def oneE (a : Int) : Int := if vld a then 0 else 1
/-- both valid -/
def bth (a b : Int) : Bool := vld a && vld b
theorem bth_iff {a b : Int} : bth a b = true ↔ (-2147483647 ≤ a ∧ a ≤ 2147483647) ∧ (-2147483647 ≤ b ∧ b ≤ 2147483647) := by simp [bth, vld_iff]
theorem bth_comm (a b : Int) : bth a b = bth b a := by simp [bth, Bool.and_comm]

def addV (a b : Int) : Int := if bth a b then exV (a + b) else 0
def addE (a b : Int) : Int := if bth a b then exE (a + b) else 1
def subV (a b : Int) : Int := if bth a b then exV (a - b) else 0
def subE (a b : Int) : Int := if bth a b then exE (a - b) else 1
def mulV (a b : Int) : Int := if bth a b then exV (a * b) else 0
def mulE (a b : Int) : Int := if bth a b then exE (a * b) else 1

theorem addV_comm (a b : Int) : addV a b = addV b a := by simp only [addV, bth_comm a b, Int.add_comm a b]
theorem addE_comm (a b : Int) : addE a b = addE b a := by simp only [addE, bth_comm a b, Int.add_comm a b]
theorem mulV_comm (a b : Int) : mulV a b = mulV b a := by simp only [mulV, bth_comm a b, Int.mul_comm a b]
theorem mulE_comm (a b : Int) : mulE a b = mulE b a := by simp only [mulE, bth_comm a b, Int.mul_comm a b]

/-- -1, 0 or 1 -/
def cmp3 (a b : Int) : Int := if a < b then -1 else if b < a then 1 else 0
theorem cmp3_lt {a b : Int} (h : a < b) : cmp3 a b = -1 := if_pos h
theorem cmp3_gt {a b : Int} (h : b < a) : cmp3 a b = 1 := by rw [cmp3, if_neg (by omega), if_pos h]
theorem cmp3_eq {a b : Int} (h : b ≤ a) (h2 : a ≤ b) : cmp3 a b = 0 := by rw [cmp3, if_neg (by omega), if_neg (by omega)]
def cmpV (a b : Int) : Int := if bth a b then cmp3 a b else 0
def cmpE (a b : Int) : Int := if bth a b then 0 else 1
def absI (a : Int) : Int := if a < 0 then -a else a

/-- products of valid integers fit -/
theorem prod_le {a b : Int} (ha : -2147483647 ≤ a ∧ a ≤ 2147483647) (hb : -2147483647 ≤ b ∧ b ≤ 2147483647) :
    -4611686014132420609 ≤ a * b ∧ a * b ≤ 4611686014132420609 := by
  have h1 : a.natAbs ≤ 2147483647 := by omega
  have h2 : b.natAbs ≤ 2147483647 := by omega
  have h3 : (a * b).natAbs ≤ 2147483647 * 2147483647 := by
    rw [Int.natAbs_mul]; exact Nat.mul_le_mul h1 h2
  omega

/-! ### division -/
def divE (a b : Int) : Int := if bth a b then (if b = 0 then 5 else 0) else 1
theorem divE_ok {a b : Int} : divE a b = 0 ↔ bth a b = true ∧ b ≠ 0 := by
  unfold divE
  cases bth a b <;> by_cases h : b = 0 <;> simp [h]
theorem divE_bds {a b : Int} (h : divE a b = 0) : (-2147483647 ≤ a ∧ a ≤ 2147483647) ∧ (-2147483647 ≤ b ∧ b ≤ 2147483647) ∧ b ≠ 0 := by
  have ⟨h1, h2⟩ := divE_ok.1 h
  exact ⟨(bth_iff.1 h1).1, (bth_iff.1 h1).2, h2⟩
theorem tdiv_bds {a b : Int} (ha : -2147483647 ≤ a ∧ a ≤ 2147483647) : -2147483647 ≤ a.tdiv b ∧ a.tdiv b ≤ 2147483647 := by
  have := Int.natAbs_tdiv_le_natAbs a b
  omega
theorem tmod_bds {a b : Int} (ha : -2147483647 ≤ a ∧ a ≤ 2147483647) : -2147483647 ≤ a.tmod b ∧ a.tmod b ≤ 2147483647 := by
  have h : (a.tmod b).natAbs = a.natAbs % b.natAbs := Int.natAbs_tmod a b
  have := Nat.mod_le a.natAbs b.natAbs
  omega
theorem sub_tdiv (a b : Int) : a - a.tdiv b * b = a.tmod b := by
  have := Int.mul_tdiv_add_tmod a b
  rw [Int.mul_comm] at this; omega
def quoV (a b : Int) : Int := if divE a b = 0 then a.tdiv b else 0
def remV (a b : Int) : Int := if divE a b = 0 then a.tmod b else 0
/-- the quotient, rounded down -/
def flq (a b : Int) : Int := if a.tmod b = 0 then a.tdiv b else if decide (a < 0) = decide (b < 0) then a.tdiv b else a.tdiv b - 1
def floorV (a b : Int) : Int := if divE a b = 0 then flq a b else 0
def modV (a b : Int) : Int := if divE a b = 0 then a - flq a b * b else 0
theorem flq_bds {a b : Int} (ha : -2147483647 ≤ a ∧ a ≤ 2147483647) : -2147483648 ≤ flq a b ∧ flq a b ≤ 2147483647 := by
  have := tdiv_bds (b := b) ha
  unfold flq; split
  · omega
  · split <;> omega
theorem flq_prod {a b : Int} (ha : -2147483647 ≤ a ∧ a ≤ 2147483647) (hb : -2147483647 ≤ b ∧ b ≤ 2147483647) :
    -4611686016279904256 ≤ flq a b * b ∧ flq a b * b ≤ 4611686016279904256 := by
  have hq := flq_bds (b := b) ha
  have h1 : (flq a b).natAbs ≤ 2147483648 := by omega
  have h2 : b.natAbs ≤ 2147483647 := by omega
  have h3 : (flq a b * b).natAbs ≤ 2147483648 * 2147483647 := by
    rw [Int.natAbs_mul]; exact Nat.mul_le_mul h1 h2
  omega

/-! ### powers -/
def pw (a : Int) (k : Nat) : Int := a ^ k
theorem pw_zero (a : Int) : pw a 0 = 1 := Int.pow_zero a
theorem pw_succ (a : Int) (k : Nat) : pw a (k + 1) = pw a k * a := Int.pow_succ a k
theorem pw_add (a : Int) (j k : Nat) : pw a (j + k) = pw a j * pw a k := Int.pow_add a j k
theorem pw_abs (a : Int) (k : Nat) : (pw a k).natAbs = a.natAbs ^ k := Int.natAbs_pow a k
theorem vld_abs {n : Int} : vld n = true ↔ n.natAbs ≤ 2147483647 := by rw [vld_iff]; omega
theorem pw_none (k : Nat) : pw 0 (k + 1) = 0 := by rw [pw_succ, Int.mul_zero]
theorem pw_one (k : Nat) : pw 1 k = 1 := Int.one_pow
theorem pw_neg (k : Nat) : pw (-1) k = if k % 2 = 1 then -1 else 1 := by
  induction k with
  | zero => rfl
  | succ k ih =>
    rw [pw_succ, ih]
    by_cases h : k % 2 = 1
    · rw [if_pos h, if_neg (by omega)]; rfl
    · rw [if_neg h, if_pos (by omega)]; rfl
theorem vld_pw_mono (a : Int) {j k : Nat} (h : j ≤ k) (hk : vld (pw a k) = true) : vld (pw a j) = true := by
  rw [vld_abs, pw_abs] at *
  by_cases ha : a.natAbs = 0
  · rw [ha]
    cases j with
    | zero => simp
    | succ j => simp
  · exact Nat.le_trans (Nat.pow_le_pow_right (by omega) h) hk
theorem vld_pw_not (a : Int) {j k : Nat} (h : j ≤ k) (hj : vld (pw a j) = false) : vld (pw a k) = false := by
  cases hk : vld (pw a k)
  · rfl
  · rw [vld_pw_mono a h hk] at hj; cases hj
def powE (a n : Int) : Int := if bth a n && decide (0 ≤ n) then (if a = 0 ∧ n = 0 then 5 else if vld (pw a n.toNat) then 0 else 3) else 1
def powV (a n : Int) : Int := if powE a n = 0 then pw a n.toNat else 0
theorem powE_arg {a n : Int} (h : bth a n = false) : powE a n = 1 := by simp [powE, h]
theorem powE_neg {a n : Int} (h : n < 0) : powE a n = 1 := by
  have : decide (0 ≤ n) = false := by simp; omega
  simp [powE, this]
theorem powE_none {a n : Int} (h : a = 0 ∧ n = 0) : powE a n = 5 := by
  obtain ⟨rfl, rfl⟩ := h; rfl
theorem powE_else {a n : Int} (h : bth a n = true) (h0 : 0 ≤ n) (h1 : ¬(a = 0 ∧ n = 0)) : powE a n = if vld (pw a n.toNat) then 0 else 3 := by
  rw [powE, h, if_pos (by simp [h0]), if_neg h1]
theorem pow_yes {a n : Int} (h : bth a n = true) (h0 : 0 ≤ n) (h1 : ¬(a = 0 ∧ n = 0)) (hv : vld (pw a n.toNat) = true) : powV a n = pw a n.toNat ∧ powE a n = 0 := by
  have : powE a n = 0 := by rw [powE_else h h0 h1, if_pos hv]
  exact ⟨if_pos this, this⟩
theorem pow_no {a n : Int} (h : bth a n = true) (h0 : 0 ≤ n) (h1 : ¬(a = 0 ∧ n = 0)) (hv : vld (pw a n.toNat) = false) : powV a n = 0 ∧ powE a n = 3 := by
  have : powE a n = 3 := by rw [powE_else h h0 h1, if_neg (by rw [hv]; simp)]
  exact ⟨if_neg (by rw [this]; decide), this⟩
theorem pow_bad {a n e : Int} (h : powE a n = e) (he : e ≠ 0) : powV a n = 0 := if_neg (by rw [h]; exact he)
/-- so many factors do -/
def few (a n : Int) : Int := if a < -1 ∨ 1 < a ∨ n = 0 then n else 2 - n % 2
theorem few_bds {a n : Int} (h0 : 0 ≤ n) (h1 : n ≤ 2147483647) : 0 ≤ few a n ∧ few a n ≤ 2147483647 := by
  unfold few; split <;> omega
theorem pw_few {a n : Int} (h0 : 0 ≤ n) : pw a (few a n).toNat = pw a n.toNat := by
  unfold few
  split
  · rfl
  · rename_i h
    have ha : a = -1 ∨ a = 0 ∨ a = 1 := by omega
    have hn : 1 ≤ n := by omega
    rcases ha with rfl | rfl | rfl
    · rw [pw_neg, pw_neg]
      by_cases hp : n % 2 = 1
      · rw [if_pos (by omega), if_pos (by omega)]
      · rw [if_neg (by omega), if_neg (by omega)]
    · obtain ⟨j, hj⟩ : ∃ j, (2 - n % 2).toNat = j + 1 := ⟨(2 - n % 2).toNat - 1, by omega⟩
      obtain ⟨k, hk⟩ : ∃ k, n.toNat = k + 1 := ⟨n.toNat - 1, by omega⟩
      rw [hj, hk, pw_none, pw_none]
    · rw [pw_one, pw_one]

/-! ### order -/
theorem cmp3_cases (a b : Int) : (a < b ∧ cmp3 a b = -1) ∨ (a = b ∧ cmp3 a b = 0) ∨ (b < a ∧ cmp3 a b = 1) := by
  by_cases h : a < b
  · exact .inl ⟨h, cmp3_lt h⟩
  · by_cases h2 : b < a
    · exact .inr (.inr ⟨h2, cmp3_gt h2⟩)
    · exact .inr (.inl ⟨by omega, cmp3_eq (by omega) (by omega)⟩)
theorem cmp3_trans {a b c x : Int} (h1 : cmp3 a b = x) (h2 : cmp3 b c = x) : cmp3 a c = x := by
  rcases cmp3_cases a b with h | h | h <;> rcases cmp3_cases b c with g | g | g <;> rcases cmp3_cases a c with k | k | k <;> omega
theorem cmp3_swap (a b : Int) : cmp3 b a = -(cmp3 a b) := by
  rcases cmp3_cases a b with h | h | h <;> rcases cmp3_cases b a with g | g | g <;> omega
theorem cmp3_sub (a b : Int) : cmp3 (a - b) 0 = cmp3 a b := by
  rcases cmp3_cases a b with h | h | h <;> rcases cmp3_cases (a - b) 0 with g | g | g <;> omega
theorem cmp3_add (a b c : Int) : cmp3 (a + c) (b + c) = cmp3 a b := by
  rcases cmp3_cases a b with h | h | h <;> rcases cmp3_cases (a + c) (b + c) with g | g | g <;> omega
theorem cmp3_mul (a b c : Int) (hc : 0 < c) : cmp3 (a * c) (b * c) = cmp3 a b := by
  rcases cmp3_cases a b with h | h | h
  · rw [h.2, cmp3_lt (Int.mul_lt_mul_of_pos_right h.1 hc)]
  · rw [h.2, h.1, cmp3_eq (Int.le_refl _) (Int.le_refl _)]
  · rw [h.2, cmp3_gt (Int.mul_lt_mul_of_pos_right h.1 hc)]
theorem bth_mk {a b : Int} (ha : vld a = true) (hb : vld b = true) : bth a b = true := by simp [bth, ha, hb]
theorem bth_l {a b : Int} (h : bth a b = true) : vld a = true := by simp [bth] at h; exact h.1
theorem bth_r {a b : Int} (h : bth a b = true) : vld b = true := by simp [bth] at h; exact h.2
theorem bth_no {a b : Int} (h : vld b = false) : bth a b = false := by simp [bth, h]
theorem bth_no' {a b : Int} (h : vld a = false) : bth a b = false := by simp [bth, h]
end Go.Proofs.Ytnhieokegidibaa
