/-
  Several texts in one (Num, Int, Div, Is, Text, TextR, Parse).
-/
import Derived.WalkKit
import Derived.Test.YtnmifeiokhpcfaaDoorProg
import Derived.ProofKit
import Derived.WalkSpells
import Derived.WalkLawsBesides
import Derived.Lib.Hide
import Derived.OwnWalk
import Derived.Below
import Derived.Lib.ConvBytes
import Derived.Lib.SmallJoins

namespace Go.Proofs.YtnmifeiokhpcfaaDoor.it
open Go.RowKit

/-- a valid integer -/
def vld (n : Int) : Bool := decide (-2147483647 ≤ n) && decide (n ≤ 2147483647)

theorem vld_iff {n : Int} : vld n = true ↔ -2147483647 ≤ n ∧ n ≤ 2147483647 := by simp [vld]
theorem vld_mk {n : Int} (h : -2147483647 ≤ n ∧ n ≤ 2147483647) : vld n = true := vld_iff.2 h
theorem vld_no {n : Int} (h : n < -2147483647 ∨ 2147483647 < n) : vld n = false := by
  cases hv : vld n
  · rfl
  · have := vld_iff.1 hv; omega
theorem vld_false {n : Int} (h : vld n = false) : n < -2147483647 ∨ 2147483647 < n := by
  by_cases h1 : -2147483647 ≤ n ∧ n ≤ 2147483647
  · rw [vld_mk h1] at h; cases h
  · omega
theorem vld_neg (n : Int) : vld (-n) = vld n := by
  cases h : vld n
  · have := vld_false h; exact vld_no (by omega)
  · have := vld_iff.1 h; exact vld_mk (by omega)

/-- an exact result, or 0 with ErrRange -/
def exV (n : Int) : Int := if vld n then n else 0
def exE (n : Int) : Int := if vld n then 0 else 3

/-- a result of one integer; ErrArg if it is not valid -/
def oneV (a v : Int) : Int := if vld a then v else 0
def oneE (a : Int) : Int := if vld a then 0 else 1
/-- both valid -/
def bth (a b : Int) : Bool := vld a && vld b
theorem bth_iff {a b : Int} : bth a b = true ↔ (-2147483647 ≤ a ∧ a ≤ 2147483647) ∧ (-2147483647 ≤ b ∧ b ≤ 2147483647) := by simp [bth, vld_iff]
theorem bth_comm (a b : Int) : bth a b = bth b a := by simp [bth, Bool.and_comm]

def addV (a b : Int) : Int := if bth a b then exV (a + b) else 0
def addE (a b : Int) : Int := if bth a b then exE (a + b) else 1
def subV (a b : Int) : Int := if bth a b then exV (a - b) else 0
def subE (a b : Int) : Int := if bth a b then exE (a - b) else 1
def mulV (a b : Int) : Int := if bth a b then exV (a * b) else 0
def mulE (a b : Int) : Int := if bth a b then exE (a * b) else 1

theorem addV_comm (a b : Int) : addV a b = addV b a := by simp only [addV, bth_comm a b, Int.add_comm a b]
theorem addE_comm (a b : Int) : addE a b = addE b a := by simp only [addE, bth_comm a b, Int.add_comm a b]
theorem mulV_comm (a b : Int) : mulV a b = mulV b a := by simp only [mulV, bth_comm a b, Int.mul_comm a b]
theorem mulE_comm (a b : Int) : mulE a b = mulE b a := by simp only [mulE, bth_comm a b, Int.mul_comm a b]

/-- -1, 0 or 1 -/
def cmp3 (a b : Int) : Int := if a < b then -1 else if b < a then 1 else 0
theorem cmp3_lt {a b : Int} (h : a < b) : cmp3 a b = -1 := if_pos h
theorem cmp3_gt {a b : Int} (h : b < a) : cmp3 a b = 1 := by rw [cmp3, if_neg (by omega), if_pos h]
theorem cmp3_eq {a b : Int} (h : b ≤ a) (h2 : a ≤ b) : cmp3 a b = 0 := by rw [cmp3, if_neg (by omega), if_neg (by omega)]
def cmpV (a b : Int) : Int := if bth a b then cmp3 a b else 0
def cmpE (a b : Int) : Int := if bth a b then 0 else 1
def absI (a : Int) : Int := if a < 0 then -a else a

/-- products of valid integers fit -/
theorem prod_le {a b : Int} (ha : -2147483647 ≤ a ∧ a ≤ 2147483647) (hb : -2147483647 ≤ b ∧ b ≤ 2147483647) :
    -4611686014132420609 ≤ a * b ∧ a * b ≤ 4611686014132420609 := by
  have h1 : a.natAbs ≤ 2147483647 := by omega
  have h2 : b.natAbs ≤ 2147483647 := by omega
  have h3 : (a * b).natAbs ≤ 2147483647 * 2147483647 := by
    rw [Int.natAbs_mul]; exact Nat.mul_le_mul h1 h2
  omega

/-! ### division -/
def divE (a b : Int) : Int := if bth a b then (if b = 0 then 5 else 0) else 1
theorem divE_ok {a b : Int} : divE a b = 0 ↔ bth a b = true ∧ b ≠ 0 := by
  unfold divE
  cases bth a b <;> by_cases h : b = 0 <;> simp [h]
theorem divE_bds {a b : Int} (h : divE a b = 0) : (-2147483647 ≤ a ∧ a ≤ 2147483647) ∧ (-2147483647 ≤ b ∧ b ≤ 2147483647) ∧ b ≠ 0 := by
  have ⟨h1, h2⟩ := divE_ok.1 h
  exact ⟨(bth_iff.1 h1).1, (bth_iff.1 h1).2, h2⟩
theorem tdiv_bds {a b : Int} (ha : -2147483647 ≤ a ∧ a ≤ 2147483647) : -2147483647 ≤ a.tdiv b ∧ a.tdiv b ≤ 2147483647 := by
  have := Int.natAbs_tdiv_le_natAbs a b
  omega
theorem tmod_bds {a b : Int} (ha : -2147483647 ≤ a ∧ a ≤ 2147483647) : -2147483647 ≤ a.tmod b ∧ a.tmod b ≤ 2147483647 := by
  have h : (a.tmod b).natAbs = a.natAbs % b.natAbs := Int.natAbs_tmod a b
  have := Nat.mod_le a.natAbs b.natAbs
  omega
theorem sub_tdiv (a b : Int) : a - a.tdiv b * b = a.tmod b := by
  have := Int.mul_tdiv_add_tmod a b
  rw [Int.mul_comm] at this; omega
def quoV (a b : Int) : Int := if divE a b = 0 then a.tdiv b else 0
def remV (a b : Int) : Int := if divE a b = 0 then a.tmod b else 0
/-- the quotient, rounded down -/
def flq (a b : Int) : Int := if a.tmod b = 0 then a.tdiv b else if decide (a < 0) = decide (b < 0) then a.tdiv b else a.tdiv b - 1
def floorV (a b : Int) : Int := if divE a b = 0 then flq a b else 0
def modV (a b : Int) : Int := if divE a b = 0 then a - flq a b * b else 0
theorem flq_bds {a b : Int} (ha : -2147483647 ≤ a ∧ a ≤ 2147483647) : -2147483648 ≤ flq a b ∧ flq a b ≤ 2147483647 := by
  have := tdiv_bds (b := b) ha
  unfold flq; split
  · omega
  · split <;> omega
theorem flq_prod {a b : Int} (ha : -2147483647 ≤ a ∧ a ≤ 2147483647) (hb : -2147483647 ≤ b ∧ b ≤ 2147483647) :
    -4611686016279904256 ≤ flq a b * b ∧ flq a b * b ≤ 4611686016279904256 := by
  have hq := flq_bds (b := b) ha
  have h1 : (flq a b).natAbs ≤ 2147483648 := by omega
  have h2 : b.natAbs ≤ 2147483647 := by omega
  have h3 : (flq a b * b).natAbs ≤ 2147483648 * 2147483647 := by
    rw [Int.natAbs_mul]; exact Nat.mul_le_mul h1 h2
  omega

/-! ### powers -/
def pw (a : Int) (k : Nat) : Int := a ^ k
theorem pw_zero (a : Int) : pw a 0 = 1 := Int.pow_zero a
theorem pw_succ (a : Int) (k : Nat) : pw a (k + 1) = pw a k * a := Int.pow_succ a k
theorem pw_add (a : Int) (j k : Nat) : pw a (j + k) = pw a j * pw a k := Int.pow_add a j k
theorem pw_abs (a : Int) (k : Nat) : (pw a k).natAbs = a.natAbs ^ k := Int.natAbs_pow a k
theorem vld_abs {n : Int} : vld n = true ↔ n.natAbs ≤ 2147483647 := by rw [vld_iff]; omega
theorem pw_none (k : Nat) : pw 0 (k + 1) = 0 := by rw [pw_succ, Int.mul_zero]
theorem pw_one (k : Nat) : pw 1 k = 1 := Int.one_pow
theorem pw_neg (k : Nat) : pw (-1) k = if k % 2 = 1 then -1 else 1 := by
  induction k with
  | zero => rfl
  | succ k ih =>
    rw [pw_succ, ih]
    by_cases h : k % 2 = 1
    · rw [if_pos h, if_neg (by omega)]; rfl
    · rw [if_neg h, if_pos (by omega)]; rfl
theorem vld_pw_mono (a : Int) {j k : Nat} (h : j ≤ k) (hk : vld (pw a k) = true) : vld (pw a j) = true := by
  rw [vld_abs, pw_abs] at *
  by_cases ha : a.natAbs = 0
  · rw [ha]
    cases j with
    | zero => simp
    | succ j => simp
  · exact Nat.le_trans (Nat.pow_le_pow_right (by omega) h) hk
theorem vld_pw_not (a : Int) {j k : Nat} (h : j ≤ k) (hj : vld (pw a j) = false) : vld (pw a k) = false := by
  cases hk : vld (pw a k)
  · rfl
  · rw [vld_pw_mono a h hk] at hj; cases hj
def powE (a n : Int) : Int := if bth a n && decide (0 ≤ n) then (if a = 0 ∧ n = 0 then 5 else if vld (pw a n.toNat) then 0 else 3) else 1
def powV (a n : Int) : Int := if powE a n = 0 then pw a n.toNat else 0
theorem powE_arg {a n : Int} (h : bth a n = false) : powE a n = 1 := by simp [powE, h]
theorem powE_neg {a n : Int} (h : n < 0) : powE a n = 1 := by
  have : decide (0 ≤ n) = false := by simp; omega
  simp [powE, this]
theorem powE_none {a n : Int} (h : a = 0 ∧ n = 0) : powE a n = 5 := by
  obtain ⟨rfl, rfl⟩ := h; rfl
theorem powE_else {a n : Int} (h : bth a n = true) (h0 : 0 ≤ n) (h1 : ¬(a = 0 ∧ n = 0)) : powE a n = if vld (pw a n.toNat) then 0 else 3 := by
  rw [powE, h, if_pos (by simp [h0]), if_neg h1]
theorem pow_yes {a n : Int} (h : bth a n = true) (h0 : 0 ≤ n) (h1 : ¬(a = 0 ∧ n = 0)) (hv : vld (pw a n.toNat) = true) : powV a n = pw a n.toNat ∧ powE a n = 0 := by
  have : powE a n = 0 := by rw [powE_else h h0 h1, if_pos hv]
  exact ⟨if_pos this, this⟩
theorem pow_no {a n : Int} (h : bth a n = true) (h0 : 0 ≤ n) (h1 : ¬(a = 0 ∧ n = 0)) (hv : vld (pw a n.toNat) = false) : powV a n = 0 ∧ powE a n = 3 := by
  have : powE a n = 3 := by rw [powE_else h h0 h1, if_neg (by rw [hv]; simp)]
  exact ⟨if_neg (by rw [this]; decide), this⟩
theorem pow_bad {a n e : Int} (h : powE a n = e) (he : e ≠ 0) : powV a n = 0 := if_neg (by rw [h]; exact he)
/-- so many factors do -/
def few (a n : Int) : Int := if a < -1 ∨ 1 < a ∨ n = 0 then n else 2 - n % 2
theorem few_bds {a n : Int} (h0 : 0 ≤ n) (h1 : n ≤ 2147483647) : 0 ≤ few a n ∧ few a n ≤ 2147483647 := by
  unfold few; split <;> omega
theorem pw_few {a n : Int} (h0 : 0 ≤ n) : pw a (few a n).toNat = pw a n.toNat := by
  unfold few
  split
  · rfl
  · rename_i h
    have ha : a = -1 ∨ a = 0 ∨ a = 1 := by omega
    have hn : 1 ≤ n := by omega
    rcases ha with rfl | rfl | rfl
    · rw [pw_neg, pw_neg]
      by_cases hp : n % 2 = 1
      · rw [if_pos (by omega), if_pos (by omega)]
      · rw [if_neg (by omega), if_neg (by omega)]
    · obtain ⟨j, hj⟩ : ∃ j, (2 - n % 2).toNat = j + 1 := ⟨(2 - n % 2).toNat - 1, by omega⟩
      obtain ⟨k, hk⟩ : ∃ k, n.toNat = k + 1 := ⟨n.toNat - 1, by omega⟩
      rw [hj, hk, pw_none, pw_none]
    · rw [pw_one, pw_one]

/-! ### order -/
theorem cmp3_cases (a b : Int) : (a < b ∧ cmp3 a b = -1) ∨ (a = b ∧ cmp3 a b = 0) ∨ (b < a ∧ cmp3 a b = 1) := by
  by_cases h : a < b
  · exact .inl ⟨h, cmp3_lt h⟩
  · by_cases h2 : b < a
    · exact .inr (.inr ⟨h2, cmp3_gt h2⟩)
    · exact .inr (.inl ⟨by omega, cmp3_eq (by omega) (by omega)⟩)
theorem cmp3_trans {a b c x : Int} (h1 : cmp3 a b = x) (h2 : cmp3 b c = x) : cmp3 a c = x := by
  rcases cmp3_cases a b with h | h | h <;> rcases cmp3_cases b c with g | g | g <;> rcases cmp3_cases a c with k | k | k <;> omega
theorem cmp3_swap (a b : Int) : cmp3 b a = -(cmp3 a b) := by
  rcases cmp3_cases a b with h | h | h <;> rcases cmp3_cases b a with g | g | g <;> omega
theorem cmp3_sub (a b : Int) : cmp3 (a - b) 0 = cmp3 a b := by
  rcases cmp3_cases a b with h | h | h <;> rcases cmp3_cases (a - b) 0 with g | g | g <;> omega
theorem cmp3_add (a b c : Int) : cmp3 (a + c) (b + c) = cmp3 a b := by
  rcases cmp3_cases a b with h | h | h <;> rcases cmp3_cases (a + c) (b + c) with g | g | g <;> omega
theorem cmp3_mul (a b c : Int) (hc : 0 < c) : cmp3 (a * c) (b * c) = cmp3 a b := by
  rcases cmp3_cases a b with h | h | h
  · rw [h.2, cmp3_lt (Int.mul_lt_mul_of_pos_right h.1 hc)]
  · rw [h.2, h.1, cmp3_eq (Int.le_refl _) (Int.le_refl _)]
  · rw [h.2, cmp3_gt (Int.mul_lt_mul_of_pos_right h.1 hc)]
theorem bth_mk {a b : Int} (ha : vld a = true) (hb : vld b = true) : bth a b = true := by simp [bth, ha, hb]
theorem bth_l {a b : Int} (h : bth a b = true) : vld a = true := by simp [bth] at h; exact h.1
theorem bth_r {a b : Int} (h : bth a b = true) : vld b = true := by simp [bth] at h; exact h.2
theorem bth_no {a b : Int} (h : vld b = false) : bth a b = false := by simp [bth, h]
theorem bth_no' {a b : Int} (h : vld a = false) : bth a b = false := by simp [bth, h]
end Go.Proofs.YtnmifeiokhpcfaaDoor.it

namespace Go.Proofs.YtnmifeiokhpcfaaDoor.it
open Go.RowKit

/-- the outcome of a call that hands back one value and leaves the world -/
def Gives (w : World) (v : Value) (e : Ending) (w' : World) : Prop := e = .returned v ∧ w = w'
abbrev pairI (v e : Int) : Value := .tuple #[.int .i64 v, .int .i64 e]

set_option maxHeartbeats 400000 in
theorem valid_any (n : Int) (w : World) :
    Calls Tryd.prog 64 #[.int .i64 n] w fun e w' => e = .returned (.bool (vld n)) ∧ w = w' := by
  cases hv : vld n
  · have h := vld_false hv
    rcases h with h | h
    · go_enter Tryd.func64, Tryd.ntmps64
      go_wp2
      go_ret
      exact ⟨rfl, rfl⟩
    · have h2 : -2147483647 ≤ n := by omega
      go_enter Tryd.func64, Tryd.ntmps64
      go_wp2
      go_ret
      exact ⟨by simp; omega, rfl⟩
  · have ⟨h1, h2⟩ := vld_iff.1 hv
    go_enter Tryd.func64, Tryd.ntmps64
    go_wp2
    go_ret
    exact ⟨rfl, rfl⟩

end Go.Proofs.YtnmifeiokhpcfaaDoor.it

namespace Go.Proofs.YtnmifeiokhpcfaaDoor.it
open Go.RowKit

end Go.Proofs.YtnmifeiokhpcfaaDoor.it

namespace Go.Proofs.YtnmifeiokhpcfaaDoor.it
open Go.RowKit

theorem add_ok {a b : Int} (h : bth a b = true) (hv : vld (a + b) = true) : addV a b = a + b ∧ addE a b = 0 := by simp [addV, addE, exV, exE, h, hv]
theorem add_out {a b : Int} (h : bth a b = true) (hv : vld (a + b) = false) : addV a b = 0 ∧ addE a b = 3 := by simp [addV, addE, exV, exE, h, hv]
theorem add_no {a b : Int} (h : bth a b = false) : addV a b = 0 ∧ addE a b = 1 := by simp [addV, addE, h]

theorem sub_ok {a b : Int} (h : bth a b = true) (hv : vld (a - b) = true) : subV a b = a - b ∧ subE a b = 0 := by simp [subV, subE, exV, exE, h, hv]
theorem sub_out {a b : Int} (h : bth a b = true) (hv : vld (a - b) = false) : subV a b = 0 ∧ subE a b = 3 := by simp [subV, subE, exV, exE, h, hv]
theorem sub_no {a b : Int} (h : bth a b = false) : subV a b = 0 ∧ subE a b = 1 := by simp [subV, subE, h]

theorem mul_ok {a b : Int} (h : bth a b = true) (hv : vld (a * b) = true) : mulV a b = a * b ∧ mulE a b = 0 := by simp [mulV, mulE, exV, exE, h, hv]
theorem mul_out {a b : Int} (h : bth a b = true) (hv : vld (a * b) = false) : mulV a b = 0 ∧ mulE a b = 3 := by simp [mulV, mulE, exV, exE, h, hv]
theorem mul_no {a b : Int} (h : bth a b = false) : mulV a b = 0 ∧ mulE a b = 1 := by simp [mulV, mulE, h]

theorem cmp_ok {a b x : Int} (h : bth a b = true) (hx : cmp3 a b = x) : cmpV a b = x ∧ cmpE a b = 0 := by simp [cmpV, cmpE, h, hx]
theorem cmp_no {a b : Int} (h : bth a b = false) : cmpV a b = 0 ∧ cmpE a b = 1 := by simp [cmpV, cmpE, h]

theorem valid_is {n : Int} {b : Bool} (h : vld n = b) (w : World) :
    Calls Tryd.prog 64 #[.int .i64 n] w fun e' w' => e' = .returned (.bool b) ∧ w = w' := by
  subst h
  exact valid_any n w

theorem add_dec (a b : Int) : ((bth a b = true ∧ vld (a + b) = true) ∧ addV a b = a + b ∧ addE a b = 0) ∨ (addE a b == 0) = false := by
  cases h : bth a b
  · exact .inr (by rw [(add_no h).2]; rfl)
  · cases hv : vld (a + b)
    · exact .inr (by rw [(add_out h hv).2]; rfl)
    · exact .inl ⟨⟨rfl, rfl⟩, add_ok h hv⟩

theorem sub_dec (a b : Int) : ((bth a b = true ∧ vld (a - b) = true) ∧ subV a b = a - b ∧ subE a b = 0) ∨ (subE a b == 0) = false := by
  cases h : bth a b
  · exact .inr (by rw [(sub_no h).2]; rfl)
  · cases hv : vld (a - b)
    · exact .inr (by rw [(sub_out h hv).2]; rfl)
    · exact .inl ⟨⟨rfl, rfl⟩, sub_ok h hv⟩

theorem mul_dec (a b : Int) : ((bth a b = true ∧ vld (a * b) = true) ∧ mulV a b = a * b ∧ mulE a b = 0) ∨ (mulE a b == 0) = false := by
  cases h : bth a b
  · exact .inr (by rw [(mul_no h).2]; rfl)
  · cases hv : vld (a * b)
    · exact .inr (by rw [(mul_out h hv).2]; rfl)
    · exact .inl ⟨⟨rfl, rfl⟩, mul_ok h hv⟩

end Go.Proofs.YtnmifeiokhpcfaaDoor.it

namespace Go.Proofs.YtnmifeiokhpcfaaDoor.it
open Go.RowKit

/-- the first byte, if there is one -/
def head1 (s : ByteArray) : Int := if h : 0 < s.size then (s[0].toNat : Int) else 0
def negB (s : ByteArray) : Bool := decide (head1 s = 45)
/-- the text without its sign -/
def rest1 (s : ByteArray) : ByteArray := if head1 s = 43 ∨ head1 s = 45 then s.extract 1 s.size else s

theorem cut_plus (s : ByteArray) (w : World) (h0 : s.toList.isEmpty = false) (h1 : 0 < s.size) (h2 : (s[0].toNat : Int) = 43) :
    Calls Tryd.prog 62 #[.string s] w fun e w' => e = .returned (.tuple #[.bool false, .string (s.extract 1 s.size)]) ∧ (w' = w ∨ w' = w.drew) := by
  go_enter Tryd.func62, Tryd.ntmps62
  go_wp2_with fail
  go_region
  all_goals go_wp2_with fail
  all_goals go_ret2
  all_goals exact ⟨rfl, .inr rfl⟩

theorem cut_minus (s : ByteArray) (w : World) (h0 : s.toList.isEmpty = false) (h1 : 0 < s.size) (h2 : (s[0].toNat : Int) = 45) :
    Calls Tryd.prog 62 #[.string s] w fun e w' => e = .returned (.tuple #[.bool true, .string (s.extract 1 s.size)]) ∧ (w' = w ∨ w' = w.drew) := by
  go_enter Tryd.func62, Tryd.ntmps62
  go_wp2_with fail
  go_region
  all_goals go_wp2_with fail
  all_goals go_ret2
  all_goals exact ⟨rfl, .inr rfl⟩

theorem cut_other (s : ByteArray) (w : World) (h0 : s.toList.isEmpty = false) (h1 : 0 < s.size) (h2 : ((s[0].toNat : Int) != 43) = true) (h3 : ((s[0].toNat : Int) != 45) = true) :
    Calls Tryd.prog 62 #[.string s] w fun e w' => e = .returned (.tuple #[.bool false, .string s]) ∧ (w' = w ∨ w' = w.drew) := by
  go_enter Tryd.func62, Tryd.ntmps62
  go_wp2_with fail
  go_ret2
  exact ⟨rfl, .inl rfl⟩

theorem cut_none (w : World) :
    Calls Tryd.prog 62 #[.string ⟨#[]⟩] w fun e w' => e = .returned (.tuple #[.bool false, .string ⟨#[]⟩]) ∧ (w' = w ∨ w' = w.drew) := by
  go_enter Tryd.func62, Tryd.ntmps62
  go_wp2_with fail
  go_ret2
  exact ⟨rfl, .inl rfl⟩

theorem full_list {s : ByteArray} (h : 0 < s.size) : s.toList.isEmpty = false := by
  rw [ByteArray.toList_eq]
  rcases s with ⟨⟨l⟩⟩
  rcases l with _ | ⟨a, l⟩
  · simp [ByteArray.size] at h
  · rfl

/-- WHAT cutSign RETURNS, at any text. -/
theorem cut_any (s : ByteArray) (w : World) :
    Calls Tryd.prog 62 #[.string s] w fun e w' => e = .returned (.tuple #[.bool (negB s), .string (rest1 s)]) ∧ (w' = w ∨ w' = w.drew) := by
  by_cases h1 : 0 < s.size
  · have e1 : head1 s = (s[0].toNat : Int) := dif_pos h1
    by_cases h2 : (s[0].toNat : Int) = 43
    · rw [show negB s = false from by simp [negB, e1, h2], show rest1 s = s.extract 1 s.size from if_pos (.inl (e1.trans h2))]
      exact cut_plus s w (full_list h1) h1 h2
    · by_cases h3 : (s[0].toNat : Int) = 45
      · rw [show negB s = true from by simp [negB, e1, h3], show rest1 s = s.extract 1 s.size from if_pos (.inr (e1.trans h3))]
        exact cut_minus s w (full_list h1) h1 h3
      · rw [show negB s = false from by simp only [negB, e1]; exact decide_eq_false h3, show rest1 s = s from if_neg (by rw [e1]; exact fun h => h.elim h2 h3)]
        exact cut_other s w (full_list h1) h1 (by simpa using h2) (by simpa using h3)
  · obtain rfl : s = ⟨#[]⟩ := by
      rcases s with ⟨⟨l⟩⟩
      rcases l with _ | ⟨a, l⟩
      · rfl
      · simp [ByteArray.size] at h1
    exact cut_none w

def dgt (s : ByteArray) (j : Nat) : Bool := if h : j < s.size then decide (48 ≤ (s[j].toNat : Int)) && decide ((s[j].toNat : Int) ≤ 57) else false
/-- one or more digits -/
def allD (s : ByteArray) : Bool := (List.range s.size).all (dgt s) && !s.toList.isEmpty
theorem allD_bad {s : ByteArray} {k : Nat} (h : k < s.size) (hd : dgt s k = false) : allD s = false := by
  have : (List.range s.size).all (dgt s) = false := by
    rw [List.all_eq_false]
    exact ⟨k, List.mem_range.2 h, by simp [hd]⟩
  simp [allD, this]
theorem allD_good {s : ByteArray} (h : ∀ j, j < s.size → dgt s j = true) : allD s = !s.toList.isEmpty := by
  have : (List.range s.size).all (dgt s) = true := List.all_eq_true.2 fun j hj => h j (List.mem_range.1 hj)
  simp [allD, this]

/-- WHAT allDigits RETURNS, at any text. -/
theorem all_any (s : ByteArray) (w : World) (hm : s.size ≤ 9223372036854775807) :
    Calls Tryd.prog 63 #[.string s] w fun e w' => e = .returned (.bool (allD s)) ∧ w = w' := by
  go_enter Tryd.func63, Tryd.ntmps63
  go_wp2_with fail
  go_loop [6] (fun i => ∃ k : Nat, k ≤ s.size ∧ i = .int .i64 k ∧ ∀ j, j < k → dgt s j = true) (fun i => s.size - (intOf i).toNat)
  case atStart => exact ⟨0, Nat.zero_le _, rfl, fun j hj => absurd hj (Nat.not_lt_zero j)⟩
  case round =>
    obtain ⟨k, hk, rfl, hd⟩ := hrel
    have HD := Lib.hid hd
    clear hd
    by_cases hlt : k < s.size
    · by_cases h2 : (s[k].toNat : Int) < 48
      · have HX := Lib.hid (allD_bad hlt (show dgt s k = false from by rw [dgt, dif_pos hlt]; simp; omega))
        go_wp2_with fail
        go_ret
        exact ⟨by rw [HX.out]; rfl, rfl⟩
      · by_cases h3 : 57 < (s[k].toNat : Int)
        · have HX := Lib.hid (allD_bad hlt (show dgt s k = false from by rw [dgt, dif_pos hlt]; simp; omega))
          go_wp2_with fail
          go_ret
          exact ⟨by rw [HX.out]; rfl, rfl⟩
        · have HX := Lib.hid (show dgt s k = true from by rw [dgt, dif_pos hlt]; simp; omega)
          go_wp2_with fail
          go_round
          case rel => exact ⟨k + 1, by omega, by go_num, fun j hj => by
            rcases Nat.lt_succ_iff_lt_or_eq.1 hj with h | rfl
            · exact HD.out j h
            · exact HX.out⟩
          case measure => simp [intOf]; omega
    · obtain rfl : k = s.size := by omega
      have HX := Lib.hid (allD_good HD.out)
      go_wp2_with fail
      go_ret
      exact ⟨by rw [HX.out]; rfl, rfl⟩

end Go.Proofs.YtnmifeiokhpcfaaDoor.it

namespace Go.Proofs.YtnmifeiokhpcfaaDoor.it
open Go.RowKit

def mn2 (a b : Int) : Int := if b < a then b else a
/-- all bytes from f on are digits -/
def allF (s : ByteArray) (f : Nat) : Bool := (List.range s.size).all fun j => decide (j < f) || dgt s j
/-- the number that the bytes from f to k denote, at most Most + 1 -/
def num (s : ByteArray) (f : Nat) : Nat → Int
  | 0 => 0
  | k + 1 => if k < f then 0 else mn2 (10 * num s f k + (if h : k < s.size then (s[k].toNat : Int) - 48 else 0)) 2147483648
theorem num_le (s : ByteArray) (f k : Nat) (hd : ∀ j, f ≤ j → j < k → dgt s j = true) : 0 ≤ num s f k ∧ num s f k ≤ 2147483648 := by
  induction k with
  | zero => exact ⟨Int.le_refl 0, by unfold num; decide⟩
  | succ k ih =>
    have i := ih fun j h1 h2 => hd j h1 (by omega)
    unfold num
    by_cases hf : k < f
    · rw [if_pos hf]; exact ⟨by decide, by decide⟩
    · rw [if_neg hf]
      have hk := hd k (by omega) (by omega)
      unfold dgt at hk
      by_cases hs : k < s.size
      · rw [dif_pos hs] at hk ⊢
        simp at hk
        unfold mn2
        split <;> omega
      · rw [dif_neg hs] at hk; cases hk
theorem num_from (s : ByteArray) (f : Nat) (hf : f ≤ 1) : num s f f = 0 := by
  rcases f with _ | f
  · rfl
  · unfold num; rw [if_pos (Nat.lt_succ_self f)]
theorem num_step {s : ByteArray} {f k : Nat} (hf : f ≤ k) (hk : k < s.size) : num s f (k + 1) = mn2 (10 * num s f k + ((s[k].toNat : Int) - 48)) 2147483648 := by
  rw [num, if_neg (by omega), dif_pos hk]
theorem allF_bad {s : ByteArray} {f k : Nat} (hf : f ≤ k) (h : k < s.size) (hd : dgt s k = false) : allF s f = false := by
  unfold allF
  rw [List.all_eq_false]
  exact ⟨k, List.mem_range.2 h, by simp [hd]; omega⟩
theorem allF_good {s : ByteArray} {f : Nat} (h : ∀ j, f ≤ j → j < s.size → dgt s j = true) : allF s f = true :=
  List.all_eq_true.2 fun j hj => by
    by_cases hf : j < f
    · simp [hf]
    · simp [h j (by omega) (List.mem_range.1 hj)]
def parV (s : ByteArray) (f : Nat) (neg : Bool) : Int := if allF s f then (if num s f s.size ≤ 2147483647 then (if neg then - num s f s.size else num s f s.size) else 0) else 0
def parE (s : ByteArray) (f : Nat) : Int := if allF s f then (if num s f s.size ≤ 2147483647 then 0 else 3) else 7
theorem par_bad {s : ByteArray} {f : Nat} (n : Bool) (h : allF s f = false) : parV s f n = 0 ∧ parE s f = 7 := by simp [parV, parE, h]
theorem par_far {s : ByteArray} {f : Nat} (n : Bool) (h : allF s f = true) (h1 : 2147483647 < num s f s.size) : parV s f n = 0 ∧ parE s f = 3 := by
  simp only [parV, parE, h, if_true, if_neg (show ¬ num s f s.size ≤ 2147483647 by omega)]
  exact ⟨trivial, trivial⟩
theorem par_ok {s : ByteArray} {f : Nat} (n : Bool) (h : allF s f = true) (h1 : num s f s.size ≤ 2147483647) : parV s f n = (if n then - num s f s.size else num s f s.size) ∧ parE s f = 0 := by
  simp only [parV, parE, h, if_true, if_pos h1]
  exact ⟨trivial, trivial⟩
theorem dgt_iff {s : ByteArray} {k : Nat} (h : k < s.size) : dgt s k = true ↔ 48 ≤ (s[k].toNat : Int) ∧ (s[k].toNat : Int) ≤ 57 := by
  rw [dgt, dif_pos h]; simp

/-- where the digits begin -/
def frm (s : ByteArray) : Nat := if head1 s = 43 ∨ head1 s = 45 then 1 else 0
def docV (s : ByteArray) : Int := if frm s = s.size then 0 else parV s (frm s) (negB s)
def docE (s : ByteArray) : Int := if frm s = s.size then 7 else parE s (frm s)

end Go.Proofs.YtnmifeiokhpcfaaDoor.it

namespace Go.Proofs.YtnmifeiokhpcfaaDoor.it
open Go.RowKit

theorem rest_get (s : ByteArray) (k : Nat) (h : k < (s.extract 1 s.size).size) (h' : k + 1 < s.size) : (s.extract 1 s.size)[k] = s[k + 1] := by
  simp [ByteArray.getElem_extract, Nat.add_comm]
theorem rest_size (s : ByteArray) : (s.extract 1 s.size).size = s.size - 1 := by
  simp [ByteArray.size_extract]
theorem dgt_rest (s : ByteArray) (k : Nat) : dgt (s.extract 1 s.size) k = dgt s (k + 1) := by
  unfold dgt
  have hs := rest_size s
  by_cases h : k + 1 < s.size
  · rw [dif_pos h, dif_pos (by omega), rest_get s k (by omega) h]
  · rw [dif_neg h, dif_neg (by omega)]
theorem num_rest (s : ByteArray) (k : Nat) : num s 1 (k + 1) = num (s.extract 1 s.size) 0 k := by
  induction k with
  | zero => rfl
  | succ k ih =>
    rw [num, if_neg (by omega), ih, num, if_neg (by omega)]
    have hs := rest_size s
    by_cases h : k + 1 < s.size
    · rw [dif_pos h, dif_pos (by omega), rest_get s k (by omega) h]
    · rw [dif_neg h, dif_neg (by omega)]
theorem allF_rest (s : ByteArray) (h1 : 1 < s.size) : allF s 1 = allD (s.extract 1 s.size) := by
  have hs := rest_size s
  have hne : (s.extract 1 s.size).toList.isEmpty = false := full_list (by omega)
  cases h : allD (s.extract 1 s.size)
  · have : ∃ k, k < (s.extract 1 s.size).size ∧ dgt (s.extract 1 s.size) k = false := by
      simp [allD, hne] at h
      obtain ⟨x, h1, h2⟩ := h
      exact ⟨x, by omega, h2⟩
    obtain ⟨k, hk, hd⟩ := this
    rw [dgt_rest] at hd
    exact allF_bad (k := k + 1) (by omega) (by omega) hd
  · apply allF_good
    intro j h2 h3
    obtain ⟨k, rfl⟩ : ∃ k, j = k + 1 := ⟨j - 1, by omega⟩
    rw [← dgt_rest]
    simp [allD] at h
    exact h.1 k (by omega)
theorem allF_zero (s : ByteArray) (h1 : 0 < s.size) : allF s 0 = allD s := by
  have hne : s.toList.isEmpty = false := full_list h1
  simp [allF, allD, hne]
/-- what the text without its sign denotes -/
def resV (r : ByteArray) (neg : Bool) : Int := if allD r then (if num r 0 r.size ≤ 2147483647 then (if neg then - num r 0 r.size else num r 0 r.size) else 0) else 0
def resE (r : ByteArray) : Int := if allD r then (if num r 0 r.size ≤ 2147483647 then 0 else 3) else 7
theorem allD_none {r : ByteArray} (h : r.size = 0) : allD r = false := by
  obtain rfl : r = ⟨#[]⟩ := by
    rcases r with ⟨⟨l⟩⟩
    rcases l with _ | ⟨a, l⟩
    · rfl
    · simp [ByteArray.size] at h
  simp [allD]
theorem doc_res (s : ByteArray) : docV s = resV (rest1 s) (negB s) ∧ docE s = resE (rest1 s) := by
  by_cases h : head1 s = 43 ∨ head1 s = 45
  · have ef : frm s = 1 := if_pos h
    have er : rest1 s = s.extract 1 s.size := if_pos h
    have h0 : 0 < s.size := by
      by_cases h0 : 0 < s.size
      · exact h0
      · exfalso; unfold head1 at h; rw [dif_neg h0] at h; omega
    have hs := rest_size s
    rw [docV, docE, ef, er]
    by_cases h1 : s.size = 1
    · rw [if_pos h1.symm, if_pos h1.symm, resV, resE, allD_none (by omega)]
      exact ⟨rfl, rfl⟩
    · rw [if_neg (Ne.symm h1), if_neg (Ne.symm h1), parV, parE, resV, resE, allF_rest s (by omega)]
      have : num s 1 s.size = num (s.extract 1 s.size) 0 (s.extract 1 s.size).size := by
        rw [← num_rest, hs, show s.size - 1 + 1 = s.size from by omega]
      rw [this]
      exact ⟨rfl, rfl⟩
  · have ef : frm s = 0 := if_neg h
    have er : rest1 s = s := if_neg h
    rw [docV, docE, ef, er]
    by_cases h1 : s.size = 0
    · rw [if_pos h1.symm, if_pos h1.symm, resV, resE, allD_none h1]
      exact ⟨rfl, rfl⟩
    · rw [if_neg (Ne.symm h1), if_neg (Ne.symm h1), parV, parE, resV, resE, allF_zero s (by omega)]
      exact ⟨rfl, rfl⟩
theorem num_stuck {r : ByteArray} (hd : ∀ j, j < r.size → dgt r j = true) {k : Nat} (h : num r 0 k = 2147483648) (m : Nat) : k + m ≤ r.size → num r 0 (k + m) = 2147483648 := by
  induction m with
  | zero => intro _; exact h
  | succ m ih =>
    intro hm
    have i := ih (by omega)
    rw [← Nat.add_assoc, num_step (Nat.zero_le _) (by omega), i]
    have := (dgt_iff (show k + m < r.size by omega)).1 (hd _ (by omega))
    unfold mn2
    split <;> omega

set_option maxHeartbeats 800000 in
theorem parse_any (s : ByteArray) (w : World) (hm : s.size ≤ 9223372036854775807) :
    Calls Tryd.prog 58 #[.string s] w fun e w' => e = .returned (pairI (docV s) (docE s)) ∧ Below w.heap.size w w' := by
  have HD := Lib.hid (doc_res s)
  have hrs : (rest1 s).size ≤ s.size := by
    unfold rest1
    split
    · rw [rest_size]; omega
    · omega
  have hrm : (rest1 s).size ≤ 9223372036854775807 := by omega
  clear hrs
  have hconv : ∀ (w : World) (s : ByteArray), (convert 9 56 (.string s)).run Tryd.prog w = .ok (.slice (some ⟨w.heap.size, 0, none⟩) s.size (grownCap w s.size 0 5)) (Lib.bytesWorld w 5 s) :=
    fun w s => Lib.run_convert_string_bytes w _ _ _ s Tryd.underlying9 Tryd.underlying56 Tryd.underlying5
  go_enter Tryd.func58, Tryd.ntmps58
  go_wp2_with fail
  refine (cut_any _ _).mono ?_
  rintro e w1 ⟨rfl, hw1⟩
  have HB1 : Hid (Below w.heap.size w w1) := Lib.hid (by
    rcases hw1 with rfl | rfl
    · exact Below.refl _ _
    · exact (Below.refl _ _).drew)
  clear hw1
  generalize hr : rest1 s = r at *
  generalize hn : negB s = neg at *
  clear hr hn hm
  go_wp2_with fail
  refine (all_any _ _ hrm).mono ?_
  rintro e w' ⟨rfl, rfl⟩
  cases ha : allD r
  · have HR := Lib.hid (show resV r neg = 0 ∧ resE r = 7 from by simp [resV, resE, ha])
    clear ha
    go_wp2_with fail
    go_ret2
    exact ⟨by rw [HD.out.1, HD.out.2, HR.out.1, HR.out.2]; rfl, HB1.out⟩
  · have hdg : ∀ j, j < r.size → dgt r j = true := by
      simp [allD] at ha
      exact ha.1
    have HG := Lib.hid hdg
    clear hdg
    have HA := Lib.hid ha
    clear ha
    have hcl : ∀ k, k < r.size → (Lib.bytesWorld w1 5 r).cell? ⟨w1.heap.size, k, none⟩ = some (.int .u8 (r.data.toList.getD k 0).toNat) := fun k hk => Lib.bytesWorld_cell w1 _ r k hk
    have HC := Lib.hid hcl
    clear hcl
    have HB2 : Hid (Below w.heap.size w (Lib.bytesWorld w1 5 r)) := Lib.hid (HB1.out.trans (Go.Joins.below_bytesWorld _ _ _ _ HB1.out.size))
    go_wp2_with fail
    generalize Lib.bytesWorld w1 5 r = W2 at *
    go_loop [6, 20] (fun n i => ∃ (k : Nat) (x : Int), k ≤ r.size ∧ i = .int .i64 k ∧ n = .int .i64 x ∧ x = num r 0 k ∧ 0 ≤ x ∧ x ≤ 2147483647) (fun _ i => r.size - (intOf i).toNat)
    case atStart => exact ⟨0, 0, Nat.zero_le _, rfl, rfl, rfl, by decide, by decide⟩
    case round =>
      obtain ⟨k, x, hk, rfl, rfl, hx, hx0, hx1⟩ := hrel
      have HV := Lib.hid hx
      clear hx
      by_cases hlt : k < r.size
      · have hb := (dgt_iff hlt).1 (HG.out k hlt)
        have hcell := HC.out k hlt
        rw [show r.data.toList.getD k 0 = r[k] from by simp [List.getD, hlt]; rfl] at hcell
        have HS := Lib.hid (num_step (Nat.zero_le k) hlt)
        obtain ⟨hb1, hb2⟩ := hb
        by_cases hv : 10 * x + ((r[k].toNat : Int) - 48) ≤ 2147483647
        · have HVal := Lib.hid (show vld (10 * x + ((r[k].toNat : Int) - 48)) = true from vld_mk (by omega))
          go_wp2_with fail
          refine (valid_is HVal.out _).mono ?_
          rintro e w' ⟨rfl, rfl⟩
          go_wp2_with fail
          go_round
          case rel => exact ⟨k + 1, 10 * x + ((r[k].toNat : Int) - 48), by omega, by go_num, rfl, by rw [HS.out, ← HV.out]; unfold mn2; rw [if_neg (by omega)], by omega, by omega⟩
          case measure => simp [intOf]; omega
        · have HVal := Lib.hid (show vld (10 * x + ((r[k].toNat : Int) - 48)) = false from vld_no (by omega))
          have HE := Lib.hid (num_stuck HG.out (k := k + 1) (by rw [HS.out, ← HV.out]; unfold mn2; split <;> omega) (r.size - (k + 1)) (by omega))
          have HR := Lib.hid (show resV r neg = 0 ∧ resE r = 3 from by
            have e : num r 0 r.size = 2147483648 := by have := HE.out; rwa [show k + 1 + (r.size - (k + 1)) = r.size from by omega] at this
            simp [resV, resE, HA.out, e])
          go_wp2_with fail
          refine (valid_is HVal.out _).mono ?_
          rintro e w' ⟨rfl, rfl⟩
          go_wp2_with fail
          go_ret2
          exact ⟨by rw [HD.out.1, HD.out.2, HR.out.1, HR.out.2]; rfl, HB2.out⟩
      · obtain rfl : k = r.size := by omega
        cases neg
        · have HR := Lib.hid (show resV r false = x ∧ resE r = 0 from by
            simp only [resV, resE, HA.out, if_true, ← HV.out, if_pos hx1]
            exact ⟨rfl, trivial⟩)
          go_wp2_with fail
          go_ret2
          exact ⟨by rw [HD.out.1, HD.out.2, HR.out.1, HR.out.2]; rfl, HB2.out⟩
        · have HR := Lib.hid (show resV r true = -x ∧ resE r = 0 from by
            simp only [resV, resE, HA.out, if_true, ← HV.out, if_pos hx1]
            exact ⟨trivial, trivial⟩)
          go_wp2_with fail
          go_ret2
          exact ⟨by rw [HD.out.1, HD.out.2, HR.out.1, HR.out.2]; rfl, HB2.out⟩

end Go.Proofs.YtnmifeiokhpcfaaDoor.it
