/-
  WHAT EACH FUNCTION OF PACKAGE integer RETURNS, and each of the document's own answers beside it: one contract a function.
-/
import Derived.Test.YtfklicofohaccaaProg
import Derived.Test.YtfklicofohaccaaNum
import Derived.WalkKit
import Derived.ProofKit
import Derived.WalkSpells
import Derived.WalkLawsBesides
import Derived.Lib.Hide
namespace Go.Proofs.Ytfklicofohaccaa
open Go.RowKit

/-- the outcome of a call that hands back one value and leaves the world -/
def Gives (w : World) (v : Value) (e : Ending) (w' : World) : Prop := e = .returned v ∧ w = w'
abbrev pairI (v e : Int) : Value := .tuple #[.int .i64 v, .int .i64 e]

set_option maxHeartbeats 400000 in
theorem valid_any (n : Int) (w : World) :
    Calls Try.prog 15 #[.int .i64 n] w fun e w' => e = .returned (.bool (vld n)) ∧ w = w' := by
  cases hv : vld n
  · have h := vld_false hv
    rcases h with h | h
    · go_enter Try.func15, Try.ntmps15
      go_wp2
      go_ret
      exact ⟨rfl, rfl⟩
    · have h2 : -2147483647 ≤ n := by omega
      go_enter Try.func15, Try.ntmps15
      go_wp2
      go_ret
      exact ⟨by simp; omega, rfl⟩
  · have ⟨h1, h2⟩ := vld_iff.1 hv
    go_enter Try.func15, Try.ntmps15
    go_wp2
    go_ret
    exact ⟨rfl, rfl⟩

set_option maxHeartbeats 400000 in
theorem rvalid_any (n : Int) (w : World) :
    Calls Try.prog 16 #[.int .i64 n] w fun e w' => e = .returned (.bool (vld n)) ∧ w = w' := by
  cases hv : vld n
  · have h := vld_false hv
    rcases h with h | h
    · go_enter Try.func16, Try.ntmps16
      go_wp2
      go_ret
      exact ⟨rfl, rfl⟩
    · have h2 : -2147483647 ≤ n := by omega
      go_enter Try.func16, Try.ntmps16
      go_wp2
      go_ret
      exact ⟨by simp; omega, rfl⟩
  · have ⟨h1, h2⟩ := vld_iff.1 hv
    go_enter Try.func16, Try.ntmps16
    go_wp2
    go_ret
    exact ⟨rfl, rfl⟩

set_option maxHeartbeats 400000 in
theorem both_any (a b : Int) (w : World) :
    Calls Try.prog 65 #[.int .i64 a, .int .i64 b] w fun e w' => e = .returned (.bool (bth a b)) ∧ w = w' := by
  cases ha : vld a
  · go_enter Try.func65, Try.ntmps65
    go_wp2_with (go_at_call 15; refine (valid_any _ _).mono ?_; rintro e w' ⟨rfl, rfl⟩)
    go_ret
    exact ⟨by simp [bth, ha], rfl⟩
  · go_enter Try.func65, Try.ntmps65
    go_wp2_with (go_at_call 15; refine (valid_any _ _).mono ?_; rintro e w' ⟨rfl, rfl⟩)
    go_ret
    exact ⟨by simp [bth, ha], rfl⟩

set_option maxHeartbeats 400000 in
theorem inRange_any (n : Int) (w : World) :
    Calls Try.prog 66 #[.int .i64 n] w fun e w' => e = .returned (pairI (exV n) (exE n)) ∧ w = w' := by
  cases hv : vld n <;>
  · go_enter Try.func66, Try.ntmps66
    go_wp2_with (go_at_call 15; refine (valid_any _ _).mono ?_; rintro e w' ⟨rfl, rfl⟩)
    go_ret2
    exact ⟨by simp [exV, exE, hv], rfl⟩

set_option maxHeartbeats 400000 in
theorem exact_any (n : Int) (w : World) :
    Calls Try.prog 67 #[.int .i64 n] w fun e w' => e = .returned (pairI (exV n) (exE n)) ∧ w = w' := by
  cases hv : vld n <;>
  · go_enter Try.func67, Try.ntmps67
    go_wp2_with (go_at_call 16; refine (rvalid_any _ _).mono ?_; rintro e w' ⟨rfl, rfl⟩)
    go_ret2
    exact ⟨by simp [exV, exE, hv], rfl⟩

-- PART 2
set_option maxHeartbeats 400000 in
theorem add_any (a b : Int) (w : World) :
    Calls Try.prog 21 #[.int .i64 a, .int .i64 b] w fun e w' => e = .returned (pairI (addV a b) (addE a b)) ∧ w = w' := by
  cases h : bth a b
  · go_enter Try.func21, Try.ntmps21
    go_wp2_with (go_at_call 65; refine (both_any _ _ _).mono ?_; rintro e w' ⟨rfl, rfl⟩)
    go_ret2
    exact ⟨by simp [addV, addE, h], rfl⟩
  · have ⟨⟨h1, h2⟩, h3, h4⟩ := bth_iff.1 h
    skip
    go_enter Try.func21, Try.ntmps21
    go_wp2_with (first | (go_at_call 65; refine (both_any _ _ _).mono ?_; rintro e w' ⟨rfl, rfl⟩) | (go_at_call 66; refine (inRange_any _ _).mono ?_; rintro e w' ⟨rfl, rfl⟩))
    go_ret2
    exact ⟨by simp [addV, addE, h], rfl⟩

set_option maxHeartbeats 400000 in
theorem radd_any (a b : Int) (w : World) :
    Calls Try.prog 22 #[.int .i64 a, .int .i64 b] w fun e w' => e = .returned (pairI (addV a b) (addE a b)) ∧ w = w' := by
  cases ha : vld a
  · go_enter Try.func22, Try.ntmps22
    go_wp2_with (go_at_call 16; refine (rvalid_any _ _).mono ?_; rintro e w' ⟨rfl, rfl⟩)
    go_ret2
    exact ⟨by simp [addV, addE, bth, ha], rfl⟩
  · cases hb : vld b
    · go_enter Try.func22, Try.ntmps22
      go_wp2_with (go_at_call 16; refine (rvalid_any _ _).mono ?_; rintro e w' ⟨rfl, rfl⟩)
      go_ret2
      exact ⟨by simp [addV, addE, bth, ha, hb], rfl⟩
    · have ⟨h1, h2⟩ := vld_iff.1 ha
      have ⟨h3, h4⟩ := vld_iff.1 hb
      skip
      go_enter Try.func22, Try.ntmps22
      go_wp2_with (first | (go_at_call 16; refine (rvalid_any _ _).mono ?_; rintro e w' ⟨rfl, rfl⟩) | (go_at_call 67; refine (exact_any _ _).mono ?_; rintro e w' ⟨rfl, rfl⟩))
      go_ret2
      exact ⟨by simp [addV, addE, bth, ha, hb], rfl⟩

set_option maxHeartbeats 400000 in
theorem sub_any (a b : Int) (w : World) :
    Calls Try.prog 23 #[.int .i64 a, .int .i64 b] w fun e w' => e = .returned (pairI (subV a b) (subE a b)) ∧ w = w' := by
  cases h : bth a b
  · go_enter Try.func23, Try.ntmps23
    go_wp2_with (go_at_call 65; refine (both_any _ _ _).mono ?_; rintro e w' ⟨rfl, rfl⟩)
    go_ret2
    exact ⟨by simp [subV, subE, h], rfl⟩
  · have ⟨⟨h1, h2⟩, h3, h4⟩ := bth_iff.1 h
    skip
    go_enter Try.func23, Try.ntmps23
    go_wp2_with (first | (go_at_call 65; refine (both_any _ _ _).mono ?_; rintro e w' ⟨rfl, rfl⟩) | (go_at_call 66; refine (inRange_any _ _).mono ?_; rintro e w' ⟨rfl, rfl⟩))
    go_ret2
    exact ⟨by simp [subV, subE, h], rfl⟩

set_option maxHeartbeats 400000 in
theorem rsub_any (a b : Int) (w : World) :
    Calls Try.prog 24 #[.int .i64 a, .int .i64 b] w fun e w' => e = .returned (pairI (subV a b) (subE a b)) ∧ w = w' := by
  cases ha : vld a
  · go_enter Try.func24, Try.ntmps24
    go_wp2_with (go_at_call 16; refine (rvalid_any _ _).mono ?_; rintro e w' ⟨rfl, rfl⟩)
    go_ret2
    exact ⟨by simp [subV, subE, bth, ha], rfl⟩
  · cases hb : vld b
    · go_enter Try.func24, Try.ntmps24
      go_wp2_with (go_at_call 16; refine (rvalid_any _ _).mono ?_; rintro e w' ⟨rfl, rfl⟩)
      go_ret2
      exact ⟨by simp [subV, subE, bth, ha, hb], rfl⟩
    · have ⟨h1, h2⟩ := vld_iff.1 ha
      have ⟨h3, h4⟩ := vld_iff.1 hb
      skip
      go_enter Try.func24, Try.ntmps24
      go_wp2_with (first | (go_at_call 16; refine (rvalid_any _ _).mono ?_; rintro e w' ⟨rfl, rfl⟩) | (go_at_call 67; refine (exact_any _ _).mono ?_; rintro e w' ⟨rfl, rfl⟩))
      go_ret2
      exact ⟨by simp [subV, subE, bth, ha, hb], rfl⟩

set_option maxHeartbeats 400000 in
theorem mul_any (a b : Int) (w : World) :
    Calls Try.prog 25 #[.int .i64 a, .int .i64 b] w fun e w' => e = .returned (pairI (mulV a b) (mulE a b)) ∧ w = w' := by
  cases h : bth a b
  · go_enter Try.func25, Try.ntmps25
    go_wp2_with (go_at_call 65; refine (both_any _ _ _).mono ?_; rintro e w' ⟨rfl, rfl⟩)
    go_ret2
    exact ⟨by simp [mulV, mulE, h], rfl⟩
  · have ⟨⟨h1, h2⟩, h3, h4⟩ := bth_iff.1 h
    have ⟨h5, h6⟩ := prod_le (a := a) (b := b) ⟨h1, h2⟩ ⟨h3, h4⟩
    go_enter Try.func25, Try.ntmps25
    go_wp2_with (first | (go_at_call 65; refine (both_any _ _ _).mono ?_; rintro e w' ⟨rfl, rfl⟩) | (go_at_call 66; refine (inRange_any _ _).mono ?_; rintro e w' ⟨rfl, rfl⟩))
    go_ret2
    exact ⟨by simp [mulV, mulE, h], rfl⟩

set_option maxHeartbeats 400000 in
theorem rmul_any (a b : Int) (w : World) :
    Calls Try.prog 26 #[.int .i64 a, .int .i64 b] w fun e w' => e = .returned (pairI (mulV a b) (mulE a b)) ∧ w = w' := by
  cases ha : vld a
  · go_enter Try.func26, Try.ntmps26
    go_wp2_with (go_at_call 16; refine (rvalid_any _ _).mono ?_; rintro e w' ⟨rfl, rfl⟩)
    go_ret2
    exact ⟨by simp [mulV, mulE, bth, ha], rfl⟩
  · cases hb : vld b
    · go_enter Try.func26, Try.ntmps26
      go_wp2_with (go_at_call 16; refine (rvalid_any _ _).mono ?_; rintro e w' ⟨rfl, rfl⟩)
      go_ret2
      exact ⟨by simp [mulV, mulE, bth, ha, hb], rfl⟩
    · have ⟨h1, h2⟩ := vld_iff.1 ha
      have ⟨h3, h4⟩ := vld_iff.1 hb
      have ⟨h5, h6⟩ := prod_le (a := a) (b := b) ⟨h1, h2⟩ ⟨h3, h4⟩
      go_enter Try.func26, Try.ntmps26
      go_wp2_with (first | (go_at_call 16; refine (rvalid_any _ _).mono ?_; rintro e w' ⟨rfl, rfl⟩) | (go_at_call 67; refine (exact_any _ _).mono ?_; rintro e w' ⟨rfl, rfl⟩))
      go_ret2
      exact ⟨by simp [mulV, mulE, bth, ha, hb], rfl⟩

set_option maxHeartbeats 400000 in
theorem compare_any (a b : Int) (w : World) :
    Calls Try.prog 64 #[.int .i64 a, .int .i64 b] w fun e w' => e = .returned (.int .i64 (cmp3 a b)) ∧ w = w' := by
  by_cases h : a < b
  · go_enter Try.func64, Try.ntmps64
    go_wp2
    go_ret
    exact ⟨by simp [cmp3, h], rfl⟩
  · by_cases h2 : b < a
    · go_enter Try.func64, Try.ntmps64
      go_wp2
      go_ret
      exact ⟨by rw [cmp3_gt (by omega)]; rfl, rfl⟩
    · go_enter Try.func64, Try.ntmps64
      go_wp2
      go_ret
      exact ⟨by rw [cmp3_eq (by omega) (by omega)]; rfl, rfl⟩

set_option maxHeartbeats 400000 in
theorem cmp_any (a b : Int) (w : World) :
    Calls Try.prog 27 #[.int .i64 a, .int .i64 b] w fun e w' => e = .returned (pairI (cmpV a b) (cmpE a b)) ∧ w = w' := by
  cases h : bth a b <;>
  · go_enter Try.func27, Try.ntmps27
    go_wp2_with (first | (go_at_call 65; refine (both_any _ _ _).mono ?_; rintro e w' ⟨rfl, rfl⟩) | (go_at_call 64; refine (compare_any _ _ _).mono ?_; rintro e w' ⟨rfl, rfl⟩))
    go_ret2
    exact ⟨by simp [cmpV, cmpE, h], rfl⟩

set_option maxHeartbeats 400000 in
theorem rcmp_any (a b : Int) (w : World) :
    Calls Try.prog 28 #[.int .i64 a, .int .i64 b] w fun e w' => e = .returned (pairI (cmpV a b) (cmpE a b)) ∧ w = w' := by
  cases ha : vld a
  · go_enter Try.func28, Try.ntmps28
    go_wp2_with (go_at_call 16; refine (rvalid_any _ _).mono ?_; rintro e w' ⟨rfl, rfl⟩)
    go_ret2
    exact ⟨by simp [cmpV, cmpE, bth, ha], rfl⟩
  · cases hb : vld b
    · go_enter Try.func28, Try.ntmps28
      go_wp2_with (go_at_call 16; refine (rvalid_any _ _).mono ?_; rintro e w' ⟨rfl, rfl⟩)
      go_ret2
      exact ⟨by simp [cmpV, cmpE, bth, ha, hb], rfl⟩
    · by_cases h : a < b
      · go_enter Try.func28, Try.ntmps28
        go_wp2_with (go_at_call 16; refine (rvalid_any _ _).mono ?_; rintro e w' ⟨rfl, rfl⟩)
        go_ret2
        exact ⟨by simp [cmpV, cmpE, bth, ha, hb, cmp3, h], rfl⟩
      · by_cases h2 : b < a
        · go_enter Try.func28, Try.ntmps28
          go_wp2_with (go_at_call 16; refine (rvalid_any _ _).mono ?_; rintro e w' ⟨rfl, rfl⟩)
          go_ret2
          exact ⟨by simp [cmpV, cmpE, bth, ha, hb, cmp3_gt (a := a) (b := b) (by omega)], rfl⟩
        · go_enter Try.func28, Try.ntmps28
          go_wp2_with (go_at_call 16; refine (rvalid_any _ _).mono ?_; rintro e w' ⟨rfl, rfl⟩)
          go_ret2
          exact ⟨by simp [cmpV, cmpE, bth, ha, hb, cmp3_eq (a := a) (b := b) (by omega) (by omega)], rfl⟩

set_option maxHeartbeats 400000 in
theorem neg_any (a : Int) (w : World) :
    Calls Try.prog 13 #[.int .i64 a] w fun e w' => e = .returned (pairI (oneV a (-a)) (oneE a)) ∧ w = w' := by
  cases ha : vld a
  · go_enter Try.func13, Try.ntmps13
    go_wp2_with (go_at_call 15; refine (valid_any _ _).mono ?_; rintro e w' ⟨rfl, rfl⟩)
    go_ret2
    exact ⟨by simp [oneV, oneE, ha], rfl⟩
  · have ⟨h1, h2⟩ := vld_iff.1 ha
    skip
    go_enter Try.func13, Try.ntmps13
    go_wp2_with (go_at_call 15; refine (valid_any _ _).mono ?_; rintro e w' ⟨rfl, rfl⟩)
    go_ret2
    exact ⟨by simp [oneV, oneE, ha], rfl⟩

set_option maxHeartbeats 400000 in
theorem rneg_any (a : Int) (w : World) :
    Calls Try.prog 14 #[.int .i64 a] w fun e w' => e = .returned (pairI (oneV a (-a)) (oneE a)) ∧ w = w' := by
  cases ha : vld a
  · go_enter Try.func14, Try.ntmps14
    go_wp2_with (go_at_call 16; refine (rvalid_any _ _).mono ?_; rintro e w' ⟨rfl, rfl⟩)
    go_ret2
    exact ⟨by simp [oneV, oneE, ha], rfl⟩
  · have ⟨h1, h2⟩ := vld_iff.1 ha
    skip
    go_enter Try.func14, Try.ntmps14
    go_wp2_with (go_at_call 16; refine (rvalid_any _ _).mono ?_; rintro e w' ⟨rfl, rfl⟩)
    go_ret2
    exact ⟨by simp [oneV, oneE, ha], rfl⟩

set_option maxHeartbeats 400000 in
theorem abs_any (a : Int) (w : World) :
    Calls Try.prog 17 #[.int .i64 a] w fun e w' => e = .returned (pairI (oneV a (absI a)) (oneE a)) ∧ w = w' := by
  cases ha : vld a
  · go_enter Try.func17, Try.ntmps17
    go_wp2_with (go_at_call 15; refine (valid_any _ _).mono ?_; rintro e w' ⟨rfl, rfl⟩)
    go_ret2
    exact ⟨by simp [oneV, oneE, ha], rfl⟩
  · have ⟨h1, h2⟩ := vld_iff.1 ha
    by_cases h : a < 0
    · go_enter Try.func17, Try.ntmps17
      go_wp2_with (go_at_call 15; refine (valid_any _ _).mono ?_; rintro e w' ⟨rfl, rfl⟩)
      go_ret2
      exact ⟨by simp [oneV, oneE, ha, absI] <;> omega, rfl⟩
    · go_enter Try.func17, Try.ntmps17
      go_wp2_with (go_at_call 15; refine (valid_any _ _).mono ?_; rintro e w' ⟨rfl, rfl⟩)
      go_ret2
      exact ⟨by simp [oneV, oneE, ha, absI] <;> omega, rfl⟩

set_option maxHeartbeats 400000 in
theorem rabs_any (a : Int) (w : World) :
    Calls Try.prog 18 #[.int .i64 a] w fun e w' => e = .returned (pairI (oneV a (absI a)) (oneE a)) ∧ w = w' := by
  cases ha : vld a
  · go_enter Try.func18, Try.ntmps18
    go_wp2_with (go_at_call 16; refine (rvalid_any _ _).mono ?_; rintro e w' ⟨rfl, rfl⟩)
    go_ret2
    exact ⟨by simp [oneV, oneE, ha], rfl⟩
  · have ⟨h1, h2⟩ := vld_iff.1 ha
    by_cases h : a < 0
    · go_enter Try.func18, Try.ntmps18
      go_wp2_with (go_at_call 16; refine (rvalid_any _ _).mono ?_; rintro e w' ⟨rfl, rfl⟩)
      go_ret2
      exact ⟨by simp [oneV, oneE, ha, absI] <;> omega, rfl⟩
    · go_enter Try.func18, Try.ntmps18
      go_wp2_with (go_at_call 16; refine (rvalid_any _ _).mono ?_; rintro e w' ⟨rfl, rfl⟩)
      go_ret2
      exact ⟨by simp [oneV, oneE, ha, absI] <;> omega, rfl⟩

set_option maxHeartbeats 400000 in
theorem sign_any (a : Int) (w : World) :
    Calls Try.prog 19 #[.int .i64 a] w fun e w' => e = .returned (pairI (cmpV a 0) (cmpE a 0)) ∧ w = w' := by
  have h0 : vld 0 = true := rfl
  cases ha : vld a <;>
  · go_enter Try.func19, Try.ntmps19
    go_wp2_with (first | (go_at_call 15; refine (valid_any _ _).mono ?_; rintro e w' ⟨rfl, rfl⟩) | (go_at_call 64; refine (compare_any _ _ _).mono ?_; rintro e w' ⟨rfl, rfl⟩))
    go_ret2
    exact ⟨by simp [cmpV, cmpE, bth, h0, ha], rfl⟩

set_option maxHeartbeats 400000 in
theorem rsign_any (a : Int) (w : World) :
    Calls Try.prog 20 #[.int .i64 a] w fun e w' => e = .returned (pairI (cmpV a 0) (cmpE a 0)) ∧ w = w' := by
  go_enter Try.func20, Try.ntmps20
  go_wp2_with (go_at_call 28; refine (rcmp_any _ _ _).mono ?_; rintro e w' ⟨rfl, rfl⟩)
  go_ret2
  exact ⟨rfl, rfl⟩

end Go.Proofs.Ytfklicofohaccaa
