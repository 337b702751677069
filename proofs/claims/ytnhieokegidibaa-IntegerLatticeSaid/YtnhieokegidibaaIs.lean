/-
  THE CONTRACTS AT KNOWN RESULTS: the same calls, where it is known what they come to.
-/
import Derived.Test.YtnhieokegidibaaDiv

namespace Go.Proofs.Ytnhieokegidibaa
open Go.RowKit

theorem add_ok {a b : Int} (h : bth a b = true) (hv : vld (a + b) = true) : addV a b = a + b ∧ addE a b = 0 := by simp [addV, addE, exV, exE, h, hv]
theorem add_out {a b : Int} (h : bth a b = true) (hv : vld (a + b) = false) : addV a b = 0 ∧ addE a b = 3 := by simp [addV, addE, exV, exE, h, hv]
theorem add_no {a b : Int} (h : bth a b = false) : addV a b = 0 ∧ addE a b = 1 := by simp [addV, addE, h]

theorem add_is {a b v e : Int} (h : addV a b = v ∧ addE a b = e) (w : World) :
    Calls Try.prog 41 #[.int .i64 a, .int .i64 b] w fun e' w' => e' = .returned (pairI v e) ∧ w = w' := by
  obtain ⟨rfl, rfl⟩ := h
  exact add_any a b w

theorem sub_ok {a b : Int} (h : bth a b = true) (hv : vld (a - b) = true) : subV a b = a - b ∧ subE a b = 0 := by simp [subV, subE, exV, exE, h, hv]
theorem sub_out {a b : Int} (h : bth a b = true) (hv : vld (a - b) = false) : subV a b = 0 ∧ subE a b = 3 := by simp [subV, subE, exV, exE, h, hv]
theorem sub_no {a b : Int} (h : bth a b = false) : subV a b = 0 ∧ subE a b = 1 := by simp [subV, subE, h]

theorem sub_is {a b v e : Int} (h : subV a b = v ∧ subE a b = e) (w : World) :
    Calls Try.prog 42 #[.int .i64 a, .int .i64 b] w fun e' w' => e' = .returned (pairI v e) ∧ w = w' := by
  obtain ⟨rfl, rfl⟩ := h
  exact sub_any a b w

theorem mul_ok {a b : Int} (h : bth a b = true) (hv : vld (a * b) = true) : mulV a b = a * b ∧ mulE a b = 0 := by simp [mulV, mulE, exV, exE, h, hv]
theorem mul_out {a b : Int} (h : bth a b = true) (hv : vld (a * b) = false) : mulV a b = 0 ∧ mulE a b = 3 := by simp [mulV, mulE, exV, exE, h, hv]
theorem mul_no {a b : Int} (h : bth a b = false) : mulV a b = 0 ∧ mulE a b = 1 := by simp [mulV, mulE, h]

theorem mul_is {a b v e : Int} (h : mulV a b = v ∧ mulE a b = e) (w : World) :
    Calls Try.prog 43 #[.int .i64 a, .int .i64 b] w fun e' w' => e' = .returned (pairI v e) ∧ w = w' := by
  obtain ⟨rfl, rfl⟩ := h
  exact mul_any a b w

theorem cmp_ok {a b x : Int} (h : bth a b = true) (hx : cmp3 a b = x) : cmpV a b = x ∧ cmpE a b = 0 := by simp [cmpV, cmpE, h, hx]
theorem cmp_no {a b : Int} (h : bth a b = false) : cmpV a b = 0 ∧ cmpE a b = 1 := by simp [cmpV, cmpE, h]

theorem cmp_is {a b v e : Int} (h : cmpV a b = v ∧ cmpE a b = e) (w : World) :
    Calls Try.prog 26 #[.int .i64 a, .int .i64 b] w fun e' w' => e' = .returned (pairI v e) ∧ w = w' := by
  obtain ⟨rfl, rfl⟩ := h
  exact cmp_any a b w

theorem valid_is {n : Int} {b : Bool} (h : vld n = b) (w : World) :
    Calls Try.prog 46 #[.int .i64 n] w fun e' w' => e' = .returned (.bool b) ∧ w = w' := by
  subst h
  exact valid_any n w

theorem quo_is {a b v e : Int} (h : quoV a b = v ∧ divE a b = e) (w : World) :
    Calls Try.prog 24 #[.int .i64 a, .int .i64 b] w fun e' w' => e' = .returned (pairI v e) ∧ w = w' := by
  obtain ⟨rfl, rfl⟩ := h
  exact quo_any a b w

theorem add_dec (a b : Int) : ((bth a b = true ∧ vld (a + b) = true) ∧ addV a b = a + b ∧ addE a b = 0) ∨ (addE a b == 0) = false := by
  cases h : bth a b
  · exact .inr (by rw [(add_no h).2]; rfl)
  · cases hv : vld (a + b)
    · exact .inr (by rw [(add_out h hv).2]; rfl)
    · exact .inl ⟨⟨rfl, rfl⟩, add_ok h hv⟩

theorem sub_dec (a b : Int) : ((bth a b = true ∧ vld (a - b) = true) ∧ subV a b = a - b ∧ subE a b = 0) ∨ (subE a b == 0) = false := by
  cases h : bth a b
  · exact .inr (by rw [(sub_no h).2]; rfl)
  · cases hv : vld (a - b)
    · exact .inr (by rw [(sub_out h hv).2]; rfl)
    · exact .inl ⟨⟨rfl, rfl⟩, sub_ok h hv⟩

theorem mul_dec (a b : Int) : ((bth a b = true ∧ vld (a * b) = true) ∧ mulV a b = a * b ∧ mulE a b = 0) ∨ (mulE a b == 0) = false := by
  cases h : bth a b
  · exact .inr (by rw [(mul_no h).2]; rfl)
  · cases hv : vld (a * b)
    · exact .inr (by rw [(mul_out h hv).2]; rfl)
    · exact .inl ⟨⟨rfl, rfl⟩, mul_ok h hv⟩

end Go.Proofs.Ytnhieokegidibaa
