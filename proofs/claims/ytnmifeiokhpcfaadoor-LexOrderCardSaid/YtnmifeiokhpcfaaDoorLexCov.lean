/-
  The laws of lex: covered.
-/
import Derived.Test.YtnmifeiokhpcfaaDoorLex3

namespace Go.Proofs.YtnmifeiokhpcfaaDoor
open Go.RowKit
set_option linter.unusedVariables false

/-- are all bytes from i to j blanks? -/
def cov (s : ByteArray) (i j : Nat) : Bool := decide (∀ k, k < j → i ≤ k → isBlank (byt s k) = true)
theorem cov_iff {s : ByteArray} {i j : Nat} : cov s i j = true ↔ ∀ k, k < j → i ≤ k → isBlank (byt s k) = true := by simp [cov]
theorem byt_u8 {s : ByteArray} {k : Nat} (h : k < s.size) : (s.get! k).toNat = byt s k := by
  rw [byt_in h]
  show (s.data[k]!).toNat = _
  rw [getElem!_pos s.data k h]
  rfl

theorem blank_iff {n : Nat} : isBlank n = true ↔ n = 9 ∨ n = 10 ∨ n = 13 ∨ n = 32 := by
  unfold isBlank
  simp only [Bool.or_eq_true, beq_iff_eq]
  omega
theorem cov_no {s : ByteArray} {i j k : Nat} (h1 : i ≤ k) (h2 : k < j) (h : isBlank (byt s k) = false) : cov s i j = false := by
  cases hc : cov s i j
  · rfl
  · rw [cov_iff.1 hc k h2 h1] at h
    cases h

set_option maxRecDepth 100000 in
set_option maxHeartbeats 2000000 in
theorem covered_any (s : ByteArray) (i j : Nat) (w : World) (hj : j ≤ s.size) (hij : i ≤ j) (hs : s.size ≤ 1048576) :
    Calls Tryd.prog 9 #[.string s, .int .i64 i, .int .i64 j] w fun r w' => r = .returned (.bool (cov s i j)) ∧ w' = w := by
  go_enter Tryd.func9, Tryd.ntmps9
  go_wp2_with fail
  go_loopw [1] (fun a wz => ∃ k : Nat, a = .int .i64 (k : Int) ∧ i ≤ k ∧ k ≤ j ∧ (∀ q, q < k → i ≤ q → isBlank (byt s q) = true) ∧ wz = w) (fun a _ => j - (intOf a).toNat)
  case atStart => exact ⟨i, rfl, Nat.le_refl _, hij, fun q h1 h2 => by omega, rfl⟩
  case round =>
    obtain ⟨k, rfl, h1, h2, h3, rfl⟩ := hrel
    have H3 := Lib.hid h3
    clear h3
    by_cases hk : k < j
    · have hk1 : (k : Int) < (j : Int) := by omega
      have hk0 : (0 : Int) ≤ (k : Int) := by omega
      have hk2 : (k : Int) < (s.size : Int) := by omega
      have hks : k < s.size := by omega
      have HB := Lib.hid (byt_in hks)
      go_wp2_with fail
      case roundEnd =>
        refine ⟨⟨k + 1, by push_cast; rfl, by omega, by omega, fun q h4 h5 => ?_, trivial⟩, by simp only [intOf]; omega⟩
        by_cases hq : q = k
        · rw [hq, HB.out]
          exact blank_iff.2 (by omega)
        · exact H3.out q (by omega) h5
      case roundEnd =>
        refine ⟨⟨k + 1, by push_cast; rfl, by omega, by omega, fun q h4 h5 => ?_, trivial⟩, by simp only [intOf]; omega⟩
        by_cases hq : q = k
        · rw [hq, HB.out]
          exact blank_iff.2 (by omega)
        · exact H3.out q (by omega) h5
      case roundEnd =>
        refine ⟨⟨k + 1, by push_cast; rfl, by omega, by omega, fun q h4 h5 => ?_, trivial⟩, by simp only [intOf]; omega⟩
        by_cases hq : q = k
        · rw [hq, HB.out]
          exact blank_iff.2 (by omega)
        · exact H3.out q (by omega) h5
      case roundEnd =>
        rename_i hx
        refine ⟨⟨k + 1, by push_cast; rfl, by omega, by omega, fun q h4 h5 => ?_, trivial⟩, by simp only [intOf]; omega⟩
        by_cases hq : q = k
        · rw [hq, HB.out]
          simp only [bne_eq_false_iff_eq] at hx
          exact blank_iff.2 (by omega)
        · exact H3.out q (by omega) h5
      rename_i hx
      have HF := Lib.hid (cov_no h1 hk (by
        rw [HB.out]
        cases hc : isBlank s[k].toNat
        · rfl
        · simp only [bne_iff_ne, ne_eq] at hx
          have := blank_iff.1 hc
          omega))
      go_ret
      exact ⟨by rw [HF.out]; rfl, rfl⟩
    · have HE := Lib.hid (show cov s i j = true from cov_iff.2 fun q h4 h5 => H3.out q (by omega) h5)
      have hk1 : ¬ (k : Int) < (j : Int) := by omega
      go_wp2_with fail
      go_ret
      exact ⟨by rw [HE.out]; rfl, rfl⟩

end Go.Proofs.YtnmifeiokhpcfaaDoor
