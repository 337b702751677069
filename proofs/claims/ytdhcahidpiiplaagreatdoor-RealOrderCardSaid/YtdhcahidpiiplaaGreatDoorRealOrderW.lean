/-
  RealOrder: all ways together.
-/
import Derived.Test.YtdhcahidpiiplaaGreatDoorOrderR
import Derived.Test.YtdhcahidpiiplaaGreatDoorSanH

namespace Go.Proofs.YtdhcahidpiiplaaGreatDoor.realOrder
open Go.RowKit
set_option linter.unusedVariables false

theorem run (a0 a1 : Int) (w : World) (w0 : (Lit.int .i64 a0).wf = true) (w1 : (Lit.int .i64 a1).wf = true) (hP : P10 w) (hQ : TabQ w) :
    Calls Tryz.prog 3 #[.int .i64 a0, .int .i64 a1] w fun e w' => e = .returned (.bool true) ∧ Below w.heap.size w w' := by
  have HS := hsan w hP hQ
  obtain ⟨i1, i2⟩ := tm_bd a0
  obtain ⟨j1, j2⟩ := tm_bd a1
  obtain ⟨i, hi⟩ : ∃ i, a0.tmod 2533359616 = i := ⟨_, rfl⟩
  obtain ⟨j, hj⟩ : ∃ j, a1.tmod 2533359616 = j := ⟨_, rfl⟩
  rw [hi] at i1 i2
  rw [hj] at j1 j2
  have VX := Lib.hid (at_vr i1 i2)
  have VY := Lib.hid (at_vr j1 j2)
  obtain ⟨x1, x2, _, _⟩ := vr_bd VX.out
  have HI := Lib.hid (ix_at i1 i2)
  have hij : c3 (ix (aM i) (aE i)) (ix (aM j) (aE j)) = c3 i j := by rw [ix_at i1 i2, ix_at j1 j2]
  have hji : c3 (ix (aM j) (aE j)) (ix (aM i) (aE i)) = c3 j i := by rw [ix_at i1 i2, ix_at j1 j2]
  have ht : i = 2533359615 ∨ i < 2533359615 := by omega
  rcases ht with ht | ht
  · have h1 : (i == 2533359615) = true := by rw [ht]; rfl
    rcases Int.lt_trichotomy i j with h | h | h
    · omega
    · exact eq_t a0 a1 i j _ _ _ _ w hi hj i1 i2 j1 j2 (Lib.hid ⟨rfl, rfl⟩) (Lib.hid ⟨rfl, rfl⟩) VX VY x1 x2 HI (Lib.hid (by rw [hij, h]; simp [c3])) (Lib.hid (by rw [hji, h]; simp [c3])) (by simp [h]) (by simp [h]) HS h1
    · exact gt_t a0 a1 i j _ _ _ _ w hi hj i1 i2 j1 j2 (Lib.hid ⟨rfl, rfl⟩) (Lib.hid ⟨rfl, rfl⟩) VX VY x1 x2 HI (Lib.hid (by rw [hij]; unfold c3; rw [if_neg (by omega), if_pos h])) (Lib.hid (by rw [hji]; unfold c3; rw [if_pos h])) (by simp; omega) (by simp; omega) HS h1
  · have h1 : (i == 2533359615) = false := by simp; omega
    have XN := Lib.hid (show aM (i + 1) = aM (i + 1) ∧ aE (i + 1) = aE (i + 1) from ⟨rfl, rfl⟩)
    have VN := Lib.hid (at_vr (i := i + 1) (by omega) (by omega))
    have HN := Lib.hid (ix_at (i := i + 1) (by omega) (by omega))
    rcases Int.lt_trichotomy i j with h | h | h
    · exact lt_o a0 a1 i j _ _ _ _ _ _ w hi hj i1 i2 j1 j2 (Lib.hid ⟨rfl, rfl⟩) (Lib.hid ⟨rfl, rfl⟩) VX VY x1 x2 HI (Lib.hid (by rw [hij]; unfold c3; rw [if_pos h])) (Lib.hid (by rw [hji]; unfold c3; rw [if_neg (by omega), if_pos h])) h (by simp; omega) HS h1 ht XN VN HN
    · exact eq_o a0 a1 i j _ _ _ _ _ _ w hi hj i1 i2 j1 j2 (Lib.hid ⟨rfl, rfl⟩) (Lib.hid ⟨rfl, rfl⟩) VX VY x1 x2 HI (Lib.hid (by rw [hij, h]; simp [c3])) (Lib.hid (by rw [hji, h]; simp [c3])) (by simp [h]) (by simp [h]) HS h1 ht XN VN HN
    · exact gt_o a0 a1 i j _ _ _ _ _ _ w hi hj i1 i2 j1 j2 (Lib.hid ⟨rfl, rfl⟩) (Lib.hid ⟨rfl, rfl⟩) VX VY x1 x2 HI (Lib.hid (by rw [hij]; unfold c3; rw [if_neg (by omega), if_pos h])) (Lib.hid (by rw [hji]; unfold c3; rw [if_pos h])) (by simp; omega) (by simp; omega) HS h1 ht XN VN HN

end Go.Proofs.YtdhcahidpiiplaaGreatDoor.realOrder
