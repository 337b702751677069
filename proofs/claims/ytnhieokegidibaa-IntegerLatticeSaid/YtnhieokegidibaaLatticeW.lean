/-
  IntegerLattice: the walk, all ways.
-/
import Derived.Test.YtnhieokegidibaaLatA
import Derived.Test.YtnhieokegidibaaLatB
import Derived.Test.YtnhieokegidibaaLatC
import Derived.Test.YtnhieokegidibaaLatD
import Derived.Test.YtnhieokegidibaaLatE

namespace Go.Proofs.Ytnhieokegidibaa.integerLattice
open Go.RowKit
set_option linter.unusedVariables false
set_option linter.unusedSimpArgs false

theorem run (l0 u0 : Int) (l1 u1 : Int) (l2 u2 : Int) (n : Int) (w : World) (wl0 : (Lit.int .i64 l0).wf = true) (wu0 : (Lit.int .i64 u0).wf = true) (wl1 : (Lit.int .i64 l1).wf = true) (wu1 : (Lit.int .i64 u1).wf = true) (wl2 : (Lit.int .i64 l2).wf = true) (wu2 : (Lit.int .i64 u2).wf = true) (w3 : (Lit.int .i64 n).wf = true) :
    Calls Try.prog 6 #[spanV l0 u0, spanV l1 u1, spanV l2 u2, .int .i64 n] w fun e w' => e = .returned (.bool true) ∧ Below w.heap.size w w' := by
  cases ha : vsp l0 u0
  · exact bad1 l0 u0 l1 u1 l2 u2 n w (Lib.hid ha)
  cases hb : vsp l1 u1
  · exact bad2 l0 u0 l1 u1 l2 u2 n w (Lib.hid ha) (Lib.hid hb)
  cases hc : vsp l2 u2
  · exact bad3 l0 u0 l1 u1 l2 u2 n w (Lib.hid ha) (Lib.hid hb) (Lib.hid hc)
  have va := vsp_iff.1 ha
  have vb := vsp_iff.1 hb
  have hbs : bsp l0 u0 l1 u1 = true := by simp [bsp, ha, hb]
  have j1 : mn l0 l1 ≤ l0 ∧ mn l0 l1 ≤ l1 ∧ (mn l0 l1 = l0 ∨ mn l0 l1 = l1) := by unfold mn; split <;> omega
  have j2 : u0 ≤ mx u0 u1 ∧ u1 ≤ mx u0 u1 ∧ (mx u0 u1 = u0 ∨ mx u0 u1 = u1) := by unfold mx; split <;> omega
  have hj : joinL l0 u0 l1 u1 = mn l0 l1 ∧ joinH l0 u0 l1 u1 = mx u0 u1 ∧ joinE l0 u0 l1 u1 = 0 := by simp [joinL, joinH, joinE, hbs]
  have hvj : vsp (mn l0 l1) (mx u0 u1) = true := by rw [vsp_iff]; omega
  have hbj : bsp l0 u0 (mn l0 l1) (mx u0 u1) = true := by simp [bsp, ha, hvj]
  have k1 : mx l0 (mn l0 l1) = l0 := by unfold mx; split <;> omega
  have k2 : mn u0 (mx u0 u1) = u0 := by unfold mn; split <;> omega
  have hok : meetOK l0 u0 (mn l0 l1) (mx u0 u1) = true := by rw [meetOK, k1, k2]; exact ha
  have hk : meetL l0 u0 (mn l0 l1) (mx u0 u1) = l0 ∧ meetH l0 u0 (mn l0 l1) (mx u0 u1) = u0 ∧ meetE l0 u0 (mn l0 l1) (mx u0 u1) = 0 := by
    simp [meetL, meetH, meetE, hbj, hok, k1, k2]
  have hw1 : (decide (mn l0 l1 ≤ l0) && decide (u0 ≤ mx u0 u1)) = true := by simp; omega
  have hw2 : (decide (mn l0 l1 ≤ l1) && decide (u1 ≤ mx u0 u1)) = true := by simp; omega
  have hr : (decide (l2 ≤ l0) && decide (u0 ≤ u2)) = true → (decide (l2 ≤ l1) && decide (u1 ≤ u2)) = true → (decide (l2 ≤ mn l0 l1) && decide (mx u0 u1 ≤ u2)) = true := by
    intro h1 h2
    simp at h1 h2 ⊢
    omega
  cases hmo : meetOK l0 u0 l1 u1
  · have hm : meetL l0 u0 l1 u1 = 0 ∧ meetH l0 u0 l1 u1 = 0 ∧ meetE l0 u0 l1 u1 = 5 := by simp [meetL, meetH, meetE, hbs, hmo]
    cases hia : (decide (l0 ≤ n) && decide (n ≤ u0))
    · cases hp : (decide (l2 ≤ l0) && decide (u0 ≤ u2))
      · exact cEf l0 u0 l1 u1 l2 u2 n _ _ _ _ w (Lib.hid ha) (Lib.hid hb) (Lib.hid hc) (Lib.hid hm) (Lib.hid hia) (Lib.hid hj) (Lib.hid hw1) (Lib.hid hw2) (Lib.hid hp) (Lib.hid hk)
      · cases hq : (decide (l2 ≤ l1) && decide (u1 ≤ u2))
        · exact cEtf l0 u0 l1 u1 l2 u2 n _ _ _ _ w (Lib.hid ha) (Lib.hid hb) (Lib.hid hc) (Lib.hid hm) (Lib.hid hia) (Lib.hid hj) (Lib.hid hw1) (Lib.hid hw2) (Lib.hid hp) (Lib.hid hq) (Lib.hid hk)
        · exact cEtt l0 u0 l1 u1 l2 u2 n _ _ _ _ w (Lib.hid ha) (Lib.hid hb) (Lib.hid hc) (Lib.hid hm) (Lib.hid hia) (Lib.hid hj) (Lib.hid hw1) (Lib.hid hw2) (Lib.hid hp) (Lib.hid hq) (Lib.hid (hr hp hq)) (Lib.hid hk)
    · cases hib : (decide (l1 ≤ n) && decide (n ≤ u1))
      · cases hp : (decide (l2 ≤ l0) && decide (u0 ≤ u2))
        · exact cDf l0 u0 l1 u1 l2 u2 n _ _ _ _ w (Lib.hid ha) (Lib.hid hb) (Lib.hid hc) (Lib.hid hm) (Lib.hid hia) (Lib.hid hib) (Lib.hid hj) (Lib.hid hw1) (Lib.hid hw2) (Lib.hid hp) (Lib.hid hk)
        · cases hq : (decide (l2 ≤ l1) && decide (u1 ≤ u2))
          · exact cDtf l0 u0 l1 u1 l2 u2 n _ _ _ _ w (Lib.hid ha) (Lib.hid hb) (Lib.hid hc) (Lib.hid hm) (Lib.hid hia) (Lib.hid hib) (Lib.hid hj) (Lib.hid hw1) (Lib.hid hw2) (Lib.hid hp) (Lib.hid hq) (Lib.hid hk)
          · exact cDtt l0 u0 l1 u1 l2 u2 n _ _ _ _ w (Lib.hid ha) (Lib.hid hb) (Lib.hid hc) (Lib.hid hm) (Lib.hid hia) (Lib.hid hib) (Lib.hid hj) (Lib.hid hw1) (Lib.hid hw2) (Lib.hid hp) (Lib.hid hq) (Lib.hid (hr hp hq)) (Lib.hid hk)
      · exfalso
        have hmo2 : meetOK l0 u0 l1 u1 = true := by
          rw [meetOK, vsp_iff]
          simp at hia hib
          unfold mx mn
          split <;> split <;> omega
        rw [hmo2] at hmo
        cases hmo
  · have hm : meetL l0 u0 l1 u1 = mx l0 l1 ∧ meetH l0 u0 l1 u1 = mn u0 u1 ∧ meetE l0 u0 l1 u1 = 0 := by simp [meetL, meetH, meetE, hbs, hmo]
    have hin : (decide (mx l0 l1 ≤ n) && decide (n ≤ mn u0 u1)) = ((decide (l0 ≤ n) && decide (n ≤ u0)) && (decide (l1 ≤ n) && decide (n ≤ u1))) := by
      rw [Bool.eq_iff_iff]
      unfold mx mn
      simp only [Bool.and_eq_true, decide_eq_true_eq]
      split <;> split <;> omega
    cases hia : (decide (l0 ≤ n) && decide (n ≤ u0))
    · have him : (decide (mx l0 l1 ≤ n) && decide (n ≤ mn u0 u1)) = false := by rw [hin, hia]; rfl
      cases hp : (decide (l2 ≤ l0) && decide (u0 ≤ u2))
      · exact cCf l0 u0 l1 u1 l2 u2 n _ _ _ _ w (Lib.hid ha) (Lib.hid hb) (Lib.hid hc) (Lib.hid hm) (Lib.hid hia) (Lib.hid him) (Lib.hid hj) (Lib.hid hw1) (Lib.hid hw2) (Lib.hid hp) (Lib.hid hk)
      · cases hq : (decide (l2 ≤ l1) && decide (u1 ≤ u2))
        · exact cCtf l0 u0 l1 u1 l2 u2 n _ _ _ _ w (Lib.hid ha) (Lib.hid hb) (Lib.hid hc) (Lib.hid hm) (Lib.hid hia) (Lib.hid him) (Lib.hid hj) (Lib.hid hw1) (Lib.hid hw2) (Lib.hid hp) (Lib.hid hq) (Lib.hid hk)
        · exact cCtt l0 u0 l1 u1 l2 u2 n _ _ _ _ w (Lib.hid ha) (Lib.hid hb) (Lib.hid hc) (Lib.hid hm) (Lib.hid hia) (Lib.hid him) (Lib.hid hj) (Lib.hid hw1) (Lib.hid hw2) (Lib.hid hp) (Lib.hid hq) (Lib.hid (hr hp hq)) (Lib.hid hk)
    · cases hib : (decide (l1 ≤ n) && decide (n ≤ u1))
      · have him : (decide (mx l0 l1 ≤ n) && decide (n ≤ mn u0 u1)) = false := by rw [hin, hia, hib]; rfl
        cases hp : (decide (l2 ≤ l0) && decide (u0 ≤ u2))
        · exact cBf l0 u0 l1 u1 l2 u2 n _ _ _ _ w (Lib.hid ha) (Lib.hid hb) (Lib.hid hc) (Lib.hid hm) (Lib.hid hia) (Lib.hid hib) (Lib.hid him) (Lib.hid hj) (Lib.hid hw1) (Lib.hid hw2) (Lib.hid hp) (Lib.hid hk)
        · cases hq : (decide (l2 ≤ l1) && decide (u1 ≤ u2))
          · exact cBtf l0 u0 l1 u1 l2 u2 n _ _ _ _ w (Lib.hid ha) (Lib.hid hb) (Lib.hid hc) (Lib.hid hm) (Lib.hid hia) (Lib.hid hib) (Lib.hid him) (Lib.hid hj) (Lib.hid hw1) (Lib.hid hw2) (Lib.hid hp) (Lib.hid hq) (Lib.hid hk)
          · exact cBtt l0 u0 l1 u1 l2 u2 n _ _ _ _ w (Lib.hid ha) (Lib.hid hb) (Lib.hid hc) (Lib.hid hm) (Lib.hid hia) (Lib.hid hib) (Lib.hid him) (Lib.hid hj) (Lib.hid hw1) (Lib.hid hw2) (Lib.hid hp) (Lib.hid hq) (Lib.hid (hr hp hq)) (Lib.hid hk)
      · have him : (decide (mx l0 l1 ≤ n) && decide (n ≤ mn u0 u1)) = true := by rw [hin, hia, hib]; rfl
        cases hp : (decide (l2 ≤ l0) && decide (u0 ≤ u2))
        · exact cAf l0 u0 l1 u1 l2 u2 n _ _ _ _ w (Lib.hid ha) (Lib.hid hb) (Lib.hid hc) (Lib.hid hm) (Lib.hid hia) (Lib.hid hib) (Lib.hid him) (Lib.hid hj) (Lib.hid hw1) (Lib.hid hw2) (Lib.hid hp) (Lib.hid hk)
        · cases hq : (decide (l2 ≤ l1) && decide (u1 ≤ u2))
          · exact cAtf l0 u0 l1 u1 l2 u2 n _ _ _ _ w (Lib.hid ha) (Lib.hid hb) (Lib.hid hc) (Lib.hid hm) (Lib.hid hia) (Lib.hid hib) (Lib.hid him) (Lib.hid hj) (Lib.hid hw1) (Lib.hid hw2) (Lib.hid hp) (Lib.hid hq) (Lib.hid hk)
          · exact cAtt l0 u0 l1 u1 l2 u2 n _ _ _ _ w (Lib.hid ha) (Lib.hid hb) (Lib.hid hc) (Lib.hid hm) (Lib.hid hia) (Lib.hid hib) (Lib.hid him) (Lib.hid hj) (Lib.hid hw1) (Lib.hid hw2) (Lib.hid hp) (Lib.hid hq) (Lib.hid (hr hp hq)) (Lib.hid hk)

end Go.Proofs.Ytnhieokegidibaa.integerLattice
