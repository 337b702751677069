/-
  THE DOCUMENT'S OWN ANSWER ON SPANS OF QUOTIENTS.
-/
import Derived.Test.YtnhieokegidibaaRSpan2
import Derived.Test.YtnhieokegidibaaQuoB
import Derived.Test.YtnhieokegidibaaBetween
import Derived.Deep.RegionHeld3
import Derived.Deep.DeepCutAuto

namespace Go.Proofs.Ytnhieokegidibaa
open Go.RowKit

/-- the divisors that the document looks at -/
def dv (lb ub : Int) : Nat → Int
  | 0 => lb
  | 1 => ub
  | 2 => 1
  | _ => -1
def tkn (lb ub d : Int) : Bool := !(d == 0) && (decide (lb ≤ d) && decide (d ≤ ub))
/-- the least and the greatest quotient so far -/
def qLo (la ua lb ub : Int) : Nat → Int
  | 0 => 2147483647
  | k + 1 => if tkn lb ub (dv lb ub k) then mn (mn (qLo la ua lb ub k) (la.tdiv (dv lb ub k))) (ua.tdiv (dv lb ub k)) else qLo la ua lb ub k
def qHi (la ua lb ub : Int) : Nat → Int
  | 0 => -2147483647
  | k + 1 => if tkn lb ub (dv lb ub k) then mx (mx (qHi la ua lb ub k) (la.tdiv (dv lb ub k))) (ua.tdiv (dv lb ub k)) else qHi la ua lb ub k

theorem le_mn_iff {z a b : Int} : z ≤ mn a b ↔ z ≤ a ∧ z ≤ b := by unfold mn; split <;> omega
theorem mn_le_iff {z a b : Int} : mn a b ≤ z ↔ a ≤ z ∨ b ≤ z := by unfold mn; split <;> omega
theorem mx_le_iff {z a b : Int} : mx a b ≤ z ↔ a ≤ z ∧ b ≤ z := by unfold mx; split <;> omega
theorem le_mx_iff {z a b : Int} : z ≤ mx a b ↔ z ≤ a ∨ z ≤ b := by unfold mx; split <;> omega
theorem tdiv_bd {x d : Int} (h : -2147483647 ≤ x ∧ x ≤ 2147483647) : -2147483647 ≤ x.tdiv d ∧ x.tdiv d ≤ 2147483647 := by
  have k := Int.natAbs_tdiv x d
  have k1 := Nat.div_le_self x.natAbs d.natAbs
  rw [show x.natAbs / d.natAbs = x.natAbs.div d.natAbs from rfl, ← k] at k1
  omega

/-- what SpanQuo is to return -/
def qL (la ua lb ub : Int) : Int := if bsp la ua lb ub then (if lb ≤ -1 then (if 1 ≤ ub then mn (low4 (quoF la ua lb (-1))) (low4 (quoF la ua 1 ub)) else if ub = 0 then low4 (quoF la ua lb (-1)) else low4 (quoF la ua lb ub)) else if 1 ≤ ub then (if lb = 0 then low4 (quoF la ua 1 ub) else low4 (quoF la ua lb ub)) else 0) else 0
def qH (la ua lb ub : Int) : Int := if bsp la ua lb ub then (if lb ≤ -1 then (if 1 ≤ ub then mx (high4 (quoF la ua lb (-1))) (high4 (quoF la ua 1 ub)) else if ub = 0 then high4 (quoF la ua lb (-1)) else high4 (quoF la ua lb ub)) else if 1 ≤ ub then (if lb = 0 then high4 (quoF la ua 1 ub) else high4 (quoF la ua lb ub)) else 0) else 0
def qM (la ua lb ub : Int) : Bool := if bsp la ua lb ub then (if lb = 0 ∧ ub = 0 then false else (decide (lb ≤ 0) && decide (0 ≤ ub))) else false
def qE (la ua lb ub : Int) : Int := if bsp la ua lb ub then (if lb = 0 ∧ ub = 0 then 5 else 0) else 1

theorem squo_all (la ua lb ub : Int) (w : World) :
    Calls Try.prog 17 #[spanV la ua, spanV lb ub] w fun e w' => e = .returned (opV (qL la ua lb ub) (qH la ua lb ub) (qM la ua lb ub) (qE la ua lb ub)) ∧ Below w.heap.size w w' := by
  cases hb : bsp la ua lb ub
  · rw [show qL la ua lb ub = 0 from by simp [qL, hb], show qH la ua lb ub = 0 from by simp [qH, hb], show qM la ua lb ub = false from by simp [qM, hb], show qE la ua lb ub = 1 from by simp [qE, hb]]
    exact squo_bad la ua lb ub w (Lib.hid hb)
  · have h3 := bsp_iff.1 hb
    simp only [qL, qH, qM, qE, hb, if_true]
    by_cases h1 : lb ≤ -1
    · by_cases h2 : 1 ≤ ub
      · simp only [if_pos h1, if_pos h2, if_neg (show ¬ (lb = 0 ∧ ub = 0) by omega), show (decide (lb ≤ 0) && decide (0 ≤ ub)) = true from by simp; omega]
        exact squo_both la ua lb ub w (Lib.hid hb) h1 h2
      · by_cases h4 : ub = 0
        · subst h4
          simp only [if_pos h1, if_neg h2, if_true, if_neg (show ¬ (lb = 0 ∧ True) by omega), show (decide (lb ≤ 0) && decide ((0 : Int) ≤ 0)) = true from by simp; omega]
          exact squo_negz la ua lb w (Lib.hid hb) h1
        · simp only [if_pos h1, if_neg h2, if_neg h4, if_neg (show ¬ (lb = 0 ∧ ub = 0) by omega), show (decide (lb ≤ 0) && decide (0 ≤ ub)) = false from by simp; omega]
          exact squo_neg la ua lb ub w (Lib.hid hb) (by omega)
    · by_cases h2 : 1 ≤ ub
      · by_cases h4 : lb = 0
        · subst h4
          simp only [if_neg h1, if_pos h2, if_true, if_neg (show ¬ (True ∧ ub = 0) by omega), show (decide ((0 : Int) ≤ 0) && decide (0 ≤ ub)) = true from by simp; omega]
          exact squo_posz la ua ub w (Lib.hid hb) h2
        · simp only [if_neg h1, if_pos h2, if_neg h4, if_neg (show ¬ (lb = 0 ∧ ub = 0) by omega), show (decide (lb ≤ 0) && decide (0 ≤ ub)) = false from by simp; omega]
          exact squo_pos la ua lb ub w (Lib.hid hb) (by omega)
      · obtain rfl : lb = 0 := by omega
        obtain rfl : ub = 0 := by omega
        simp only [if_neg h1, if_neg h2, and_self, if_true]
        exact squo_none la ua w (Lib.hid hb)

set_option maxHeartbeats 1600000 in
theorem fold_is {la ua lb ub : Int} (hb : bsp la ua lb ub = true) (h0 : ¬ (lb = 0 ∧ ub = 0)) :
    qL la ua lb ub = qLo la ua lb ub 4 ∧ qH la ua lb ub = qHi la ua lb ub 4 ∧ qM la ua lb ub = (decide (lb ≤ 0) && decide (0 ≤ ub)) ∧ qE la ua lb ub = 0 := by
  have ⟨⟨v1, v2, v3⟩, v4, v5, v6⟩ := bsp_iff.1 hb
  have k1 := tdiv_bd (d := lb) v1
  have k2 := tdiv_bd (d := ub) v1
  have k3 := tdiv_bd (d := 1) v1
  have k4 := tdiv_bd (d := -1) v1
  have k5 := tdiv_bd (d := lb) v2
  have k6 := tdiv_bd (d := ub) v2
  have k7 := tdiv_bd (d := 1) v2
  have k8 := tdiv_bd (d := -1) v2
  simp only [qL, qH, qM, qE, hb, if_true, if_neg h0, and_true]
  simp only [qLo, qHi, dv]
  by_cases h1 : lb ≤ -1
  · by_cases h2 : 1 ≤ ub
    · have t1 : tkn lb ub lb = true := by simp [tkn]; omega
      have t2 : tkn lb ub ub = true := by simp [tkn]; omega
      have t3 : tkn lb ub 1 = true := by simp [tkn]; omega
      have t4 : tkn lb ub (-1) = true := by simp [tkn]; omega
      simp only [t1, t2, t3, t4, if_pos h1, if_pos h2, if_true, low4, high4, quoF, cond_true, cond_false]
      generalize la.tdiv lb = x1 at *
      generalize la.tdiv ub = x2 at *
      generalize la.tdiv 1 = x3 at *
      generalize la.tdiv (-1) = x4 at *
      generalize ua.tdiv lb = y1 at *
      generalize ua.tdiv ub = y2 at *
      generalize ua.tdiv 1 = y3 at *
      generalize ua.tdiv (-1) = y4 at *
      have e1 : mn 2147483647 x1 = x1 := by unfold mn; split <;> omega
      have e2 : mx (-2147483647) x1 = x1 := by unfold mx; split <;> omega
      rw [e1, e2]
      constructor <;> apply Int.le_antisymm <;> simp only [le_mn_iff, mx_le_iff] <;> simp [mn_le_iff, le_mx_iff]
    · by_cases h4 : ub = 0
      · subst h4
        have t1 : tkn lb 0 lb = true := by simp [tkn]; omega
        have t2 : tkn lb 0 0 = false := by simp [tkn]
        have t3 : tkn lb 0 1 = false := by simp [tkn]
        have t4 : tkn lb 0 (-1) = true := by simp [tkn]; omega
        simp only [t1, t2, t3, t4, if_pos h1, if_neg h2, if_true, if_false, Bool.false_eq_true, low4, high4, quoF, cond_true, cond_false]
        generalize la.tdiv lb = x1 at *
        generalize la.tdiv (-1) = x4 at *
        generalize ua.tdiv lb = y1 at *
        generalize ua.tdiv (-1) = y4 at *
        have e1 : mn 2147483647 x1 = x1 := by unfold mn; split <;> omega
        have e2 : mx (-2147483647) x1 = x1 := by unfold mx; split <;> omega
        rw [e1, e2]
        constructor <;> apply Int.le_antisymm <;> simp only [le_mn_iff, mx_le_iff] <;> simp [mn_le_iff, le_mx_iff]
      · have t1 : tkn lb ub lb = true := by simp [tkn]; omega
        have t2 : tkn lb ub ub = true := by simp [tkn]; omega
        have t3 : tkn lb ub 1 = false := by simp [tkn]; omega
        by_cases h5 : ub = -1
        · subst h5
          simp only [t1, t2, t3, if_pos h1, if_neg h2, if_neg h4, if_true, if_false, Bool.false_eq_true, low4, high4, quoF, cond_true, cond_false]
          generalize la.tdiv lb = x1 at *
          generalize la.tdiv (-1) = x4 at *
          generalize ua.tdiv lb = y1 at *
          generalize ua.tdiv (-1) = y4 at *
          have e1 : mn 2147483647 x1 = x1 := by unfold mn; split <;> omega
          have e2 : mx (-2147483647) x1 = x1 := by unfold mx; split <;> omega
          rw [e1, e2]
          constructor <;> apply Int.le_antisymm <;> simp only [le_mn_iff, mx_le_iff] <;> simp [mn_le_iff, le_mx_iff]
        · have t4 : tkn lb ub (-1) = false := by simp [tkn]; omega
          simp only [t1, t2, t3, t4, if_pos h1, if_neg h2, if_neg h4, if_true, if_false, Bool.false_eq_true, low4, high4, quoF, cond_true, cond_false]
          generalize la.tdiv lb = x1 at *
          generalize la.tdiv ub = x2 at *
          generalize ua.tdiv lb = y1 at *
          generalize ua.tdiv ub = y2 at *
          have e1 : mn 2147483647 x1 = x1 := by unfold mn; split <;> omega
          have e2 : mx (-2147483647) x1 = x1 := by unfold mx; split <;> omega
          rw [e1, e2]
          constructor <;> apply Int.le_antisymm <;> simp only [le_mn_iff, mx_le_iff] <;> simp [mn_le_iff, le_mx_iff]
  · by_cases h2 : 1 ≤ ub
    · by_cases h4 : lb = 0
      · subst h4
        have t1 : tkn 0 ub 0 = false := by simp [tkn]
        have t2 : tkn 0 ub ub = true := by simp [tkn]; omega
        have t3 : tkn 0 ub 1 = true := by simp [tkn]; omega
        have t4 : tkn 0 ub (-1) = false := by simp [tkn]
        simp only [t1, t2, t3, t4, if_neg h1, if_pos h2, if_true, if_false, Bool.false_eq_true, low4, high4, quoF, cond_true, cond_false]
        generalize la.tdiv ub = x2 at *
        generalize la.tdiv 1 = x3 at *
        generalize ua.tdiv ub = y2 at *
        generalize ua.tdiv 1 = y3 at *
        have e1 : mn 2147483647 x2 = x2 := by unfold mn; split <;> omega
        have e2 : mx (-2147483647) x2 = x2 := by unfold mx; split <;> omega
        rw [e1, e2]
        constructor <;> apply Int.le_antisymm <;> simp only [le_mn_iff, mx_le_iff] <;> simp [mn_le_iff, le_mx_iff]
      · have t1 : tkn lb ub lb = true := by simp [tkn]; omega
        have t2 : tkn lb ub ub = true := by simp [tkn]; omega
        have t4 : tkn lb ub (-1) = false := by simp [tkn]; omega
        by_cases h5 : lb = 1
        · subst h5
          simp only [t1, t2, t4, if_neg h1, if_pos h2, if_neg h4, if_true, if_false, Bool.false_eq_true, low4, high4, quoF, cond_true, cond_false]
          generalize la.tdiv ub = x2 at *
          generalize la.tdiv 1 = x3 at *
          generalize ua.tdiv ub = y2 at *
          generalize ua.tdiv 1 = y3 at *
          have e1 : mn 2147483647 x3 = x3 := by unfold mn; split <;> omega
          have e2 : mx (-2147483647) x3 = x3 := by unfold mx; split <;> omega
          rw [e1, e2]
          constructor <;> apply Int.le_antisymm <;> simp only [le_mn_iff, mx_le_iff] <;> simp [mn_le_iff, le_mx_iff]
        · have t3 : tkn lb ub 1 = false := by simp [tkn]; omega
          simp only [t1, t2, t3, t4, if_neg h1, if_pos h2, if_neg h4, if_true, if_false, Bool.false_eq_true, low4, high4, quoF, cond_true, cond_false]
          generalize la.tdiv lb = x1 at *
          generalize la.tdiv ub = x2 at *
          generalize ua.tdiv lb = y1 at *
          generalize ua.tdiv ub = y2 at *
          have e1 : mn 2147483647 x1 = x1 := by unfold mn; split <;> omega
          have e2 : mx (-2147483647) x1 = x1 := by unfold mx; split <;> omega
          rw [e1, e2]
          constructor <;> apply Int.le_antisymm <;> simp only [le_mn_iff, mx_le_iff] <;> simp [mn_le_iff, le_mx_iff]
    · omega

end Go.Proofs.Ytnhieokegidibaa
