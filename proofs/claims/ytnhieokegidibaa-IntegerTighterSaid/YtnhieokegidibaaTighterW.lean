/-
  IntegerTighter: the quotients on the ends, and the walk.
-/
import Derived.Test.YtnhieokegidibaaTightC
import Derived.Test.YtnhieokegidibaaRQuo
import Derived.Test.YtnhieokegidibaaWide
import Derived.Lib.SmallJoins
import Derived.Outline

namespace Go.Proofs.Ytnhieokegidibaa.integerTighter
open Go.RowKit
set_option linter.unusedVariables false

def dw (lb ub : Int) : Nat → Int
  | 0 => lb
  | 1 => ub
  | 2 => -1
  | _ => 1
def hOk (lb ub : Int) : Nat → Int
  | 0 => 0
  | k + 1 => if tkn lb ub (dw lb ub k) then hOk lb ub k + 2 else hOk lb ub k
def hLo (la ua lb ub : Int) : Nat → Int
  | 0 => 0
  | k + 1 => if tkn lb ub (dw lb ub k) then (if hOk lb ub k = 0 then mn (la.tdiv (dw lb ub k)) (ua.tdiv (dw lb ub k)) else mn (mn (hLo la ua lb ub k) (la.tdiv (dw lb ub k))) (ua.tdiv (dw lb ub k))) else hLo la ua lb ub k
def hHi (la ua lb ub : Int) : Nat → Int
  | 0 => 0
  | k + 1 => if tkn lb ub (dw lb ub k) then (if hOk lb ub k = 0 then mx (la.tdiv (dw lb ub k)) (ua.tdiv (dw lb ub k)) else mx (mx (hHi la ua lb ub k) (la.tdiv (dw lb ub k))) (ua.tdiv (dw lb ub k))) else hHi la ua lb ub k
theorem hOk_bd (lb ub : Int) (k : Nat) : 0 ≤ hOk lb ub k ∧ hOk lb ub k ≤ 2 * k ∧ hOk lb ub k ≠ 1 := by
  induction k with
  | zero => exact ⟨Int.le_refl 0, Int.le_refl 0, by unfold hOk; decide⟩
  | succ k ih => unfold hOk; split <;> omega
theorem mn_self (x : Int) : mn x x = x := by unfold mn; split <;> rfl
theorem mx_self (x : Int) : mx x x = x := by unfold mx; split <;> rfl

set_option maxHeartbeats 1600000 in
theorem tight_is {la ua lb ub : Int} (hb : bsp la ua lb ub = true) (h0 : ¬ (lb = 0 ∧ ub = 0)) :
    qL la ua lb ub = hLo la ua lb ub 4 ∧ qH la ua lb ub = hHi la ua lb ub 4 ∧ 0 < hOk lb ub 4 := by
  have ⟨⟨v1, v2, v3⟩, v4, v5, v6⟩ := bsp_iff.1 hb
  simp only [qL, qH, hb, if_true]
  simp only [hLo, hHi, hOk, dw]
  by_cases h1 : lb ≤ -1
  · by_cases h2 : 1 ≤ ub
    · skip
      have t0 : tkn lb ub (lb) = true := by simp [tkn] <;> omega
      have t1 : tkn lb ub (ub) = true := by simp [tkn] <;> omega
      have t2 : tkn lb ub (-1) = true := by simp [tkn] <;> omega
      have t3 : tkn lb ub (1) = true := by simp [tkn] <;> omega
      simp only [t0, t1, t2, t3, if_pos h1, if_pos h2, if_true, if_false, Bool.false_eq_true, low4, high4, quoF, cond_true, cond_false, Int.reduceAdd, Int.reduceEq, Int.reduceLT, and_true, Int.zero_add]
      generalize la.tdiv lb = x1
      generalize ua.tdiv lb = y1
      generalize la.tdiv ub = x2
      generalize ua.tdiv ub = y2
      generalize la.tdiv (-1) = x4
      generalize ua.tdiv (-1) = y4
      generalize la.tdiv 1 = x3
      generalize ua.tdiv 1 = y3
      refine ⟨?_, ?_⟩ <;> apply Int.le_antisymm <;> simp only [le_mn_iff, mx_le_iff] <;> simp [mn_le_iff, le_mx_iff]
    · by_cases h4 : ub = 0
      · subst h4
        have t0 : tkn lb 0 (lb) = true := by simp [tkn] <;> omega
        have t1 : tkn lb 0 (0) = false := by simp [tkn]
        have t2 : tkn lb 0 (-1) = true := by simp [tkn] <;> omega
        have t3 : tkn lb 0 (1) = false := by simp [tkn]
        simp only [t0, t1, t2, t3, if_pos h1, if_neg h2, if_true, if_false, Bool.false_eq_true, low4, high4, quoF, cond_true, cond_false, Int.reduceAdd, Int.reduceEq, Int.reduceLT, and_true, Int.zero_add]
        generalize la.tdiv lb = x1
        generalize ua.tdiv lb = y1
        generalize la.tdiv (-1) = x4
        generalize ua.tdiv (-1) = y4
        refine ⟨?_, ?_⟩ <;> apply Int.le_antisymm <;> simp only [le_mn_iff, mx_le_iff] <;> simp [mn_le_iff, le_mx_iff]
      · by_cases h5 : ub = -1
        · subst h5
          have t0 : tkn lb (-1) (lb) = true := by simp [tkn] <;> omega
          have t1 : tkn lb (-1) (-1) = true := by simp [tkn] <;> omega
          have t2 : tkn lb (-1) (1) = false := by simp [tkn] <;> omega
          simp only [t0, t1, t2, if_pos h1, if_neg h2, if_neg h4, if_true, if_false, Bool.false_eq_true, low4, high4, quoF, cond_true, cond_false, Int.reduceAdd, Int.reduceEq, Int.reduceLT, and_true, Int.zero_add]
          generalize la.tdiv lb = x1
          generalize ua.tdiv lb = y1
          generalize la.tdiv (-1) = x4
          generalize ua.tdiv (-1) = y4
          refine ⟨?_, ?_⟩ <;> apply Int.le_antisymm <;> simp only [le_mn_iff, mx_le_iff] <;> simp [mn_le_iff, le_mx_iff]
        · skip
          have t0 : tkn lb ub (lb) = true := by simp [tkn] <;> omega
          have t1 : tkn lb ub (ub) = true := by simp [tkn] <;> omega
          have t2 : tkn lb ub (-1) = false := by simp [tkn] <;> omega
          have t3 : tkn lb ub (1) = false := by simp [tkn] <;> omega
          simp only [t0, t1, t2, t3, if_pos h1, if_neg h2, if_neg h4, if_true, if_false, Bool.false_eq_true, low4, high4, quoF, cond_true, cond_false, Int.reduceAdd, Int.reduceEq, Int.reduceLT, and_true, Int.zero_add]
          generalize la.tdiv lb = x1
          generalize ua.tdiv lb = y1
          generalize la.tdiv ub = x2
          generalize ua.tdiv ub = y2
          refine ⟨?_, ?_⟩ <;> apply Int.le_antisymm <;> simp only [le_mn_iff, mx_le_iff] <;> simp [mn_le_iff, le_mx_iff]
  · by_cases h2 : 1 ≤ ub
    · by_cases h4 : lb = 0
      · subst h4
        have t0 : tkn 0 ub (0) = false := by simp [tkn]
        have t1 : tkn 0 ub (ub) = true := by simp [tkn] <;> omega
        have t2 : tkn 0 ub (-1) = false := by simp [tkn]
        have t3 : tkn 0 ub (1) = true := by simp [tkn] <;> omega
        simp only [t0, t1, t2, t3, if_neg h1, if_pos h2, if_true, if_false, Bool.false_eq_true, low4, high4, quoF, cond_true, cond_false, Int.reduceAdd, Int.reduceEq, Int.reduceLT, and_true, Int.zero_add]
        generalize la.tdiv ub = x2
        generalize ua.tdiv ub = y2
        generalize la.tdiv 1 = x3
        generalize ua.tdiv 1 = y3
        refine ⟨?_, ?_⟩ <;> apply Int.le_antisymm <;> simp only [le_mn_iff, mx_le_iff] <;> simp [mn_le_iff, le_mx_iff]
      · by_cases h5 : lb = 1
        · subst h5
          have t0 : tkn 1 ub (1) = true := by simp [tkn] <;> omega
          have t1 : tkn 1 ub (ub) = true := by simp [tkn] <;> omega
          have t2 : tkn 1 ub (-1) = false := by simp [tkn] <;> omega
          simp only [t0, t1, t2, if_neg h1, if_pos h2, if_neg h4, if_true, if_false, Bool.false_eq_true, low4, high4, quoF, cond_true, cond_false, Int.reduceAdd, Int.reduceEq, Int.reduceLT, and_true, Int.zero_add]
          generalize la.tdiv ub = x2
          generalize ua.tdiv ub = y2
          generalize la.tdiv 1 = x3
          generalize ua.tdiv 1 = y3
          refine ⟨?_, ?_⟩ <;> apply Int.le_antisymm <;> simp only [le_mn_iff, mx_le_iff] <;> simp [mn_le_iff, le_mx_iff]
        · skip
          have t0 : tkn lb ub (lb) = true := by simp [tkn] <;> omega
          have t1 : tkn lb ub (ub) = true := by simp [tkn] <;> omega
          have t2 : tkn lb ub (-1) = false := by simp [tkn] <;> omega
          have t3 : tkn lb ub (1) = false := by simp [tkn] <;> omega
          simp only [t0, t1, t2, t3, if_neg h1, if_pos h2, if_neg h4, if_true, if_false, Bool.false_eq_true, low4, high4, quoF, cond_true, cond_false, Int.reduceAdd, Int.reduceEq, Int.reduceLT, and_true, Int.zero_add]
          generalize la.tdiv lb = x1
          generalize ua.tdiv lb = y1
          generalize la.tdiv ub = x2
          generalize ua.tdiv ub = y2
          refine ⟨?_, ?_⟩ <;> apply Int.le_antisymm <;> simp only [le_mn_iff, mx_le_iff] <;> simp [mn_le_iff, le_mx_iff]
    · omega
theorem none_is (lb ub : Int) (h0 : lb = 0 ∧ ub = 0) : hOk lb ub 4 = 0 := by
  obtain ⟨rfl, rfl⟩ := h0
  rfl

def HSt (B : Nat) (l0 u0 l1 u1 L Hh K O : Int) (w wr : World) : Prop :=
  wr.cell? ⟨w.heap.size, 0, none⟩ = some (.int .i64 l0) ∧ wr.cell? ⟨w.heap.size, 1, none⟩ = some (.int .i64 u0) ∧ wr.cell? ⟨w.heap.size + 1, 0, none⟩ = some (.int .i64 l1) ∧ wr.cell? ⟨w.heap.size + 1, 1, none⟩ = some (.int .i64 u1) ∧ wr.cell? ⟨B, 0, none⟩ = some (.int .i64 L) ∧ wr.cell? ⟨B, 1, none⟩ = some (.int .i64 Hh) ∧ wr.cell? ⟨B, 2, none⟩ = some (.int .i64 K) ∧ wr.cell? ⟨B, 3, none⟩ = some (.int .i64 O) ∧ wr.frozen? ⟨B, 0, none⟩ = false ∧ wr.frozen? ⟨B, 1, none⟩ = false ∧ wr.frozen? ⟨B, 2, none⟩ = false ∧ wr.frozen? ⟨B, 3, none⟩ = false ∧ wr.cell? ⟨B + 1, 0, none⟩ = some (.int .i64 l1) ∧ wr.cell? ⟨B + 1, 1, none⟩ = some (.int .i64 u1) ∧ wr.cell? ⟨B + 1, 2, none⟩ = some (.int .i64 (-1)) ∧ wr.cell? ⟨B + 1, 3, none⟩ = some (.int .i64 1) ∧ w.heap.size < wr.heap.size ∧ w.heap.size + 1 < wr.heap.size ∧ B < wr.heap.size ∧ B + 1 < wr.heap.size ∧ Below w.heap.size w wr
abbrev HStv (B : Nat) (l0 u0 l1 u1 : Int) (w : World) (k : Nat) (wr : World) : Prop := HSt B l0 u0 l1 u1 (hLo l0 u0 l1 u1 k) (hHi l0 u0 l1 u1 k) (hOk l1 u1 k) 0 w wr
theorem far_ {w : World} {b b' o o' : Nat} {v u : Value} (h : b' ≠ b) (e : w.cell? ⟨b, o, none⟩ = some u) : (w.setCell ⟨b', o', none⟩ v).cell? ⟨b, o, none⟩ = some u := (World.cell?_setCell_other w _ _ v (fun k => h (congrArg Addr.block k))).trans e
theorem off_ {w : World} {b o o' : Nat} {v u : Value} (h : o' ≠ o) (e : w.cell? ⟨b, o, none⟩ = some u) : (w.setCell ⟨b, o', none⟩ v).cell? ⟨b, o, none⟩ = some u := (World.cell?_setCell_other w _ _ v (fun k => h (congrArg Addr.off k))).trans e
theorem frz_ {w : World} {p a : Addr} {v : Value} (e : w.frozen? a = false) : (w.setCell p v).frozen? a = false := by rw [World.frozen?_setCell]; exact e
theorem siz_ {w : World} {p : Addr} {v : Value} {b : Nat} (e : b < w.heap.size) : b < (w.setCell p v).heap.size := by simpa using e

theorem set0_ {B : Nat} {l0 u0 l1 u1 L Hh K O : Int} {w w' : World} (x : Int) (h : HSt B l0 u0 l1 u1 L Hh K O w w') (hN : w.heap.size + 1 < B) : HSt B l0 u0 l1 u1 x Hh K O w (w'.setCell ⟨B, 0, none⟩ (.int .i64 x)) := by
  obtain ⟨a0, a1, b0, b1, F0, F1, F2, F3, Z0, Z1, Z2, Z3, y0, y1, y2, y3, z0, z1, z2, z3, hBq⟩ := h
  exact ⟨far_ (by omega) a0, far_ (by omega) a1, far_ (by omega) b0, far_ (by omega) b1, World.cell?_setCell_same w' _ _ F0, off_ (by decide) F1, off_ (by decide) F2, off_ (by decide) F3, frz_ Z0, frz_ Z1, frz_ Z2, frz_ Z3, far_ (by omega) y0, far_ (by omega) y1, far_ (by omega) y2, far_ (by omega) y3, siz_ z0, siz_ z1, siz_ z2, siz_ z3, hBq.setCell (by show w.heap.size ≤ B; omega) _⟩

theorem set1_ {B : Nat} {l0 u0 l1 u1 L Hh K O : Int} {w w' : World} (x : Int) (h : HSt B l0 u0 l1 u1 L Hh K O w w') (hN : w.heap.size + 1 < B) : HSt B l0 u0 l1 u1 L x K O w (w'.setCell ⟨B, 1, none⟩ (.int .i64 x)) := by
  obtain ⟨a0, a1, b0, b1, F0, F1, F2, F3, Z0, Z1, Z2, Z3, y0, y1, y2, y3, z0, z1, z2, z3, hBq⟩ := h
  exact ⟨far_ (by omega) a0, far_ (by omega) a1, far_ (by omega) b0, far_ (by omega) b1, off_ (by decide) F0, World.cell?_setCell_same w' _ _ F1, off_ (by decide) F2, off_ (by decide) F3, frz_ Z0, frz_ Z1, frz_ Z2, frz_ Z3, far_ (by omega) y0, far_ (by omega) y1, far_ (by omega) y2, far_ (by omega) y3, siz_ z0, siz_ z1, siz_ z2, siz_ z3, hBq.setCell (by show w.heap.size ≤ B; omega) _⟩

theorem set2_ {B : Nat} {l0 u0 l1 u1 L Hh K O : Int} {w w' : World} (x : Int) (h : HSt B l0 u0 l1 u1 L Hh K O w w') (hN : w.heap.size + 1 < B) : HSt B l0 u0 l1 u1 L Hh x O w (w'.setCell ⟨B, 2, none⟩ (.int .i64 x)) := by
  obtain ⟨a0, a1, b0, b1, F0, F1, F2, F3, Z0, Z1, Z2, Z3, y0, y1, y2, y3, z0, z1, z2, z3, hBq⟩ := h
  exact ⟨far_ (by omega) a0, far_ (by omega) a1, far_ (by omega) b0, far_ (by omega) b1, off_ (by decide) F0, off_ (by decide) F1, World.cell?_setCell_same w' _ _ F2, off_ (by decide) F3, frz_ Z0, frz_ Z1, frz_ Z2, frz_ Z3, far_ (by omega) y0, far_ (by omega) y1, far_ (by omega) y2, far_ (by omega) y3, siz_ z0, siz_ z1, siz_ z2, siz_ z3, hBq.setCell (by show w.heap.size ≤ B; omega) _⟩

theorem set3_ {B : Nat} {l0 u0 l1 u1 L Hh K O : Int} {w w' : World} (x : Int) (h : HSt B l0 u0 l1 u1 L Hh K O w w') (hN : w.heap.size + 1 < B) : HSt B l0 u0 l1 u1 L Hh K x w (w'.setCell ⟨B, 3, none⟩ (.int .i64 x)) := by
  obtain ⟨a0, a1, b0, b1, F0, F1, F2, F3, Z0, Z1, Z2, Z3, y0, y1, y2, y3, z0, z1, z2, z3, hBq⟩ := h
  exact ⟨far_ (by omega) a0, far_ (by omega) a1, far_ (by omega) b0, far_ (by omega) b1, off_ (by decide) F0, off_ (by decide) F1, off_ (by decide) F2, World.cell?_setCell_same w' _ _ F3, frz_ Z0, frz_ Z1, frz_ Z2, frz_ Z3, far_ (by omega) y0, far_ (by omega) y1, far_ (by omega) y2, far_ (by omega) y3, siz_ z0, siz_ z1, siz_ z2, siz_ z3, hBq.setCell (by show w.heap.size ≤ B; omega) _⟩

theorem drew_ {B : Nat} {l0 u0 l1 u1 L Hh K O : Int} {w w' : World} (h : HSt B l0 u0 l1 u1 L Hh K O w w') (n : Nat) : HSt B l0 u0 l1 u1 L Hh K O w (w'.drewN n) := by
  obtain ⟨a0, a1, b0, b1, F0, F1, F2, F3, Z0, Z1, Z2, Z3, y0, y1, y2, y3, z0, z1, z2, z3, hBq⟩ := h
  exact ⟨a0, a1, b0, b1, F0, F1, F2, F3, Z0, Z1, Z2, Z3, y0, y1, y2, y3, z0, z1, z2, z3, hBq.trans (Go.Joins.below_draws _ _ n)⟩
theorem st_out {B : Nat} {l0 u0 l1 u1 L Hh K O : Int} {w wi : World} (h : HSt B l0 u0 l1 u1 L Hh K O w wi) (hN : w.heap.size + 1 < B) : HSt B l0 u0 l1 u1 L Hh K (O + 1) w (wi.setCell ⟨B, 3, none⟩ (.int .i64 (O + 1))) := set3_ _ h hN
theorem st_more {B : Nat} {l0 u0 l1 u1 L Hh K O : Int} {w wi : World} (z : Int) (h : HSt B l0 u0 l1 u1 L Hh K O w wi) (hN : w.heap.size + 1 < B) : HSt B l0 u0 l1 u1 (mn L z) (mx Hh z) (K + 1) O w (((wi.setCell ⟨B, 2, none⟩ (.int .i64 (K + 1))).setCell ⟨B, 0, none⟩ (.int .i64 (mn L z))).setCell ⟨B, 1, none⟩ (.int .i64 (mx Hh z))) := set1_ _ (set0_ _ (set2_ _ h hN) hN) hN
theorem st_first {B : Nat} {l0 u0 l1 u1 L Hh K O : Int} {w wi : World} (z : Int) (h : HSt B l0 u0 l1 u1 L Hh K O w wi) (hN : w.heap.size + 1 < B) : HSt B l0 u0 l1 u1 (mn z z) (mx z z) 1 O w (((((wi.setCell ⟨B, 0, none⟩ (.int .i64 z)).setCell ⟨B, 1, none⟩ (.int .i64 z)).setCell ⟨B, 2, none⟩ (.int .i64 1)).setCell ⟨B, 0, none⟩ (.int .i64 (mn z z))).setCell ⟨B, 1, none⟩ (.int .i64 (mx z z))) := set1_ _ (set0_ _ (set2_ _ (set1_ _ (set0_ _ h hN) hN) hN) hN) hN

theorem yk_of {B : Nat} {l0 u0 l1 u1 L Hh K O : Int} {w wr : World} (h : HSt B l0 u0 l1 u1 L Hh K O w wr) (k : Nat) (hk : k < 4) : wr.cell? ⟨B + 1, k, none⟩ = some (.int .i64 (dw l1 u1 k)) := by
  obtain ⟨a0, a1, b0, b1, F0, F1, F2, F3, Z0, Z1, Z2, Z3, y0, y1, y2, y3, z0, z1, z2, z3, hBq⟩ := h
  rcases (show k = 0 ∨ k = 1 ∨ k = 2 ∨ k = 3 by omega) with rfl | rfl | rfl | rfl
  · exact y0
  · exact y1
  · exact y2
  · exact y3
theorem quo_q {x y n : Int} (w : World) (h : quoV x y = n ∧ divE x y = 0) :
    Calls Try.prog 24 #[.int .i64 x, .int .i64 y] w fun e' w' => e' = .returned (pairI n 0) ∧ w' = w :=
  (quo_is h w).mono fun _ _ k => ⟨k.1, k.2.symm⟩
theorem rin_is {n l u : Int} {b : Bool} (h : (decide (l ≤ n) && decide (n ≤ u)) = b) (w : World) :
    Calls Try.prog 23 #[.int .i64 n, spanV l u] w fun e w' => e = .returned (.bool b) ∧ Below w.heap.size w w' := by
  subst h
  exact rin_any n l u w
theorem squo_is {la ua lb ub L H E : Int} {M : Bool} (h : qL la ua lb ub = L ∧ qH la ua lb ub = H ∧ qM la ua lb ub = M ∧ qE la ua lb ub = E) (w : World) :
    Calls Try.prog 17 #[spanV la ua, spanV lb ub] w fun e w' => e = .returned (opV L H M E) ∧ Below w.heap.size w w' := by
  obtain ⟨rfl, rfl, rfl, rfl⟩ := h
  exact squo_all la ua lb ub w
theorem scmp_is {la ua lb ub l u e : Int} (h : scmpL la ua lb ub = l ∧ scmpH la ua lb ub = u ∧ joinE la ua lb ub = e) (w : World) :
    Calls Try.prog 25 #[spanV la ua, spanV lb ub] w fun e' w' => e' = .returned (spE l u e) ∧ Below w.heap.size w w' := by
  obtain ⟨rfl, rfl, rfl⟩ := h
  exact scmp_any la ua lb ub w
theorem low4_cmp2 {la ua lb ub : Int} (h1 : la ≤ ua) (h2 : lb ≤ ub) : low4 (cmpF la ua lb ub) = cmp3 la ub ∧ high4 (cmpF la ua lb ub) = cmp3 ua lb := low4_cmp h1 h2

set_option maxRecDepth 100000 in
set_option maxHeartbeats 12000000 in
theorem bad1 (l0 u0 l1 u1 : Int) (w : World) (HA : Hid (vsp l0 u0 = false)) :
    Calls Try.prog 5 #[spanV l0 u0, spanV l1 u1] w fun e w' => e = .returned (.bool true) ∧ Below w.heap.size w w' := by
  go_enter Try.func5, Try.ntmps5
  go_wp2_with fail
  refine (wide_any _).mono ?_
  rintro e w1 ⟨rfl, hb1⟩
  have a0_1 : w1.cell? ⟨w.heap.size, 0, none⟩ = some (.int .i64 l0) := carry hb1 (by go_simp)
  have a1_1 : w1.cell? ⟨w.heap.size, 1, none⟩ = some (.int .i64 u0) := carry hb1 (by go_simp)
  have az_1 : w.heap.size < w1.heap.size := by have := hb1.size; first | omega | (simp at this; omega)
  have b0_1 : w1.cell? ⟨w.heap.size + 1, 0, none⟩ = some (.int .i64 l1) := carry hb1 (by go_simp)
  have b1_1 : w1.cell? ⟨w.heap.size + 1, 1, none⟩ = some (.int .i64 u1) := carry hb1 (by go_simp)
  have bz_1 : w.heap.size + 1 < w1.heap.size := by have := hb1.size; first | omega | (simp at this; omega)
  have HB_1 := Lib.hid ((by repeat (first | exact Below.refl _ _ | refine Below.drew ?_ | refine Below.setCell ?_ (by first | omega | (simp; done) | (simp; omega)) _ | refine Below.alloc ?_ (by first | omega | (simp; done) | (simp; omega)) _) : Below w.heap.size w _).trans (hb1.mono (by first | omega | (simp; done) | (simp; omega))))
  have nz_1 : w.heap.size ≤ w1.heap.size := HB_1.out.size
  clear hb1
  go_wp2_with fail
  refine (vspan_is HA.out _).mono ?_
  rintro e w2 ⟨rfl, hb2⟩
  have a0_2 : w2.cell? ⟨w.heap.size, 0, none⟩ = some (.int .i64 l0) := carry hb2 (by go_simp)
  have a1_2 : w2.cell? ⟨w.heap.size, 1, none⟩ = some (.int .i64 u0) := carry hb2 (by go_simp)
  have az_2 : w.heap.size < w2.heap.size := by have := hb2.size; first | omega | (simp at this; omega)
  have b0_2 : w2.cell? ⟨w.heap.size + 1, 0, none⟩ = some (.int .i64 l1) := carry hb2 (by go_simp)
  have b1_2 : w2.cell? ⟨w.heap.size + 1, 1, none⟩ = some (.int .i64 u1) := carry hb2 (by go_simp)
  have bz_2 : w.heap.size + 1 < w2.heap.size := by have := hb2.size; first | omega | (simp at this; omega)
  have HB_2 := Lib.hid ((by repeat (first | exact HB_1.out | refine Below.drew ?_ | refine Below.setCell ?_ (by first | omega | (simp; done) | (simp; omega)) _ | refine Below.alloc ?_ (by first | omega | (simp; done) | (simp; omega)) _) : Below w.heap.size w _).trans (hb2.mono (by first | omega | (simp; done) | (simp; omega))))
  have nz_2 : w.heap.size ≤ w2.heap.size := HB_2.out.size
  clear hb2 a0_1 a1_1 b0_1 b1_1 HB_1
  go_wp2_with fail
  go_ret
  exact ⟨rfl, by repeat (first | exact HB_2.out | refine Below.drew ?_ | refine Below.setCell ?_ (by first | omega | (simp; done) | (simp; omega)) _ | refine Below.alloc ?_ (by first | omega | (simp; done) | (simp; omega)) _)⟩

set_option maxRecDepth 100000 in
set_option maxHeartbeats 12000000 in
theorem bad2 (l0 u0 l1 u1 : Int) (w : World) (HA : Hid (vsp l0 u0 = true)) (HB : Hid (vsp l1 u1 = false)) :
    Calls Try.prog 5 #[spanV l0 u0, spanV l1 u1] w fun e w' => e = .returned (.bool true) ∧ Below w.heap.size w w' := by
  go_enter Try.func5, Try.ntmps5
  go_wp2_with fail
  refine (wide_any _).mono ?_
  rintro e w1 ⟨rfl, hb1⟩
  have a0_1 : w1.cell? ⟨w.heap.size, 0, none⟩ = some (.int .i64 l0) := carry hb1 (by go_simp)
  have a1_1 : w1.cell? ⟨w.heap.size, 1, none⟩ = some (.int .i64 u0) := carry hb1 (by go_simp)
  have az_1 : w.heap.size < w1.heap.size := by have := hb1.size; first | omega | (simp at this; omega)
  have b0_1 : w1.cell? ⟨w.heap.size + 1, 0, none⟩ = some (.int .i64 l1) := carry hb1 (by go_simp)
  have b1_1 : w1.cell? ⟨w.heap.size + 1, 1, none⟩ = some (.int .i64 u1) := carry hb1 (by go_simp)
  have bz_1 : w.heap.size + 1 < w1.heap.size := by have := hb1.size; first | omega | (simp at this; omega)
  have HB_1 := Lib.hid ((by repeat (first | exact Below.refl _ _ | refine Below.drew ?_ | refine Below.setCell ?_ (by first | omega | (simp; done) | (simp; omega)) _ | refine Below.alloc ?_ (by first | omega | (simp; done) | (simp; omega)) _) : Below w.heap.size w _).trans (hb1.mono (by first | omega | (simp; done) | (simp; omega))))
  have nz_1 : w.heap.size ≤ w1.heap.size := HB_1.out.size
  clear hb1
  go_wp2_with fail
  refine (vspan_is HA.out _).mono ?_
  rintro e w2 ⟨rfl, hb2⟩
  have a0_2 : w2.cell? ⟨w.heap.size, 0, none⟩ = some (.int .i64 l0) := carry hb2 (by go_simp)
  have a1_2 : w2.cell? ⟨w.heap.size, 1, none⟩ = some (.int .i64 u0) := carry hb2 (by go_simp)
  have az_2 : w.heap.size < w2.heap.size := by have := hb2.size; first | omega | (simp at this; omega)
  have b0_2 : w2.cell? ⟨w.heap.size + 1, 0, none⟩ = some (.int .i64 l1) := carry hb2 (by go_simp)
  have b1_2 : w2.cell? ⟨w.heap.size + 1, 1, none⟩ = some (.int .i64 u1) := carry hb2 (by go_simp)
  have bz_2 : w.heap.size + 1 < w2.heap.size := by have := hb2.size; first | omega | (simp at this; omega)
  have HB_2 := Lib.hid ((by repeat (first | exact HB_1.out | refine Below.drew ?_ | refine Below.setCell ?_ (by first | omega | (simp; done) | (simp; omega)) _ | refine Below.alloc ?_ (by first | omega | (simp; done) | (simp; omega)) _) : Below w.heap.size w _).trans (hb2.mono (by first | omega | (simp; done) | (simp; omega))))
  have nz_2 : w.heap.size ≤ w2.heap.size := HB_2.out.size
  clear hb2 a0_1 a1_1 b0_1 b1_1 HB_1
  go_wp2_with fail
  refine (vspan_is HB.out _).mono ?_
  rintro e w3 ⟨rfl, hb3⟩
  have a0_3 : w3.cell? ⟨w.heap.size, 0, none⟩ = some (.int .i64 l0) := carry hb3 (by go_simp)
  have a1_3 : w3.cell? ⟨w.heap.size, 1, none⟩ = some (.int .i64 u0) := carry hb3 (by go_simp)
  have az_3 : w.heap.size < w3.heap.size := by have := hb3.size; first | omega | (simp at this; omega)
  have b0_3 : w3.cell? ⟨w.heap.size + 1, 0, none⟩ = some (.int .i64 l1) := carry hb3 (by go_simp)
  have b1_3 : w3.cell? ⟨w.heap.size + 1, 1, none⟩ = some (.int .i64 u1) := carry hb3 (by go_simp)
  have bz_3 : w.heap.size + 1 < w3.heap.size := by have := hb3.size; first | omega | (simp at this; omega)
  have HB_3 := Lib.hid ((by repeat (first | exact HB_2.out | refine Below.drew ?_ | refine Below.setCell ?_ (by first | omega | (simp; done) | (simp; omega)) _ | refine Below.alloc ?_ (by first | omega | (simp; done) | (simp; omega)) _) : Below w.heap.size w _).trans (hb3.mono (by first | omega | (simp; done) | (simp; omega))))
  have nz_3 : w.heap.size ≤ w3.heap.size := HB_3.out.size
  clear hb3 a0_2 a1_2 b0_2 b1_2 HB_2
  go_wp2_with fail
  go_ret
  exact ⟨rfl, by repeat (first | exact HB_3.out | refine Below.drew ?_ | refine Below.setCell ?_ (by first | omega | (simp; done) | (simp; omega)) _ | refine Below.alloc ?_ (by first | omega | (simp; done) | (simp; omega)) _)⟩

set_option maxRecDepth 100000 in
set_option maxHeartbeats 12000000 in
theorem main (l0 u0 l1 u1 : Int) (w : World) (HA : Hid (vsp l0 u0 = true)) (HB : Hid (vsp l1 u1 = true)) :
    Calls Try.prog 5 #[spanV l0 u0, spanV l1 u1] w fun e w' => e = .returned (.bool true) ∧ Below w.heap.size w w' := by
  go_enter Try.func5, Try.ntmps5
  go_wp2_with fail
  refine (wide_any _).mono ?_
  rintro e w1 ⟨rfl, hb1⟩
  have a0_1 : w1.cell? ⟨w.heap.size, 0, none⟩ = some (.int .i64 l0) := carry hb1 (by go_simp)
  have a1_1 : w1.cell? ⟨w.heap.size, 1, none⟩ = some (.int .i64 u0) := carry hb1 (by go_simp)
  have az_1 : w.heap.size < w1.heap.size := by have := hb1.size; first | omega | (simp at this; omega)
  have b0_1 : w1.cell? ⟨w.heap.size + 1, 0, none⟩ = some (.int .i64 l1) := carry hb1 (by go_simp)
  have b1_1 : w1.cell? ⟨w.heap.size + 1, 1, none⟩ = some (.int .i64 u1) := carry hb1 (by go_simp)
  have bz_1 : w.heap.size + 1 < w1.heap.size := by have := hb1.size; first | omega | (simp at this; omega)
  have HB_1 := Lib.hid ((by repeat (first | exact Below.refl _ _ | refine Below.drew ?_ | refine Below.setCell ?_ (by first | omega | (simp; done) | (simp; omega)) _ | refine Below.alloc ?_ (by first | omega | (simp; done) | (simp; omega)) _) : Below w.heap.size w _).trans (hb1.mono (by first | omega | (simp; done) | (simp; omega))))
  have nz_1 : w.heap.size ≤ w1.heap.size := HB_1.out.size
  clear hb1
  go_wp2_with fail
  refine (vspan_is HA.out _).mono ?_
  rintro e w2 ⟨rfl, hb2⟩
  have a0_2 : w2.cell? ⟨w.heap.size, 0, none⟩ = some (.int .i64 l0) := carry hb2 (by go_simp)
  have a1_2 : w2.cell? ⟨w.heap.size, 1, none⟩ = some (.int .i64 u0) := carry hb2 (by go_simp)
  have az_2 : w.heap.size < w2.heap.size := by have := hb2.size; first | omega | (simp at this; omega)
  have b0_2 : w2.cell? ⟨w.heap.size + 1, 0, none⟩ = some (.int .i64 l1) := carry hb2 (by go_simp)
  have b1_2 : w2.cell? ⟨w.heap.size + 1, 1, none⟩ = some (.int .i64 u1) := carry hb2 (by go_simp)
  have bz_2 : w.heap.size + 1 < w2.heap.size := by have := hb2.size; first | omega | (simp at this; omega)
  have HB_2 := Lib.hid ((by repeat (first | exact HB_1.out | refine Below.drew ?_ | refine Below.setCell ?_ (by first | omega | (simp; done) | (simp; omega)) _ | refine Below.alloc ?_ (by first | omega | (simp; done) | (simp; omega)) _) : Below w.heap.size w _).trans (hb2.mono (by first | omega | (simp; done) | (simp; omega))))
  have nz_2 : w.heap.size ≤ w2.heap.size := HB_2.out.size
  clear hb2 a0_1 a1_1 b0_1 b1_1 HB_1
  go_wp2_with fail
  refine (vspan_is HB.out _).mono ?_
  rintro e w3 ⟨rfl, hb3⟩
  have a0_3 : w3.cell? ⟨w.heap.size, 0, none⟩ = some (.int .i64 l0) := carry hb3 (by go_simp)
  have a1_3 : w3.cell? ⟨w.heap.size, 1, none⟩ = some (.int .i64 u0) := carry hb3 (by go_simp)
  have az_3 : w.heap.size < w3.heap.size := by have := hb3.size; first | omega | (simp at this; omega)
  have b0_3 : w3.cell? ⟨w.heap.size + 1, 0, none⟩ = some (.int .i64 l1) := carry hb3 (by go_simp)
  have b1_3 : w3.cell? ⟨w.heap.size + 1, 1, none⟩ = some (.int .i64 u1) := carry hb3 (by go_simp)
  have bz_3 : w.heap.size + 1 < w3.heap.size := by have := hb3.size; first | omega | (simp at this; omega)
  have HB_3 := Lib.hid ((by repeat (first | exact HB_2.out | refine Below.drew ?_ | refine Below.setCell ?_ (by first | omega | (simp; done) | (simp; omega)) _ | refine Below.alloc ?_ (by first | omega | (simp; done) | (simp; omega)) _) : Below w.heap.size w _).trans (hb3.mono (by first | omega | (simp; done) | (simp; omega))))
  have nz_3 : w.heap.size ≤ w3.heap.size := HB_3.out.size
  clear hb3 a0_2 a1_2 b0_2 b1_2 HB_2
  have hbs : bsp l0 u0 l1 u1 = true := by simp [bsp, HA.out, HB.out]
  have ⟨⟨⟨v1, v2⟩, ⟨v3, v4⟩, v5⟩, ⟨v6, v7⟩, ⟨v8, v9⟩, v10⟩ := bsp_iff.1 hbs
  have HBS := Lib.hid hbs
  have HSC := Lib.hid (show scmpL l0 u0 l1 u1 = cmp3 l0 u1 ∧ scmpH l0 u0 l1 u1 = cmp3 u0 l1 ∧ joinE l0 u0 l1 u1 = 0 from by
    simp [scmpL, scmpH, joinE, hbs, (low4_cmp v5 v10).1, (low4_cmp v5 v10).2])
  have HC1 := Lib.hid (cmp_ok (bth_mk (vld_mk ⟨v1, v2⟩) (vld_mk ⟨v8, v9⟩)) (show cmp3 l0 u1 = cmp3 l0 u1 from rfl))
  have HC2 := Lib.hid (cmp_ok (bth_mk (vld_mk ⟨v3, v4⟩) (vld_mk ⟨v6, v7⟩)) (show cmp3 u0 l1 = cmp3 u0 l1 from rfl))
  clear hbs
  go_wp2_with fail
  have HBX := HB_3
  go_loopw [8] (fun i wr => ∃ k : Nat, k ≤ 4 ∧ i = .int .i64 k ∧ HStv w3.heap.size l0 u0 l1 u1 w k wr) (fun i _ => 4 - (intOf i).toNat)
  case atStart =>
    refine ⟨0, by omega, rfl, ?_⟩
    unfold HStv HSt
    exact ⟨by first | assumption | (go_simp; done) | (go_simp; rfl) | (refine (World.cell?_alloc_lt _ _ _ ?_).trans ?_ <;> first | (go_simp; done) | (go_simp; rfl) | (simp; omega) | (refine (World.cell?_alloc_lt _ _ _ ?_).trans ?_ <;> first | (go_simp; done) | (go_simp; rfl) | (simp; omega))), by first | assumption | (go_simp; done) | (go_simp; rfl) | (refine (World.cell?_alloc_lt _ _ _ ?_).trans ?_ <;> first | (go_simp; done) | (go_simp; rfl) | (simp; omega) | (refine (World.cell?_alloc_lt _ _ _ ?_).trans ?_ <;> first | (go_simp; done) | (go_simp; rfl) | (simp; omega))), by first | assumption | (go_simp; done) | (go_simp; rfl) | (refine (World.cell?_alloc_lt _ _ _ ?_).trans ?_ <;> first | (go_simp; done) | (go_simp; rfl) | (simp; omega) | (refine (World.cell?_alloc_lt _ _ _ ?_).trans ?_ <;> first | (go_simp; done) | (go_simp; rfl) | (simp; omega))), by first | assumption | (go_simp; done) | (go_simp; rfl) | (refine (World.cell?_alloc_lt _ _ _ ?_).trans ?_ <;> first | (go_simp; done) | (go_simp; rfl) | (simp; omega) | (refine (World.cell?_alloc_lt _ _ _ ?_).trans ?_ <;> first | (go_simp; done) | (go_simp; rfl) | (simp; omega))), by first | assumption | (go_simp; done) | (go_simp; rfl) | (refine (World.cell?_alloc_lt _ _ _ ?_).trans ?_ <;> first | (go_simp; done) | (go_simp; rfl) | (simp; omega) | (refine (World.cell?_alloc_lt _ _ _ ?_).trans ?_ <;> first | (go_simp; done) | (go_simp; rfl) | (simp; omega))), by first | assumption | (go_simp; done) | (go_simp; rfl) | (refine (World.cell?_alloc_lt _ _ _ ?_).trans ?_ <;> first | (go_simp; done) | (go_simp; rfl) | (simp; omega) | (refine (World.cell?_alloc_lt _ _ _ ?_).trans ?_ <;> first | (go_simp; done) | (go_simp; rfl) | (simp; omega))), by first | assumption | (go_simp; done) | (go_simp; rfl) | (refine (World.cell?_alloc_lt _ _ _ ?_).trans ?_ <;> first | (go_simp; done) | (go_simp; rfl) | (simp; omega) | (refine (World.cell?_alloc_lt _ _ _ ?_).trans ?_ <;> first | (go_simp; done) | (go_simp; rfl) | (simp; omega))), by first | assumption | (go_simp; done) | (go_simp; rfl) | (refine (World.cell?_alloc_lt _ _ _ ?_).trans ?_ <;> first | (go_simp; done) | (go_simp; rfl) | (simp; omega) | (refine (World.cell?_alloc_lt _ _ _ ?_).trans ?_ <;> first | (go_simp; done) | (go_simp; rfl) | (simp; omega))), by first | assumption | (go_simp; done) | (go_simp; rfl) | (refine (World.cell?_alloc_lt _ _ _ ?_).trans ?_ <;> first | (go_simp; done) | (go_simp; rfl) | (simp; omega) | (refine (World.cell?_alloc_lt _ _ _ ?_).trans ?_ <;> first | (go_simp; done) | (go_simp; rfl) | (simp; omega))), by first | assumption | (go_simp; done) | (go_simp; rfl) | (refine (World.cell?_alloc_lt _ _ _ ?_).trans ?_ <;> first | (go_simp; done) | (go_simp; rfl) | (simp; omega) | (refine (World.cell?_alloc_lt _ _ _ ?_).trans ?_ <;> first | (go_simp; done) | (go_simp; rfl) | (simp; omega))), by first | assumption | (go_simp; done) | (go_simp; rfl) | (refine (World.cell?_alloc_lt _ _ _ ?_).trans ?_ <;> first | (go_simp; done) | (go_simp; rfl) | (simp; omega) | (refine (World.cell?_alloc_lt _ _ _ ?_).trans ?_ <;> first | (go_simp; done) | (go_simp; rfl) | (simp; omega))), by first | assumption | (go_simp; done) | (go_simp; rfl) | (refine (World.cell?_alloc_lt _ _ _ ?_).trans ?_ <;> first | (go_simp; done) | (go_simp; rfl) | (simp; omega) | (refine (World.cell?_alloc_lt _ _ _ ?_).trans ?_ <;> first | (go_simp; done) | (go_simp; rfl) | (simp; omega))), by first | assumption | (go_simp; done) | (go_simp; rfl) | (refine (World.cell?_alloc_lt _ _ _ ?_).trans ?_ <;> first | (go_simp; done) | (go_simp; rfl) | (simp; omega) | (refine (World.cell?_alloc_lt _ _ _ ?_).trans ?_ <;> first | (go_simp; done) | (go_simp; rfl) | (simp; omega))), by first | assumption | (go_simp; done) | (go_simp; rfl) | (refine (World.cell?_alloc_lt _ _ _ ?_).trans ?_ <;> first | (go_simp; done) | (go_simp; rfl) | (simp; omega) | (refine (World.cell?_alloc_lt _ _ _ ?_).trans ?_ <;> first | (go_simp; done) | (go_simp; rfl) | (simp; omega))), by first | assumption | (go_simp; done) | (go_simp; rfl) | (refine (World.cell?_alloc_lt _ _ _ ?_).trans ?_ <;> first | (go_simp; done) | (go_simp; rfl) | (simp; omega) | (refine (World.cell?_alloc_lt _ _ _ ?_).trans ?_ <;> first | (go_simp; done) | (go_simp; rfl) | (simp; omega))), by first | assumption | (go_simp; done) | (go_simp; rfl) | (refine (World.cell?_alloc_lt _ _ _ ?_).trans ?_ <;> first | (go_simp; done) | (go_simp; rfl) | (simp; omega) | (refine (World.cell?_alloc_lt _ _ _ ?_).trans ?_ <;> first | (go_simp; done) | (go_simp; rfl) | (simp; omega))), by first | assumption | (simp; done) | (simp; assumption) | (simp; omega), by first | assumption | (simp; done) | (simp; assumption) | (simp; omega), by first | assumption | (simp; done) | (simp; assumption) | (simp; omega), by first | assumption | (simp; done) | (simp; assumption) | (simp; omega), by repeat (first | assumption | exact HBX.out | refine Below.trans ?_ (Go.Joins.below_draws _ _ _) | refine Below.drew ?_ | refine Below.setCell ?_ (by first | omega | (simp; done) | (simp; omega)) _ | refine Below.alloc ?_ (by first | omega | (simp; done) | (simp; omega)) _)⟩
  case round =>
    clear HBX a0_3 a1_3 b0_3 b1_3 HB_3
    obtain ⟨k, hk, rfl, hS⟩ := hrel
    have hS2 := hS
    obtain ⟨a0, a1, b0, b1, F0, F1, F2, F3, Z0, Z1, Z2, Z3, y0, y1, y2, y3, z0, z1, z2, z3, hBq⟩ := hS2
    by_cases hlt : k < 4
    · obtain ⟨D, hD, yk⟩ : ∃ D, D = dw l1 u1 k ∧ wr.cell? ⟨w3.heap.size + 1, k, none⟩ = some (.int .i64 D) := by
        rcases (show k = 0 ∨ k = 1 ∨ k = 2 ∨ k = 3 by omega) with rfl | rfl | rfl | rfl
        · exact ⟨l1, rfl, y0⟩
        · exact ⟨u1, rfl, y1⟩
        · exact ⟨-1, rfl, y2⟩
        · exact ⟨1, rfl, y3⟩
      have HS0 := Lib.hid (show HSt w3.heap.size l0 u0 l1 u1 (hLo l0 u0 l1 u1 k) (hHi l0 u0 l1 u1 k) (hOk l1 u1 k) 0 w wr from hS)
      have hN := bz_3
      clear hS
      have HD := Lib.hid hD
      clear hD
      have ⟨kb0, kb1, kb2⟩ := hOk_bd l1 u1 k
      generalize hL : hLo l0 u0 l1 u1 k = L at *
      generalize hH : hHi l0 u0 l1 u1 k = Hh at *
      generalize hK : hOk l1 u1 k = K at *
      have HL := Lib.hid (And.intro hL (And.intro hH hK))
      clear hL hH hK
      have KB := Lib.hid kb2
      clear kb2
      have FX := Lib.hid (show tkn l1 u1 (dw l1 u1 k) = false → hLo l0 u0 l1 u1 (k + 1) = L ∧ hHi l0 u0 l1 u1 (k + 1) = Hh ∧ hOk l1 u1 (k + 1) = K from fun t => by
        simp only [hLo, hHi, hOk, t, Bool.false_eq_true, if_false, HL.out.1, HL.out.2.1, HL.out.2.2, and_self])
      by_cases h0 : D = 0
      · have HK := Lib.hid (FX.out (by rw [← HD.out, h0]; rfl))
        have h1 : (D == 0) = true := beq_iff_eq.2 h0
        clear h0
        go_wp2_with fail
        go_quiet (fail)
        go_wp2_with fail
        go_roundw
        case rel =>
          first | refine ⟨(k + 1 : Nat), by omega, by go_num, ?_⟩ | ((repeat apply Exists.intro); refine And.intro ?_ rfl; refine ⟨k + 1, by omega, by go_num, ?_⟩)
          unfold HStv
          rw [HK.out.1, HK.out.2.1, HK.out.2.2]
          exact drew_ HS0.out _
        case measure => simp [intOf]; omega
      · have h1 : (D == 0) = false := beq_eq_false_iff_ne.2 h0
        cases hin : (decide (l1 ≤ D) && decide (D ≤ u1))
        · have HK := Lib.hid (FX.out (by rw [← HD.out]; simp [tkn, hin]))
          have hB0 := hBq
          go_upto_region 9 with fail
          go_region_held3 (fun wx => wx.cell? ⟨w.heap.size, 0, none⟩ = some (.int .i64 l0) ∧ wx.cell? ⟨w.heap.size, 1, none⟩ = some (.int .i64 u0) ∧ wx.cell? ⟨w.heap.size + 1, 0, none⟩ = some (.int .i64 l1) ∧ wx.cell? ⟨w.heap.size + 1, 1, none⟩ = some (.int .i64 u1) ∧ wx.cell? ⟨w3.heap.size, 0, none⟩ = some (.int .i64 L) ∧ wx.cell? ⟨w3.heap.size, 1, none⟩ = some (.int .i64 Hh) ∧ wx.cell? ⟨w3.heap.size, 2, none⟩ = some (.int .i64 K) ∧ wx.cell? ⟨w3.heap.size, 3, none⟩ = some (.int .i64 0) ∧ wx.frozen? ⟨w3.heap.size, 0, none⟩ = false ∧ wx.frozen? ⟨w3.heap.size, 1, none⟩ = false ∧ wx.frozen? ⟨w3.heap.size, 2, none⟩ = false ∧ wx.frozen? ⟨w3.heap.size, 3, none⟩ = false ∧ wx.cell? ⟨w3.heap.size + 1, 0, none⟩ = some (.int .i64 l1) ∧ wx.cell? ⟨w3.heap.size + 1, 1, none⟩ = some (.int .i64 u1) ∧ wx.cell? ⟨w3.heap.size + 1, 2, none⟩ = some (.int .i64 (-1)) ∧ wx.cell? ⟨w3.heap.size + 1, 3, none⟩ = some (.int .i64 1) ∧ wx.cell? ⟨w3.heap.size + 1, k, none⟩ = some (.int .i64 D) ∧ w.heap.size < wx.heap.size ∧ w.heap.size + 1 < wx.heap.size ∧ w3.heap.size < wx.heap.size ∧ w3.heap.size + 1 < wx.heap.size ∧ Below w.heap.size w wx) (first | (go_keep; done) | ((try go_split_ands); (repeat' apply And.intro) <;> first | assumption | (go_simp; done) | (simp only [World.size_alloc, World.size_drew]; omega) | (go_keep; done) | (exact hB0.drew) | (exact (hB0.alloc (by first | omega | (simp <;> omega)) _).drew) | (exact carry hbq (by first | assumption | go_simp)) | (exact carryF hbq (by first | assumption | go_simp) (by first | assumption | go_simp)) | (exact Nat.lt_of_lt_of_le (by first | assumption | (simp <;> omega)) hbq.size) | (simp <;> omega) | (exact Below.trans (by assumption) (hbq.mono (by first | omega | (simp <;> omega))))))
            (first
              | (go_at_call 23; ((with_reducible refine (rin_is hin _).mono ?_); rintro e wq ⟨rfl, hbq⟩)))
          have hS : wq.cell? ⟨w.heap.size, 0, none⟩ = some (.int .i64 l0) ∧ wq.cell? ⟨w.heap.size, 1, none⟩ = some (.int .i64 u0) ∧ wq.cell? ⟨w.heap.size + 1, 0, none⟩ = some (.int .i64 l1) ∧ wq.cell? ⟨w.heap.size + 1, 1, none⟩ = some (.int .i64 u1) ∧ wq.cell? ⟨w3.heap.size, 0, none⟩ = some (.int .i64 L) ∧ wq.cell? ⟨w3.heap.size, 1, none⟩ = some (.int .i64 Hh) ∧ wq.cell? ⟨w3.heap.size, 2, none⟩ = some (.int .i64 K) ∧ wq.cell? ⟨w3.heap.size, 3, none⟩ = some (.int .i64 0) ∧ wq.frozen? ⟨w3.heap.size, 0, none⟩ = false ∧ wq.frozen? ⟨w3.heap.size, 1, none⟩ = false ∧ wq.frozen? ⟨w3.heap.size, 2, none⟩ = false ∧ wq.frozen? ⟨w3.heap.size, 3, none⟩ = false ∧ wq.cell? ⟨w3.heap.size + 1, 0, none⟩ = some (.int .i64 l1) ∧ wq.cell? ⟨w3.heap.size + 1, 1, none⟩ = some (.int .i64 u1) ∧ wq.cell? ⟨w3.heap.size + 1, 2, none⟩ = some (.int .i64 (-1)) ∧ wq.cell? ⟨w3.heap.size + 1, 3, none⟩ = some (.int .i64 1) ∧ wq.cell? ⟨w3.heap.size + 1, k, none⟩ = some (.int .i64 D) ∧ w.heap.size < wq.heap.size ∧ w.heap.size + 1 < wq.heap.size ∧ w3.heap.size < wq.heap.size ∧ w3.heap.size + 1 < wq.heap.size ∧ Below w.heap.size w wq := by assumption
          clear hB0 a0 a1 b0 b1 F0 F1 F2 F3 Z0 Z1 Z2 Z3 y0 y1 y2 y3 yk z0 z1 z2 z3 hBq
          obtain ⟨a0, a1, b0, b1, F0, F1, F2, F3, Z0, Z1, Z2, Z3, y0, y1, y2, y3, yk, z0, z1, z2, z3, hBq⟩ := hS
          have HSq := Lib.hid (show HSt w3.heap.size l0 u0 l1 u1 L Hh K 0 w wq from ⟨a0, a1, b0, b1, F0, F1, F2, F3, Z0, Z1, Z2, Z3, y0, y1, y2, y3, z0, z1, z2, z3, hBq⟩)
          clear hin
          go_wp2_with fail
          go_roundw
          case rel =>
            first | refine ⟨(k + 1 : Nat), by omega, by go_num, ?_⟩ | ((repeat apply Exists.intro); refine And.intro ?_ rfl; refine ⟨k + 1, by omega, by go_num, ?_⟩)
            unfold HStv
            rw [HK.out.1, HK.out.2.1, HK.out.2.2]
            exact HSq.out
          case measure => simp [intOf]; omega
        · have HT := Lib.hid (show tkn l1 u1 D = true from by simp [tkn, hin, h0])
          have hdv : vld D = true := by simp at hin; exact vld_mk (by omega)
          have Q1 := Lib.hid (show quoV l0 D = l0.tdiv D ∧ divE l0 D = 0 from by
            have e : divE l0 D = 0 := divE_ok.2 ⟨bth_mk (vld_mk ⟨v1, v2⟩) hdv, h0⟩
            exact ⟨if_pos e, e⟩)
          have Q2 := Lib.hid (show quoV u0 D = u0.tdiv D ∧ divE u0 D = 0 from by
            have e : divE u0 D = 0 := divE_ok.2 ⟨bth_mk (vld_mk ⟨v3, v4⟩) hdv, h0⟩
            exact ⟨if_pos e, e⟩)
          clear hdv
          have hB0 := hBq
          go_upto_region 9 with fail
          go_region_held3 (fun wx => wx.cell? ⟨w.heap.size, 0, none⟩ = some (.int .i64 l0) ∧ wx.cell? ⟨w.heap.size, 1, none⟩ = some (.int .i64 u0) ∧ wx.cell? ⟨w.heap.size + 1, 0, none⟩ = some (.int .i64 l1) ∧ wx.cell? ⟨w.heap.size + 1, 1, none⟩ = some (.int .i64 u1) ∧ wx.cell? ⟨w3.heap.size, 0, none⟩ = some (.int .i64 L) ∧ wx.cell? ⟨w3.heap.size, 1, none⟩ = some (.int .i64 Hh) ∧ wx.cell? ⟨w3.heap.size, 2, none⟩ = some (.int .i64 K) ∧ wx.cell? ⟨w3.heap.size, 3, none⟩ = some (.int .i64 0) ∧ wx.frozen? ⟨w3.heap.size, 0, none⟩ = false ∧ wx.frozen? ⟨w3.heap.size, 1, none⟩ = false ∧ wx.frozen? ⟨w3.heap.size, 2, none⟩ = false ∧ wx.frozen? ⟨w3.heap.size, 3, none⟩ = false ∧ wx.cell? ⟨w3.heap.size + 1, 0, none⟩ = some (.int .i64 l1) ∧ wx.cell? ⟨w3.heap.size + 1, 1, none⟩ = some (.int .i64 u1) ∧ wx.cell? ⟨w3.heap.size + 1, 2, none⟩ = some (.int .i64 (-1)) ∧ wx.cell? ⟨w3.heap.size + 1, 3, none⟩ = some (.int .i64 1) ∧ wx.cell? ⟨w3.heap.size + 1, k, none⟩ = some (.int .i64 D) ∧ w.heap.size < wx.heap.size ∧ w.heap.size + 1 < wx.heap.size ∧ w3.heap.size < wx.heap.size ∧ w3.heap.size + 1 < wx.heap.size ∧ Below w.heap.size w wx) (first | (go_keep; done) | ((try go_split_ands); (repeat' apply And.intro) <;> first | assumption | (go_simp; done) | (simp only [World.size_alloc, World.size_drew]; omega) | (go_keep; done) | (exact hB0.drew) | (exact (hB0.alloc (by first | omega | (simp <;> omega)) _).drew) | (exact carry hbq (by first | assumption | go_simp)) | (exact carryF hbq (by first | assumption | go_simp) (by first | assumption | go_simp)) | (exact Nat.lt_of_lt_of_le (by first | assumption | (simp <;> omega)) hbq.size) | (simp <;> omega) | (exact Below.trans (by assumption) (hbq.mono (by first | omega | (simp <;> omega))))))
            (first
              | (go_at_call 23; ((with_reducible refine (rin_is hin _).mono ?_); rintro e wq ⟨rfl, hbq⟩)))
          have hS : wq.cell? ⟨w.heap.size, 0, none⟩ = some (.int .i64 l0) ∧ wq.cell? ⟨w.heap.size, 1, none⟩ = some (.int .i64 u0) ∧ wq.cell? ⟨w.heap.size + 1, 0, none⟩ = some (.int .i64 l1) ∧ wq.cell? ⟨w.heap.size + 1, 1, none⟩ = some (.int .i64 u1) ∧ wq.cell? ⟨w3.heap.size, 0, none⟩ = some (.int .i64 L) ∧ wq.cell? ⟨w3.heap.size, 1, none⟩ = some (.int .i64 Hh) ∧ wq.cell? ⟨w3.heap.size, 2, none⟩ = some (.int .i64 K) ∧ wq.cell? ⟨w3.heap.size, 3, none⟩ = some (.int .i64 0) ∧ wq.frozen? ⟨w3.heap.size, 0, none⟩ = false ∧ wq.frozen? ⟨w3.heap.size, 1, none⟩ = false ∧ wq.frozen? ⟨w3.heap.size, 2, none⟩ = false ∧ wq.frozen? ⟨w3.heap.size, 3, none⟩ = false ∧ wq.cell? ⟨w3.heap.size + 1, 0, none⟩ = some (.int .i64 l1) ∧ wq.cell? ⟨w3.heap.size + 1, 1, none⟩ = some (.int .i64 u1) ∧ wq.cell? ⟨w3.heap.size + 1, 2, none⟩ = some (.int .i64 (-1)) ∧ wq.cell? ⟨w3.heap.size + 1, 3, none⟩ = some (.int .i64 1) ∧ wq.cell? ⟨w3.heap.size + 1, k, none⟩ = some (.int .i64 D) ∧ w.heap.size < wq.heap.size ∧ w.heap.size + 1 < wq.heap.size ∧ w3.heap.size < wq.heap.size ∧ w3.heap.size + 1 < wq.heap.size ∧ Below w.heap.size w wq := by assumption
          clear hB0 a0 a1 b0 b1 F0 F1 F2 F3 Z0 Z1 Z2 Z3 y0 y1 y2 y3 yk z0 z1 z2 z3 hBq
          obtain ⟨a0, a1, b0, b1, F0, F1, F2, F3, Z0, Z1, Z2, Z3, y0, y1, y2, y3, yk, z0, z1, z2, z3, hBq⟩ := hS
          have HSq := Lib.hid (show HSt w3.heap.size l0 u0 l1 u1 L Hh K 0 w wq from ⟨a0, a1, b0, b1, F0, F1, F2, F3, Z0, Z1, Z2, Z3, y0, y1, y2, y3, z0, z1, z2, z3, hBq⟩)
          clear hin h0
          cases hk : (K == 0)
          · have hK1 : 1 ≤ K := by have := beq_eq_false_iff_ne.1 hk; omega
            have HK := Lib.hid (show hLo l0 u0 l1 u1 (k + 1) = mn (mn L (l0.tdiv D)) (u0.tdiv D) ∧ hHi l0 u0 l1 u1 (k + 1) = mx (mx Hh (l0.tdiv D)) (u0.tdiv D) ∧ hOk l1 u1 (k + 1) = K + 1 + 1 from by
              have hk0 : ¬ K = 0 := beq_eq_false_iff_ne.1 hk
              simp only [hLo, hHi, hOk, HT.out, HL.out.1, HL.out.2.1, HL.out.2.2, if_true, if_neg hk0, ← HD.out, true_and]
              try first | omega | decide | rfl)
            have HKK := Lib.hid hk
            have HK2 := Lib.hid (show ((K + 1) == 0) = false from beq_eq_false_iff_ne.2 (by omega))
            clear hk
            go_wp2_with fail
            go_quiet ((go_at_call 24; exact Calls.quiet_of_same (quo_q _ Q1.out)))
            go_wp2_with fail
            refine (meets_more _ _ L Hh K _ hK1 (by omega) HKK.out (by go_simp) (by go_simp) (by go_simp) (by go_simp) (by go_simp) (by go_simp)).mono ?_
            rintro e wA ⟨rfl, hw⟩
            have HSwA := Lib.hid (show HSt w3.heap.size l0 u0 l1 u1 (mn L (l0.tdiv D)) (mx Hh (l0.tdiv D)) (K + 1) 0 w wA from by rw [hw]; exact st_more _ (drew_ HSq.out _) hN)
            clear hw a0 a1 b0 b1 F0 F1 F2 F3 Z0 Z1 Z2 Z3 y0 y1 y2 y3 z0 z1 z2 z3 hBq yk
            obtain ⟨a0, a1, b0, b1, F0, F1, F2, F3, Z0, Z1, Z2, Z3, y0, y1, y2, y3, z0, z1, z2, z3, hBq⟩ := HSwA.out
            have yk := yk_of HSwA.out k hlt
            rw [← HD.out] at yk
            go_wp2_with fail
            go_quiet ((go_at_call 24; exact Calls.quiet_of_same (quo_q _ Q2.out)))
            go_wp2_with fail
            refine (meets_more _ _ (mn L (l0.tdiv D)) (mx Hh (l0.tdiv D)) (K + 1) _ (by omega) (by omega) HK2.out (by go_simp) (by go_simp) (by go_simp) (by go_simp) (by go_simp) (by go_simp)).mono ?_
            rintro e wB ⟨rfl, hw⟩
            have HSwB := Lib.hid (show HSt w3.heap.size l0 u0 l1 u1 (mn (mn L (l0.tdiv D)) (u0.tdiv D)) (mx (mx Hh (l0.tdiv D)) (u0.tdiv D)) (K + 1 + 1) 0 w wB from by rw [hw]; exact st_more _ (drew_ HSwA.out _) hN)
            clear hw a0 a1 b0 b1 F0 F1 F2 F3 Z0 Z1 Z2 Z3 y0 y1 y2 y3 z0 z1 z2 z3 hBq yk
            obtain ⟨a0, a1, b0, b1, F0, F1, F2, F3, Z0, Z1, Z2, Z3, y0, y1, y2, y3, z0, z1, z2, z3, hBq⟩ := HSwB.out
            have yk := yk_of HSwB.out k hlt
            rw [← HD.out] at yk
            go_wp2_with fail
            go_roundw
            case rel =>
              first | refine ⟨(k + 1 : Nat), by omega, by go_num, ?_⟩ | ((repeat apply Exists.intro); refine And.intro ?_ rfl; refine ⟨k + 1, by omega, by go_num, ?_⟩)
              unfold HStv
              rw [HK.out.1, HK.out.2.1, HK.out.2.2]
              exact HSwB.out
            case measure => simp [intOf]; omega
          · obtain rfl : K = 0 := beq_iff_eq.1 hk
            have HK := Lib.hid (show hLo l0 u0 l1 u1 (k + 1) = mn (mn (l0.tdiv D) (l0.tdiv D)) (u0.tdiv D) ∧ hHi l0 u0 l1 u1 (k + 1) = mx (mx (l0.tdiv D) (l0.tdiv D)) (u0.tdiv D) ∧ hOk l1 u1 (k + 1) = 1 + 1 from by
              simp only [hLo, hHi, hOk, HT.out, HL.out.1, HL.out.2.1, HL.out.2.2, if_true, ← HD.out, mn_self, mx_self, true_and]
              try first | omega | decide | rfl)
            clear hk
            go_wp2_with fail
            go_quiet ((go_at_call 24; exact Calls.quiet_of_same (quo_q _ Q1.out)))
            go_wp2_with fail
            refine (meets_first _ _ L Hh _ (by go_simp) (by go_simp) (by go_simp) (by go_simp) (by go_simp) (by go_simp)).mono ?_
            rintro e wA ⟨rfl, hw⟩
            have HSwA := Lib.hid (show HSt w3.heap.size l0 u0 l1 u1 (mn (l0.tdiv D) (l0.tdiv D)) (mx (l0.tdiv D) (l0.tdiv D)) 1 0 w wA from by rw [hw]; exact st_first _ (drew_ HSq.out _) hN)
            clear hw a0 a1 b0 b1 F0 F1 F2 F3 Z0 Z1 Z2 Z3 y0 y1 y2 y3 z0 z1 z2 z3 hBq yk
            obtain ⟨a0, a1, b0, b1, F0, F1, F2, F3, Z0, Z1, Z2, Z3, y0, y1, y2, y3, z0, z1, z2, z3, hBq⟩ := HSwA.out
            have yk := yk_of HSwA.out k hlt
            rw [← HD.out] at yk
            go_wp2_with fail
            go_quiet ((go_at_call 24; exact Calls.quiet_of_same (quo_q _ Q2.out)))
            go_wp2_with fail
            refine (meets_more _ _ (mn (l0.tdiv D) (l0.tdiv D)) (mx (l0.tdiv D) (l0.tdiv D)) 1 _ (by decide) (by decide) (by decide) (by go_simp) (by go_simp) (by go_simp) (by go_simp) (by go_simp) (by go_simp)).mono ?_
            rintro e wB ⟨rfl, hw⟩
            have HSwB := Lib.hid (show HSt w3.heap.size l0 u0 l1 u1 (mn (mn (l0.tdiv D) (l0.tdiv D)) (u0.tdiv D)) (mx (mx (l0.tdiv D) (l0.tdiv D)) (u0.tdiv D)) (1 + 1) 0 w wB from by rw [hw]; exact st_more _ (drew_ HSwA.out _) hN)
            clear hw a0 a1 b0 b1 F0 F1 F2 F3 Z0 Z1 Z2 Z3 y0 y1 y2 y3 z0 z1 z2 z3 hBq yk
            obtain ⟨a0, a1, b0, b1, F0, F1, F2, F3, Z0, Z1, Z2, Z3, y0, y1, y2, y3, z0, z1, z2, z3, hBq⟩ := HSwB.out
            have yk := yk_of HSwB.out k hlt
            rw [← HD.out] at yk
            go_wp2_with fail
            go_roundw
            case rel =>
              first | refine ⟨(k + 1 : Nat), by omega, by go_num, ?_⟩ | ((repeat apply Exists.intro); refine And.intro ?_ rfl; refine ⟨k + 1, by omega, by go_num, ?_⟩)
              unfold HStv
              rw [HK.out.1, HK.out.2.1, HK.out.2.2]
              exact HSwB.out
            case measure => simp [intOf]; omega
    · obtain rfl : k = 4 := by omega
      by_cases h0 : l1 = 0 ∧ u1 = 0
      · have HS := Lib.hid (show qL l0 u0 l1 u1 = 0 ∧ qH l0 u0 l1 u1 = 0 ∧ qM l0 u0 l1 u1 = false ∧ qE l0 u0 l1 u1 = 5 from by
          have hbs := HBS.out
          obtain ⟨rfl, rfl⟩ := h0
          simp [qL, qH, qM, qE, hbs])
        rw [none_is l1 u1 h0] at F2
        generalize hLo l0 u0 l1 u1 4 = L at *
        generalize hHi l0 u0 l1 u1 4 = Hh at *
        clear h0
        go_wp2_with fail
        refine (squo_is HS.out _).mono ?_
        rintro e w4 ⟨rfl, hb4⟩
        have a0 : w4.cell? ⟨w.heap.size, 0, none⟩ = some (.int .i64 l0) := carry hb4 (by first | assumption | go_simp)
        have a1 : w4.cell? ⟨w.heap.size, 1, none⟩ = some (.int .i64 u0) := carry hb4 (by first | assumption | go_simp)
        have b0 : w4.cell? ⟨w.heap.size + 1, 0, none⟩ = some (.int .i64 l1) := carry hb4 (by first | assumption | go_simp)
        have b1 : w4.cell? ⟨w.heap.size + 1, 1, none⟩ = some (.int .i64 u1) := carry hb4 (by first | assumption | go_simp)
        have F0 : w4.cell? ⟨w3.heap.size, 0, none⟩ = some (.int .i64 L) := carry hb4 (by first | assumption | go_simp)
        have F1 : w4.cell? ⟨w3.heap.size, 1, none⟩ = some (.int .i64 Hh) := carry hb4 (by first | assumption | go_simp)
        have F2 : w4.cell? ⟨w3.heap.size, 2, none⟩ = some (.int .i64 0) := carry hb4 (by first | assumption | go_simp)
        have z0 : w.heap.size < w4.heap.size := by have := hb4.size; first | omega | (simp at this; omega)
        have z1 : w.heap.size + 1 < w4.heap.size := by have := hb4.size; first | omega | (simp at this; omega)
        have z2 : w3.heap.size < w4.heap.size := by have := hb4.size; first | omega | (simp at this; omega)
        have HBw4 := Lib.hid ((by repeat (first | exact hBq | refine Below.drew ?_ | refine Below.alloc ?_ (by first | omega | (simp; done) | (simp; omega)) _) : Below w.heap.size w _).trans (hb4.mono (by first | omega | (simp; omega))))
        clear hb4
        go_wp2_with fail
        refine (scmp_is HSC.out _).mono ?_
        rintro e w6 ⟨rfl, hb6⟩
        have a0 : w6.cell? ⟨w.heap.size, 0, none⟩ = some (.int .i64 l0) := carry hb6 (by first | assumption | go_simp)
        have a1 : w6.cell? ⟨w.heap.size, 1, none⟩ = some (.int .i64 u0) := carry hb6 (by first | assumption | go_simp)
        have b0 : w6.cell? ⟨w.heap.size + 1, 0, none⟩ = some (.int .i64 l1) := carry hb6 (by first | assumption | go_simp)
        have b1 : w6.cell? ⟨w.heap.size + 1, 1, none⟩ = some (.int .i64 u1) := carry hb6 (by first | assumption | go_simp)
        have z0 : w.heap.size < w6.heap.size := by have := hb6.size; first | omega | (simp at this; omega)
        have z1 : w.heap.size + 1 < w6.heap.size := by have := hb6.size; first | omega | (simp at this; omega)
        have HBw6 := Lib.hid ((by repeat (first | exact HBw4.out | refine Below.drew ?_ | refine Below.alloc ?_ (by first | omega | (simp; done) | (simp; omega)) _) : Below w.heap.size w _).trans (hb6.mono (by first | omega | (simp; omega))))
        clear hb6
        generalize cmp3 l0 u1 = c1 at *
        generalize cmp3 u0 l1 = c2 at *
        go_wp2_with fail
        refine (cmp_is HC1.out _).mono ?_
        rintro e w' ⟨rfl, rfl⟩
        go_wp2_with fail
        refine (cmp_is HC2.out _).mono ?_
        rintro e w' ⟨rfl, rfl⟩
        go_wp2_with fail
        go_ret
        exact ⟨rfl, by repeat (first | exact HBw6.out | refine Below.drew ?_ | refine Below.alloc ?_ (by have := HBw6.out.size; first | omega | (simp; done) | (simp; omega)) _)⟩
      · have ⟨q1, q2, q3⟩ := tight_is HBS.out h0
        have ⟨_, _, r3, r4⟩ := fold_is HBS.out h0
        have HS := Lib.hid (show qL l0 u0 l1 u1 = hLo l0 u0 l1 u1 4 ∧ qH l0 u0 l1 u1 = hHi l0 u0 l1 u1 4 ∧ qM l0 u0 l1 u1 = (decide (l1 ≤ 0) && decide (0 ≤ u1)) ∧ qE l0 u0 l1 u1 = 0 from ⟨q1, q2, r3, r4⟩)
        have q4 : decide (0 < hOk l1 u1 4) = true := decide_eq_true q3
        clear q1 q2 r3 r4 h0
        generalize hLo l0 u0 l1 u1 4 = L at *
        generalize hHi l0 u0 l1 u1 4 = Hh at *
        generalize hOk l1 u1 4 = K at *
        go_wp2_with fail
        refine (squo_is HS.out _).mono ?_
        rintro e w4 ⟨rfl, hb4⟩
        have a0 : w4.cell? ⟨w.heap.size, 0, none⟩ = some (.int .i64 l0) := carry hb4 (by first | assumption | go_simp)
        have a1 : w4.cell? ⟨w.heap.size, 1, none⟩ = some (.int .i64 u0) := carry hb4 (by first | assumption | go_simp)
        have b0 : w4.cell? ⟨w.heap.size + 1, 0, none⟩ = some (.int .i64 l1) := carry hb4 (by first | assumption | go_simp)
        have b1 : w4.cell? ⟨w.heap.size + 1, 1, none⟩ = some (.int .i64 u1) := carry hb4 (by first | assumption | go_simp)
        have F0 : w4.cell? ⟨w3.heap.size, 0, none⟩ = some (.int .i64 L) := carry hb4 (by first | assumption | go_simp)
        have F1 : w4.cell? ⟨w3.heap.size, 1, none⟩ = some (.int .i64 Hh) := carry hb4 (by first | assumption | go_simp)
        have F2 : w4.cell? ⟨w3.heap.size, 2, none⟩ = some (.int .i64 K) := carry hb4 (by first | assumption | go_simp)
        have z0 : w.heap.size < w4.heap.size := by have := hb4.size; first | omega | (simp at this; omega)
        have z1 : w.heap.size + 1 < w4.heap.size := by have := hb4.size; first | omega | (simp at this; omega)
        have z2 : w3.heap.size < w4.heap.size := by have := hb4.size; first | omega | (simp at this; omega)
        have HBw4 := Lib.hid ((by repeat (first | exact hBq | refine Below.drew ?_ | refine Below.alloc ?_ (by first | omega | (simp; done) | (simp; omega)) _) : Below w.heap.size w _).trans (hb4.mono (by first | omega | (simp; omega))))
        clear hb4
        go_wp2_with fail
        refine (rin_any _ _ _ _).mono ?_
        rintro e w5 ⟨rfl, hb5⟩
        have a0 : w5.cell? ⟨w.heap.size, 0, none⟩ = some (.int .i64 l0) := carry hb5 (by first | assumption | go_simp)
        have a1 : w5.cell? ⟨w.heap.size, 1, none⟩ = some (.int .i64 u0) := carry hb5 (by first | assumption | go_simp)
        have b0 : w5.cell? ⟨w.heap.size + 1, 0, none⟩ = some (.int .i64 l1) := carry hb5 (by first | assumption | go_simp)
        have b1 : w5.cell? ⟨w.heap.size + 1, 1, none⟩ = some (.int .i64 u1) := carry hb5 (by first | assumption | go_simp)
        have F0 : w5.cell? ⟨w3.heap.size, 0, none⟩ = some (.int .i64 L) := carry hb5 (by first | assumption | go_simp)
        have F1 : w5.cell? ⟨w3.heap.size, 1, none⟩ = some (.int .i64 Hh) := carry hb5 (by first | assumption | go_simp)
        have F2 : w5.cell? ⟨w3.heap.size, 2, none⟩ = some (.int .i64 K) := carry hb5 (by first | assumption | go_simp)
        have s0 : w5.cell? ⟨w4.heap.size, 0, none⟩ = some (.int .i64 L) := carry hb5 (by first | assumption | go_simp)
        have s1 : w5.cell? ⟨w4.heap.size, 1, none⟩ = some (.int .i64 Hh) := carry hb5 (by first | assumption | go_simp)
        have z0 : w.heap.size < w5.heap.size := by have := hb5.size; first | omega | (simp at this; omega)
        have z1 : w.heap.size + 1 < w5.heap.size := by have := hb5.size; first | omega | (simp at this; omega)
        have z2 : w3.heap.size < w5.heap.size := by have := hb5.size; first | omega | (simp at this; omega)
        have zs : w4.heap.size < w5.heap.size := by have := hb5.size; first | omega | (simp at this; omega)
        have HBw5 := Lib.hid ((by repeat (first | exact HBw4.out | refine Below.drew ?_ | refine Below.alloc ?_ (by first | omega | (simp; done) | (simp; omega)) _) : Below w.heap.size w _).trans (hb5.mono (by first | omega | (simp; omega))))
        clear hb5
        go_wp2_with fail
        refine (scmp_is HSC.out _).mono ?_
        rintro e w6 ⟨rfl, hb6⟩
        have a0 : w6.cell? ⟨w.heap.size, 0, none⟩ = some (.int .i64 l0) := carry hb6 (by first | assumption | go_simp)
        have a1 : w6.cell? ⟨w.heap.size, 1, none⟩ = some (.int .i64 u0) := carry hb6 (by first | assumption | go_simp)
        have b0 : w6.cell? ⟨w.heap.size + 1, 0, none⟩ = some (.int .i64 l1) := carry hb6 (by first | assumption | go_simp)
        have b1 : w6.cell? ⟨w.heap.size + 1, 1, none⟩ = some (.int .i64 u1) := carry hb6 (by first | assumption | go_simp)
        have z0 : w.heap.size < w6.heap.size := by have := hb6.size; first | omega | (simp at this; omega)
        have z1 : w.heap.size + 1 < w6.heap.size := by have := hb6.size; first | omega | (simp at this; omega)
        have HBw6 := Lib.hid ((by repeat (first | exact HBw5.out | refine Below.drew ?_ | refine Below.alloc ?_ (by first | omega | (simp; done) | (simp; omega)) _) : Below w.heap.size w _).trans (hb6.mono (by first | omega | (simp; omega))))
        clear hb6
        generalize cmp3 l0 u1 = c1 at *
        generalize cmp3 u0 l1 = c2 at *
        go_wp2_with fail
        refine (cmp_is HC1.out _).mono ?_
        rintro e w' ⟨rfl, rfl⟩
        go_wp2_with fail
        refine (cmp_is HC2.out _).mono ?_
        rintro e w' ⟨rfl, rfl⟩
        go_wp2_with fail
        go_ret
        exact ⟨rfl, by repeat (first | exact HBw6.out | refine Below.drew ?_ | refine Below.alloc ?_ (by have := HBw6.out.size; first | omega | (simp; done) | (simp; omega)) _)⟩

theorem run (l0 u0 : Int) (l1 u1 : Int) (w : World) (wl0 : (Lit.int .i64 l0).wf = true) (wu0 : (Lit.int .i64 u0).wf = true) (wl1 : (Lit.int .i64 l1).wf = true) (wu1 : (Lit.int .i64 u1).wf = true) :
    Calls Try.prog 5 #[spanV l0 u0, spanV l1 u1] w fun e w' => e = .returned (.bool true) ∧ Below w.heap.size w w' := by
  cases ha : vsp l0 u0
  · exact bad1 l0 u0 l1 u1 w (Lib.hid ha)
  · cases hb : vsp l1 u1
    · exact bad2 l0 u0 l1 u1 w (Lib.hid ha) (Lib.hid hb)
    · exact main l0 u0 l1 u1 w (Lib.hid ha) (Lib.hid hb)

end Go.Proofs.Ytnhieokegidibaa.integerTighter
