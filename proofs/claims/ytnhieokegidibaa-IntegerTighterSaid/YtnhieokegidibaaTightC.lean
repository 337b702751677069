/-
  TIGHT SPANS: the operations by their number, what has been found of the results on the ends, and what it comes to.
-/
import Derived.Test.YtnhieokegidibaaSpanOp
import Derived.Test.YtnhieokegidibaaIs
import Derived.Deep.QuietTactic
import Derived.BigQuiet
import Derived.LoopTactic

namespace Go.Proofs.Ytnhieokegidibaa
open Go.RowKit

def gOp (op x y : Int) : Int := if op = 0 then x + y else if op = 1 then x - y else x * y
def gF (op la ua lb ub : Int) (p q : Bool) : Int := gOp op (cond p ua la) (cond q ub lb)
theorem gF0 (la ua lb ub : Int) : gF 0 la ua lb ub = addF la ua lb ub := rfl
theorem gF1 (la ua lb ub : Int) : gF 1 la ua lb ub = subF la ua lb ub := rfl
theorem gF2 (la ua lb ub : Int) : gF 2 la ua lb ub = mulF la ua lb ub := rfl
/-- the results on the ends, one after the other -/
def en (v : Bool → Bool → Int) : Nat → Int
  | 0 => v false false
  | 1 => v false true
  | 2 => v true false
  | _ => v true true
def fOk (v : Bool → Bool → Int) : Nat → Int
  | 0 => 0
  | k + 1 => if vld (en v k) then fOk v k + 1 else fOk v k
def fOut (v : Bool → Bool → Int) : Nat → Int
  | 0 => 0
  | k + 1 => if vld (en v k) then fOut v k else fOut v k + 1
def fLo (v : Bool → Bool → Int) : Nat → Int
  | 0 => 0
  | k + 1 => if vld (en v k) then (if fOk v k = 0 then en v k else mn (fLo v k) (en v k)) else fLo v k
def fHi (v : Bool → Bool → Int) : Nat → Int
  | 0 => 0
  | k + 1 => if vld (en v k) then (if fOk v k = 0 then en v k else mx (fHi v k) (en v k)) else fHi v k
theorem fOk_bd (v : Bool → Bool → Int) (k : Nat) : 0 ≤ fOk v k ∧ fOk v k ≤ k := by
  induction k with
  | zero => exact ⟨Int.le_refl 0, Int.le_refl 0⟩
  | succ k ih => unfold fOk; split <;> omega
theorem fOut_bd (v : Bool → Bool → Int) (k : Nat) : 0 ≤ fOut v k ∧ fOut v k ≤ k := by
  induction k with
  | zero => exact ⟨Int.le_refl 0, Int.le_refl 0⟩
  | succ k ih => unfold fOut; split <;> omega
theorem fin_no (v : Bool → Bool → Int) (h : okC (low4 v) (high4 v) = false) : fOk v 4 = 0 := by
  have a := low4_le v
  have a1 := a false false
  have a2 := a false true
  have a3 := a true false
  have a4 := a true true
  have hv : ∀ x, low4 v ≤ x → x ≤ high4 v → vld x = false := fun x k1 k2 => vld_no (by simp [okC] at h; omega)
  simp only [fOk, en, hv _ a1.1 a1.2, hv _ a2.1 a2.2, hv _ a3.1 a3.2, hv _ a4.1 a4.2, Bool.false_eq_true, if_false]
theorem fin_in (v : Bool → Bool → Int) (h : okC (low4 v) (high4 v) = true) (hm : cutM (low4 v) (high4 v) = false) :
    fOut v 4 = 0 ∧ cutL (low4 v) (high4 v) = fLo v 4 ∧ cutH (low4 v) (high4 v) = fHi v 4 := by
  have a := low4_le v
  have a1 := a false false
  have a2 := a false true
  have a3 := a true false
  have a4 := a true true
  have hb : -2147483647 ≤ low4 v ∧ high4 v ≤ 2147483647 := by simp [cutM, h] at hm; omega
  have hv : ∀ x, low4 v ≤ x → x ≤ high4 v → vld x = true := fun x k1 k2 => vld_mk (by omega)
  have e1 : cutL (low4 v) (high4 v) = low4 v := by simp only [cutL, h, if_true]; unfold mx; split <;> omega
  have e2 : cutH (low4 v) (high4 v) = high4 v := by simp only [cutH, h, if_true]; unfold mn; split <;> omega
  rw [e1, e2]
  simp only [fOut, fLo, fHi, fOk, en, hv _ a1.1 a1.2, hv _ a2.1 a2.2, hv _ a3.1 a3.2, hv _ a4.1 a4.2, if_true]
  exact ⟨trivial, rfl, rfl⟩
theorem low4_some (v : Bool → Bool → Int) : (low4 v = v false false ∨ low4 v = v false true ∨ low4 v = v true false ∨ low4 v = v true true) ∧ (high4 v = v false false ∨ high4 v = v false true ∨ high4 v = v true false ∨ high4 v = v true true) := by
  unfold low4 high4 mn mx
  constructor <;> (repeat' split) <;> simp
theorem fin_out (v : Bool → Bool → Int) (h : okC (low4 v) (high4 v) = true) (hm : cutM (low4 v) (high4 v) = true) : 0 < fOut v 4 := by
  have a := low4_some v
  have hb : low4 v < -2147483647 ∨ 2147483647 < high4 v := by simp [cutM, h] at hm; omega
  have bd : ∀ k, 0 ≤ fOut v k := fun k => (fOut_bd v k).1
  simp only [fOut, en]
  cases h1 : vld (v false false)
  · simp only [Bool.false_eq_true, if_false]; (repeat' split) <;> omega
  cases h2 : vld (v false true)
  · simp only [Bool.false_eq_true, if_false, if_true]; (repeat' split) <;> omega
  cases h3 : vld (v true false)
  · simp only [Bool.false_eq_true, if_false, if_true]; (repeat' split) <;> omega
  cases h4 : vld (v true true)
  · simp only [Bool.false_eq_true, if_false, if_true]; omega
  have k1 := vld_iff.1 h1
  have k2 := vld_iff.1 h2
  have k3 := vld_iff.1 h3
  have k4 := vld_iff.1 h4
  omega

theorem apply_any (op x y : Int) (w : World) (h0 : 0 ≤ op) (h2 : op ≤ 2) (hb : bth x y = true) :
    Calls Try.prog 20 #[.int .i64 op, .int .i64 x, .int .i64 y] w fun e w' => e = .returned (pairI (exV (gOp op x y)) (exE (gOp op x y))) ∧ w = w' := by
  rcases (show op = 0 ∨ op = 1 ∨ op = 2 by omega) with rfl | rfl | rfl
  · have H := Lib.hid (show addV x y = exV (gOp 0 x y) ∧ addE x y = exE (gOp 0 x y) from by simp [addV, addE, hb, gOp])
    clear hb
    go_enter Try.func20, Try.ntmps20
    go_wp2_with fail
    refine (add_is H.out _).mono ?_
    rintro e w' ⟨rfl, rfl⟩
    go_wp2_with fail
    go_ret2
    exact ⟨rfl, rfl⟩
  · have H := Lib.hid (show subV x y = exV (gOp 1 x y) ∧ subE x y = exE (gOp 1 x y) from by simp [subV, subE, hb, gOp])
    clear hb
    go_enter Try.func20, Try.ntmps20
    go_wp2_with fail
    refine (sub_is H.out _).mono ?_
    rintro e w' ⟨rfl, rfl⟩
    go_wp2_with fail
    go_ret2
    exact ⟨rfl, rfl⟩
  · have H := Lib.hid (show mulV x y = exV (gOp 2 x y) ∧ mulE x y = exE (gOp 2 x y) from by simp [mulV, mulE, hb, gOp])
    clear hb
    go_enter Try.func20, Try.ntmps20
    go_wp2_with fail
    refine (mul_is H.out _).mono ?_
    rintro e w' ⟨rfl, rfl⟩
    go_wp2_with fail
    go_ret2
    exact ⟨rfl, rfl⟩

set_option maxRecDepth 100000 in
set_option maxHeartbeats 4000000 in
theorem spread0 (la ua lb ub : Int) (w : World) :
    Calls Try.prog 22 #[.int .i64 0, spanV la ua, spanV lb ub] w fun e w' => e = .returned (opV (opL la ua lb ub (gF 0 la ua lb ub)) (opH la ua lb ub (gF 0 la ua lb ub)) (opM la ua lb ub (gF 0 la ua lb ub)) (opE la ua lb ub (gF 0 la ua lb ub))) ∧ Below w.heap.size w w' := by
  rw [gF0]
  go_enter Try.func22, Try.ntmps22
  go_wp2_with fail
  refine (sadd_any _ _ _ _ _).mono ?_
  rintro e w1 ⟨rfl, hb1⟩
  have r0 : w1.cell? ⟨w.heap.size + 1 + 1, 0, none⟩ = some (.int .i64 0) := carry hb1 (by go_simp)
  have r1 : w1.cell? ⟨w.heap.size + 1 + 1, 1, none⟩ = some (.int .i64 0) := carry hb1 (by go_simp)
  have f0 : w1.frozen? ⟨w.heap.size + 1 + 1, 0, none⟩ = false := carryF hb1 (v := .int .i64 0) (by go_simp) (by go_simp)
  have f1 : w1.frozen? ⟨w.heap.size + 1 + 1, 1, none⟩ = false := carryF hb1 (v := .int .i64 0) (by go_simp) (by go_simp)
  have HBB := Lib.hid ((by repeat (first | exact Below.refl _ _ | refine Below.alloc ?_ (by simp <;> omega) _) : Below w.heap.size w (((w.alloc _).alloc _).alloc _)).trans (hb1.mono (by simp <;> omega)))
  clear hb1
  generalize hl : opL la ua lb ub (addF la ua lb ub) = l
  generalize hh : opH la ua lb ub (addF la ua lb ub) = h
  generalize hm : opM la ua lb ub (addF la ua lb ub) = m
  generalize he : opE la ua lb ub (addF la ua lb ub) = er
  have HQ := Lib.hid (And.intro (And.intro hl hh) (And.intro hm he))
  clear hl hh hm he
  go_wp2_with fail
  refine bodyPost_ret (v := opV l h m er) ?_ rfl ⟨?_, ?_⟩
  · simp [results, Try.results22, go_sem, r0, r1]
  · rw [HQ.out.1.1, HQ.out.1.2, HQ.out.2.1, HQ.out.2.2]
  · exact (HBB.out.setCell (p := ⟨w.heap.size + 1 + 1, 0, none⟩) (by show w.heap.size ≤ w.heap.size + 1 + 1; omega) _).setCell (p := ⟨w.heap.size + 1 + 1, 1, none⟩) (by show w.heap.size ≤ w.heap.size + 1 + 1; omega) _

set_option maxRecDepth 100000 in
set_option maxHeartbeats 4000000 in
theorem spread1 (la ua lb ub : Int) (w : World) :
    Calls Try.prog 22 #[.int .i64 1, spanV la ua, spanV lb ub] w fun e w' => e = .returned (opV (opL la ua lb ub (gF 1 la ua lb ub)) (opH la ua lb ub (gF 1 la ua lb ub)) (opM la ua lb ub (gF 1 la ua lb ub)) (opE la ua lb ub (gF 1 la ua lb ub))) ∧ Below w.heap.size w w' := by
  rw [gF1]
  go_enter Try.func22, Try.ntmps22
  go_wp2_with fail
  refine (ssub_any _ _ _ _ _).mono ?_
  rintro e w1 ⟨rfl, hb1⟩
  have r0 : w1.cell? ⟨w.heap.size + 1 + 1, 0, none⟩ = some (.int .i64 0) := carry hb1 (by go_simp)
  have r1 : w1.cell? ⟨w.heap.size + 1 + 1, 1, none⟩ = some (.int .i64 0) := carry hb1 (by go_simp)
  have f0 : w1.frozen? ⟨w.heap.size + 1 + 1, 0, none⟩ = false := carryF hb1 (v := .int .i64 0) (by go_simp) (by go_simp)
  have f1 : w1.frozen? ⟨w.heap.size + 1 + 1, 1, none⟩ = false := carryF hb1 (v := .int .i64 0) (by go_simp) (by go_simp)
  have HBB := Lib.hid ((by repeat (first | exact Below.refl _ _ | refine Below.alloc ?_ (by simp <;> omega) _) : Below w.heap.size w (((w.alloc _).alloc _).alloc _)).trans (hb1.mono (by simp <;> omega)))
  clear hb1
  generalize hl : opL la ua lb ub (subF la ua lb ub) = l
  generalize hh : opH la ua lb ub (subF la ua lb ub) = h
  generalize hm : opM la ua lb ub (subF la ua lb ub) = m
  generalize he : opE la ua lb ub (subF la ua lb ub) = er
  have HQ := Lib.hid (And.intro (And.intro hl hh) (And.intro hm he))
  clear hl hh hm he
  go_wp2_with fail
  refine bodyPost_ret (v := opV l h m er) ?_ rfl ⟨?_, ?_⟩
  · simp [results, Try.results22, go_sem, r0, r1]
  · rw [HQ.out.1.1, HQ.out.1.2, HQ.out.2.1, HQ.out.2.2]
  · exact (HBB.out.setCell (p := ⟨w.heap.size + 1 + 1, 0, none⟩) (by show w.heap.size ≤ w.heap.size + 1 + 1; omega) _).setCell (p := ⟨w.heap.size + 1 + 1, 1, none⟩) (by show w.heap.size ≤ w.heap.size + 1 + 1; omega) _

set_option maxRecDepth 100000 in
set_option maxHeartbeats 4000000 in
theorem spread2 (la ua lb ub : Int) (w : World) :
    Calls Try.prog 22 #[.int .i64 2, spanV la ua, spanV lb ub] w fun e w' => e = .returned (opV (opL la ua lb ub (gF 2 la ua lb ub)) (opH la ua lb ub (gF 2 la ua lb ub)) (opM la ua lb ub (gF 2 la ua lb ub)) (opE la ua lb ub (gF 2 la ua lb ub))) ∧ Below w.heap.size w w' := by
  rw [gF2]
  go_enter Try.func22, Try.ntmps22
  go_wp2_with fail
  refine (smul_any _ _ _ _ _).mono ?_
  rintro e w1 ⟨rfl, hb1⟩
  have r0 : w1.cell? ⟨w.heap.size + 1 + 1, 0, none⟩ = some (.int .i64 0) := carry hb1 (by go_simp)
  have r1 : w1.cell? ⟨w.heap.size + 1 + 1, 1, none⟩ = some (.int .i64 0) := carry hb1 (by go_simp)
  have f0 : w1.frozen? ⟨w.heap.size + 1 + 1, 0, none⟩ = false := carryF hb1 (v := .int .i64 0) (by go_simp) (by go_simp)
  have f1 : w1.frozen? ⟨w.heap.size + 1 + 1, 1, none⟩ = false := carryF hb1 (v := .int .i64 0) (by go_simp) (by go_simp)
  have HBB := Lib.hid ((by repeat (first | exact Below.refl _ _ | refine Below.alloc ?_ (by simp <;> omega) _) : Below w.heap.size w (((w.alloc _).alloc _).alloc _)).trans (hb1.mono (by simp <;> omega)))
  clear hb1
  generalize hl : opL la ua lb ub (mulF la ua lb ub) = l
  generalize hh : opH la ua lb ub (mulF la ua lb ub) = h
  generalize hm : opM la ua lb ub (mulF la ua lb ub) = m
  generalize he : opE la ua lb ub (mulF la ua lb ub) = er
  have HQ := Lib.hid (And.intro (And.intro hl hh) (And.intro hm he))
  clear hl hh hm he
  go_wp2_with fail
  refine bodyPost_ret (v := opV l h m er) ?_ rfl ⟨?_, ?_⟩
  · simp [results, Try.results22, go_sem, r0, r1]
  · rw [HQ.out.1.1, HQ.out.1.2, HQ.out.2.1, HQ.out.2.2]
  · exact (HBB.out.setCell (p := ⟨w.heap.size + 1 + 1, 0, none⟩) (by show w.heap.size ≤ w.heap.size + 1 + 1; omega) _).setCell (p := ⟨w.heap.size + 1 + 1, 1, none⟩) (by show w.heap.size ≤ w.heap.size + 1 + 1; omega) _

theorem spread_any (op la ua lb ub : Int) (w : World) (h0 : 0 ≤ op) (h2 : op ≤ 2) :
    Calls Try.prog 22 #[.int .i64 op, spanV la ua, spanV lb ub] w fun e w' => e = .returned (opV (opL la ua lb ub (gF op la ua lb ub)) (opH la ua lb ub (gF op la ua lb ub)) (opM la ua lb ub (gF op la ua lb ub)) (opE la ua lb ub (gF op la ua lb ub))) ∧ Below w.heap.size w w' := by
  rcases (show op = 0 ∨ op = 1 ∨ op = 2 by omega) with rfl | rfl | rfl
  · exact spread0 la ua lb ub w
  · exact spread1 la ua lb ub w
  · exact spread2 la ua lb ub w

theorem meets_out (B : Nat) (n e o : Int) (w : World) (he : (e != 0) = true) (o0 : 0 ≤ o) (o1 : o ≤ 9) (c3 : w.cell? ⟨B, 3, none⟩ = some (.int .i64 o)) (z3 : w.frozen? ⟨B, 3, none⟩ = false) :
    Calls Try.prog 21 #[.pointer (some ⟨B, 0, none⟩), .int .i64 n, .int .i64 e] w fun e' w' => e' = .returned (.tuple #[]) ∧ w' = w.setCell ⟨B, 3, none⟩ (.int .i64 (o + 1)) := by
  go_enter Try.func21, Try.ntmps21
  go_wp2_with fail
  ((try simp only [Exit.inBlock, Exit.then]); refine bodyPost_ret (results_none rfl _ _ _) rfl ?_)
  exact ⟨rfl, rfl⟩

theorem meets_first (B : Nat) (n l h : Int) (w : World) (c0 : w.cell? ⟨B, 0, none⟩ = some (.int .i64 l)) (c1 : w.cell? ⟨B, 1, none⟩ = some (.int .i64 h)) (c2 : w.cell? ⟨B, 2, none⟩ = some (.int .i64 0)) (z0 : w.frozen? ⟨B, 0, none⟩ = false) (z1 : w.frozen? ⟨B, 1, none⟩ = false) (z2 : w.frozen? ⟨B, 2, none⟩ = false) :
    Calls Try.prog 21 #[.pointer (some ⟨B, 0, none⟩), .int .i64 n, .int .i64 0] w fun e' w' => e' = .returned (.tuple #[]) ∧ w' = ((((w.setCell ⟨B, 0, none⟩ (.int .i64 n)).setCell ⟨B, 1, none⟩ (.int .i64 n)).setCell ⟨B, 2, none⟩ (.int .i64 1)).setCell ⟨B, 0, none⟩ (.int .i64 (mn n n))).setCell ⟨B, 1, none⟩ (.int .i64 (mx n n)) := by
  have hmn : ∀ a b w, Sem.run Try.prog (Builtin.min_ #[3, 3] 3 #[.int .i64 a, .int .i64 b]) w = .ok (.int .i64 (mn a b)) w := fun a b w => by kernel_rfl
  have hmx : ∀ a b w, Sem.run Try.prog (Builtin.max_ #[3, 3] 3 #[.int .i64 a, .int .i64 b]) w = .ok (.int .i64 (mx a b)) w := fun a b w => by kernel_rfl
  go_enter Try.func21, Try.ntmps21
  go_wp2_with fail
  go_end0
  exact ⟨rfl, rfl⟩

theorem meets_more (B : Nat) (n l h k : Int) (w : World) (k0 : 1 ≤ k) (k1 : k ≤ 9) (hk : (k == 0) = false) (c0 : w.cell? ⟨B, 0, none⟩ = some (.int .i64 l)) (c1 : w.cell? ⟨B, 1, none⟩ = some (.int .i64 h)) (c2 : w.cell? ⟨B, 2, none⟩ = some (.int .i64 k)) (z0 : w.frozen? ⟨B, 0, none⟩ = false) (z1 : w.frozen? ⟨B, 1, none⟩ = false) (z2 : w.frozen? ⟨B, 2, none⟩ = false) :
    Calls Try.prog 21 #[.pointer (some ⟨B, 0, none⟩), .int .i64 n, .int .i64 0] w fun e' w' => e' = .returned (.tuple #[]) ∧ w' = ((w.setCell ⟨B, 2, none⟩ (.int .i64 (k + 1))).setCell ⟨B, 0, none⟩ (.int .i64 (mn l n))).setCell ⟨B, 1, none⟩ (.int .i64 (mx h n)) := by
  have hmn : ∀ a b w, Sem.run Try.prog (Builtin.min_ #[3, 3] 3 #[.int .i64 a, .int .i64 b]) w = .ok (.int .i64 (mn a b)) w := fun a b w => by kernel_rfl
  have hmx : ∀ a b w, Sem.run Try.prog (Builtin.max_ #[3, 3] 3 #[.int .i64 a, .int .i64 b]) w = .ok (.int .i64 (mx a b)) w := fun a b w => by kernel_rfl
  go_enter Try.func21, Try.ntmps21
  go_wp2_with fail
  go_end0
  exact ⟨rfl, rfl⟩

end Go.Proofs.Ytnhieokegidibaa
