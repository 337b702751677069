/-
  PACKAGE real: what the functions return that need no rounding.
-/
import Derived.Test.YtbfknapmhkpgcaaGreatDoorProg
import Derived.Test.YtbfknapmhkpgcaaGreatDoorRealN
import Derived.WalkKit
import Derived.ProofKit
import Derived.WalkSpells
import Derived.WalkLawsBesides
import Derived.OwnWalk
import Derived.Below
import Derived.RangeFuncNested
import Derived.Outline
import Derived.Lib.Hide
import Derived.Lib.SmallJoins
import Derived.Deep.RegionHeld3

namespace Go.Proofs.YtbfknapmhkpgcaaGreatDoor
open Go.RowKit
set_option linter.unusedVariables false

/-- a real as a value -/
abbrev realV (m e : Int) : Value := .agg #[.int .i64 m, .int .i64 e]

abbrev wfI (x : Int) : Prop := -9223372036854775808 ≤ x ∧ x ≤ 9223372036854775807

theorem carry {W w1 : World} (hb : Below W.heap.size W w1) {b o : Nat} {v : Value} (h : W.cell? ⟨b, o, none⟩ = some v) : w1.cell? ⟨b, o, none⟩ = some v := by
  obtain ⟨ob, ho, _⟩ := cells_of_cell h
  exact (hb.cell (p := ⟨b, o, none⟩) (Array.getElem?_eq_some_iff.1 ho).1).trans h

theorem carryF {W w1 : World} (hb : Below W.heap.size W w1) {b o : Nat} {v : Value} (h : W.cell? ⟨b, o, none⟩ = some v) (hf : W.frozen? ⟨b, o, none⟩ = false) : w1.frozen? ⟨b, o, none⟩ = false := by
  obtain ⟨ob, ho, _⟩ := cells_of_cell h
  exact (hb.frozen (p := ⟨b, o, none⟩) (Array.getElem?_eq_some_iff.1 ho).1).trans hf

set_option maxRecDepth 100000 in
set_option maxHeartbeats 1600000 in
theorem zero_yes  (w : World)  :
    Calls Tryz.prog 55 #[realV 0 0] w fun r w' => r = .returned (.bool true) ∧ Below w.heap.size w w' := by
  have B0 : ∀ o0 : Obj, Below w.heap.size w (w.alloc o0) := fun _ => by repeat (first | exact Below.refl _ _ | refine Below.alloc ?_ (by simp <;> omega) _)
  have HBB := Lib.hid B0
  clear B0
  go_enter Tryz.func55, Tryz.ntmps55
  go_wp2_with fail
  all_goals go_ret
  all_goals exact ⟨rfl, HBB.out _⟩

set_option maxRecDepth 100000 in
set_option maxHeartbeats 1600000 in
theorem zero_no (m e : Int) (w : World) (h : ¬ (m = 0 ∧ e = 0)) :
    Calls Tryz.prog 55 #[realV m e] w fun r w' => r = .returned (.bool false) ∧ Below w.heap.size w w' := by
  have B0 : ∀ o0 : Obj, Below w.heap.size w (w.alloc o0) := fun _ => by repeat (first | exact Below.refl _ _ | refine Below.alloc ?_ (by simp <;> omega) _)
  have HBB := Lib.hid B0
  clear B0
  go_enter Tryz.func55, Tryz.ntmps55
  go_wp2_with fail
  all_goals go_ret
  all_goals exact ⟨by first | rfl | (simp; omega), HBB.out _⟩

set_option maxRecDepth 100000 in
set_option maxHeartbeats 1600000 in
theorem valid_z0 (e : Int) (w : World) (h : (e == 0) = true) :
    Calls Tryz.prog 12 #[realV 0 e] w fun r w' => r = .returned (.bool true) ∧ Below w.heap.size w w' := by
  have B0 : ∀ o0 : Obj, Below w.heap.size w (w.alloc o0) := fun _ => by repeat (first | exact Below.refl _ _ | refine Below.alloc ?_ (by simp <;> omega) _)
  have HBB := Lib.hid B0
  clear B0
  have hmx : ∀ a b w, Sem.run Tryz.prog (Builtin.max_ #[3, 3] 3 #[.int .i64 a, .int .i64 b]) w = .ok (.int .i64 (if a < b then b else a)) w := fun a b w => by kernel_rfl
  go_enter Tryz.func12, Tryz.ntmps12
  go_wp2_with fail
  all_goals go_ret
  all_goals exact ⟨by first | rfl | simp_all, HBB.out _⟩

set_option maxRecDepth 100000 in
set_option maxHeartbeats 1600000 in
theorem valid_z1 (e : Int) (w : World) (h : (e == 0) = false) :
    Calls Tryz.prog 12 #[realV 0 e] w fun r w' => r = .returned (.bool false) ∧ Below w.heap.size w w' := by
  have B0 : ∀ o0 : Obj, Below w.heap.size w (w.alloc o0) := fun _ => by repeat (first | exact Below.refl _ _ | refine Below.alloc ?_ (by simp <;> omega) _)
  have HBB := Lib.hid B0
  clear B0
  have hmx : ∀ a b w, Sem.run Tryz.prog (Builtin.max_ #[3, 3] 3 #[.int .i64 a, .int .i64 b]) w = .ok (.int .i64 (if a < b then b else a)) w := fun a b w => by kernel_rfl
  go_enter Tryz.func12, Tryz.ntmps12
  go_wp2_with fail
  all_goals go_ret
  all_goals exact ⟨by first | rfl | simp_all, HBB.out _⟩

set_option maxRecDepth 100000 in
set_option maxHeartbeats 1600000 in
theorem valid_pn (m e : Int) (w : World) (s1 : 0 < m) (s2 : m ≤ 9223372036854775807) (h1 : 8388608 ≤ m) (h2 : m < 16777216) (h3 : -150 ≤ e) (h4 : e ≤ 150) :
    Calls Tryz.prog 12 #[realV m e] w fun r w' => r = .returned (.bool true) ∧ Below w.heap.size w w' := by
  have B0 : ∀ o0 : Obj, Below w.heap.size w (w.alloc o0) := fun _ => by repeat (first | exact Below.refl _ _ | refine Below.alloc ?_ (by simp <;> omega) _)
  have HBB := Lib.hid B0
  clear B0
  have hmx : ∀ a b w, Sem.run Tryz.prog (Builtin.max_ #[3, 3] 3 #[.int .i64 a, .int .i64 b]) w = .ok (.int .i64 (if a < b then b else a)) w := fun a b w => by kernel_rfl
  have g0 : (m == 0) = false := beq_eq_false_iff_ne.2 (by omega)
  have g1 : ¬ m < -m := by omega
  go_enter Tryz.func12, Tryz.ntmps12
  go_wp2_with fail
  all_goals go_ret
  all_goals exact ⟨rfl, HBB.out _⟩

set_option maxRecDepth 100000 in
set_option maxHeartbeats 1600000 in
theorem valid_pl (m e : Int) (w : World) (s1 : 0 < m) (s2 : m ≤ 9223372036854775807) (h1 : 8388608 ≤ m) (h2 : m < 16777216) (h3 : e < -150) :
    Calls Tryz.prog 12 #[realV m e] w fun r w' => r = .returned (.bool false) ∧ Below w.heap.size w w' := by
  have B0 : ∀ o0 : Obj, Below w.heap.size w (w.alloc o0) := fun _ => by repeat (first | exact Below.refl _ _ | refine Below.alloc ?_ (by simp <;> omega) _)
  have HBB := Lib.hid B0
  clear B0
  have hmx : ∀ a b w, Sem.run Tryz.prog (Builtin.max_ #[3, 3] 3 #[.int .i64 a, .int .i64 b]) w = .ok (.int .i64 (if a < b then b else a)) w := fun a b w => by kernel_rfl
  have g0 : (m == 0) = false := beq_eq_false_iff_ne.2 (by omega)
  have g1 : ¬ m < -m := by omega
  go_enter Tryz.func12, Tryz.ntmps12
  go_wp2_with fail
  all_goals go_ret
  all_goals exact ⟨rfl, HBB.out _⟩

set_option maxRecDepth 100000 in
set_option maxHeartbeats 1600000 in
theorem valid_ph (m e : Int) (w : World) (s1 : 0 < m) (s2 : m ≤ 9223372036854775807) (h1 : 8388608 ≤ m) (h2 : m < 16777216) (h3 : -150 ≤ e) (h4 : decide (e ≤ 150) = false) :
    Calls Tryz.prog 12 #[realV m e] w fun r w' => r = .returned (.bool false) ∧ Below w.heap.size w w' := by
  have B0 : ∀ o0 : Obj, Below w.heap.size w (w.alloc o0) := fun _ => by repeat (first | exact Below.refl _ _ | refine Below.alloc ?_ (by simp <;> omega) _)
  have HBB := Lib.hid B0
  clear B0
  have hmx : ∀ a b w, Sem.run Tryz.prog (Builtin.max_ #[3, 3] 3 #[.int .i64 a, .int .i64 b]) w = .ok (.int .i64 (if a < b then b else a)) w := fun a b w => by kernel_rfl
  have g0 : (m == 0) = false := beq_eq_false_iff_ne.2 (by omega)
  have g1 : ¬ m < -m := by omega
  go_enter Tryz.func12, Tryz.ntmps12
  go_wp2_with fail
  all_goals go_ret
  all_goals exact ⟨rfl, HBB.out _⟩

set_option maxRecDepth 100000 in
set_option maxHeartbeats 1600000 in
theorem valid_pg (m e : Int) (w : World) (s1 : 0 < m) (s2 : m ≤ 9223372036854775807) (h1 : 16777216 ≤ m) :
    Calls Tryz.prog 12 #[realV m e] w fun r w' => r = .returned (.bool false) ∧ Below w.heap.size w w' := by
  have B0 : ∀ o0 : Obj, Below w.heap.size w (w.alloc o0) := fun _ => by repeat (first | exact Below.refl _ _ | refine Below.alloc ?_ (by simp <;> omega) _)
  have HBB := Lib.hid B0
  clear B0
  have hmx : ∀ a b w, Sem.run Tryz.prog (Builtin.max_ #[3, 3] 3 #[.int .i64 a, .int .i64 b]) w = .ok (.int .i64 (if a < b then b else a)) w := fun a b w => by kernel_rfl
  have g0 : (m == 0) = false := beq_eq_false_iff_ne.2 (by omega)
  have g1 : ¬ m < -m := by omega
  have g2 : 8388608 ≤ m := by omega
  have g3 : 1 ≤ m := by omega
  go_enter Tryz.func12, Tryz.ntmps12
  go_wp2_with fail
  all_goals go_ret
  all_goals exact ⟨rfl, HBB.out _⟩

set_option maxRecDepth 100000 in
set_option maxHeartbeats 1600000 in
theorem valid_ps (m e : Int) (w : World) (s1 : 0 < m) (s2 : m ≤ 9223372036854775807) (h1 : 1 ≤ m) (h2 : m < 8388608) (h3 : (e == -150) = true) :
    Calls Tryz.prog 12 #[realV m e] w fun r w' => r = .returned (.bool true) ∧ Below w.heap.size w w' := by
  have B0 : ∀ o0 : Obj, Below w.heap.size w (w.alloc o0) := fun _ => by repeat (first | exact Below.refl _ _ | refine Below.alloc ?_ (by simp <;> omega) _)
  have HBB := Lib.hid B0
  clear B0
  have hmx : ∀ a b w, Sem.run Tryz.prog (Builtin.max_ #[3, 3] 3 #[.int .i64 a, .int .i64 b]) w = .ok (.int .i64 (if a < b then b else a)) w := fun a b w => by kernel_rfl
  have g0 : (m == 0) = false := beq_eq_false_iff_ne.2 (by omega)
  have g1 : ¬ m < -m := by omega
  go_enter Tryz.func12, Tryz.ntmps12
  go_wp2_with fail
  all_goals go_ret
  all_goals exact ⟨rfl, HBB.out _⟩

set_option maxRecDepth 100000 in
set_option maxHeartbeats 1600000 in
theorem valid_pt (m e : Int) (w : World) (s1 : 0 < m) (s2 : m ≤ 9223372036854775807) (h1 : 1 ≤ m) (h2 : m < 8388608) (h3 : (e == -150) = false) :
    Calls Tryz.prog 12 #[realV m e] w fun r w' => r = .returned (.bool false) ∧ Below w.heap.size w w' := by
  have B0 : ∀ o0 : Obj, Below w.heap.size w (w.alloc o0) := fun _ => by repeat (first | exact Below.refl _ _ | refine Below.alloc ?_ (by simp <;> omega) _)
  have HBB := Lib.hid B0
  clear B0
  have hmx : ∀ a b w, Sem.run Tryz.prog (Builtin.max_ #[3, 3] 3 #[.int .i64 a, .int .i64 b]) w = .ok (.int .i64 (if a < b then b else a)) w := fun a b w => by kernel_rfl
  have g0 : (m == 0) = false := beq_eq_false_iff_ne.2 (by omega)
  have g1 : ¬ m < -m := by omega
  go_enter Tryz.func12, Tryz.ntmps12
  go_wp2_with fail
  all_goals go_ret
  all_goals exact ⟨rfl, HBB.out _⟩

set_option maxRecDepth 100000 in
set_option maxHeartbeats 1600000 in
theorem valid_nn (m e : Int) (w : World) (s1 : m < 0) (s2 : -9223372036854775807 ≤ m) (h1 : 8388608 ≤ (-m)) (h2 : (-m) < 16777216) (h3 : -150 ≤ e) (h4 : e ≤ 150) :
    Calls Tryz.prog 12 #[realV m e] w fun r w' => r = .returned (.bool true) ∧ Below w.heap.size w w' := by
  have B0 : ∀ o0 : Obj, Below w.heap.size w (w.alloc o0) := fun _ => by repeat (first | exact Below.refl _ _ | refine Below.alloc ?_ (by simp <;> omega) _)
  have HBB := Lib.hid B0
  clear B0
  have hmx : ∀ a b w, Sem.run Tryz.prog (Builtin.max_ #[3, 3] 3 #[.int .i64 a, .int .i64 b]) w = .ok (.int .i64 (if a < b then b else a)) w := fun a b w => by kernel_rfl
  have g0 : (m == 0) = false := beq_eq_false_iff_ne.2 (by omega)
  have g1 : m < -m := by omega
  go_enter Tryz.func12, Tryz.ntmps12
  go_wp2_with fail
  all_goals go_ret
  all_goals exact ⟨rfl, HBB.out _⟩

set_option maxRecDepth 100000 in
set_option maxHeartbeats 1600000 in
theorem valid_nl (m e : Int) (w : World) (s1 : m < 0) (s2 : -9223372036854775807 ≤ m) (h1 : 8388608 ≤ (-m)) (h2 : (-m) < 16777216) (h3 : e < -150) :
    Calls Tryz.prog 12 #[realV m e] w fun r w' => r = .returned (.bool false) ∧ Below w.heap.size w w' := by
  have B0 : ∀ o0 : Obj, Below w.heap.size w (w.alloc o0) := fun _ => by repeat (first | exact Below.refl _ _ | refine Below.alloc ?_ (by simp <;> omega) _)
  have HBB := Lib.hid B0
  clear B0
  have hmx : ∀ a b w, Sem.run Tryz.prog (Builtin.max_ #[3, 3] 3 #[.int .i64 a, .int .i64 b]) w = .ok (.int .i64 (if a < b then b else a)) w := fun a b w => by kernel_rfl
  have g0 : (m == 0) = false := beq_eq_false_iff_ne.2 (by omega)
  have g1 : m < -m := by omega
  go_enter Tryz.func12, Tryz.ntmps12
  go_wp2_with fail
  all_goals go_ret
  all_goals exact ⟨rfl, HBB.out _⟩

set_option maxRecDepth 100000 in
set_option maxHeartbeats 1600000 in
theorem valid_nh (m e : Int) (w : World) (s1 : m < 0) (s2 : -9223372036854775807 ≤ m) (h1 : 8388608 ≤ (-m)) (h2 : (-m) < 16777216) (h3 : -150 ≤ e) (h4 : decide (e ≤ 150) = false) :
    Calls Tryz.prog 12 #[realV m e] w fun r w' => r = .returned (.bool false) ∧ Below w.heap.size w w' := by
  have B0 : ∀ o0 : Obj, Below w.heap.size w (w.alloc o0) := fun _ => by repeat (first | exact Below.refl _ _ | refine Below.alloc ?_ (by simp <;> omega) _)
  have HBB := Lib.hid B0
  clear B0
  have hmx : ∀ a b w, Sem.run Tryz.prog (Builtin.max_ #[3, 3] 3 #[.int .i64 a, .int .i64 b]) w = .ok (.int .i64 (if a < b then b else a)) w := fun a b w => by kernel_rfl
  have g0 : (m == 0) = false := beq_eq_false_iff_ne.2 (by omega)
  have g1 : m < -m := by omega
  go_enter Tryz.func12, Tryz.ntmps12
  go_wp2_with fail
  all_goals go_ret
  all_goals exact ⟨rfl, HBB.out _⟩

set_option maxRecDepth 100000 in
set_option maxHeartbeats 1600000 in
theorem valid_ng (m e : Int) (w : World) (s1 : m < 0) (s2 : -9223372036854775807 ≤ m) (h1 : 16777216 ≤ (-m)) :
    Calls Tryz.prog 12 #[realV m e] w fun r w' => r = .returned (.bool false) ∧ Below w.heap.size w w' := by
  have B0 : ∀ o0 : Obj, Below w.heap.size w (w.alloc o0) := fun _ => by repeat (first | exact Below.refl _ _ | refine Below.alloc ?_ (by simp <;> omega) _)
  have HBB := Lib.hid B0
  clear B0
  have hmx : ∀ a b w, Sem.run Tryz.prog (Builtin.max_ #[3, 3] 3 #[.int .i64 a, .int .i64 b]) w = .ok (.int .i64 (if a < b then b else a)) w := fun a b w => by kernel_rfl
  have g0 : (m == 0) = false := beq_eq_false_iff_ne.2 (by omega)
  have g1 : m < -m := by omega
  have g2 : 8388608 ≤ (-m) := by omega
  have g3 : 1 ≤ (-m) := by omega
  go_enter Tryz.func12, Tryz.ntmps12
  go_wp2_with fail
  all_goals go_ret
  all_goals exact ⟨rfl, HBB.out _⟩

set_option maxRecDepth 100000 in
set_option maxHeartbeats 1600000 in
theorem valid_ns (m e : Int) (w : World) (s1 : m < 0) (s2 : -9223372036854775807 ≤ m) (h1 : 1 ≤ (-m)) (h2 : (-m) < 8388608) (h3 : (e == -150) = true) :
    Calls Tryz.prog 12 #[realV m e] w fun r w' => r = .returned (.bool true) ∧ Below w.heap.size w w' := by
  have B0 : ∀ o0 : Obj, Below w.heap.size w (w.alloc o0) := fun _ => by repeat (first | exact Below.refl _ _ | refine Below.alloc ?_ (by simp <;> omega) _)
  have HBB := Lib.hid B0
  clear B0
  have hmx : ∀ a b w, Sem.run Tryz.prog (Builtin.max_ #[3, 3] 3 #[.int .i64 a, .int .i64 b]) w = .ok (.int .i64 (if a < b then b else a)) w := fun a b w => by kernel_rfl
  have g0 : (m == 0) = false := beq_eq_false_iff_ne.2 (by omega)
  have g1 : m < -m := by omega
  go_enter Tryz.func12, Tryz.ntmps12
  go_wp2_with fail
  all_goals go_ret
  all_goals exact ⟨rfl, HBB.out _⟩

set_option maxRecDepth 100000 in
set_option maxHeartbeats 1600000 in
theorem valid_nt (m e : Int) (w : World) (s1 : m < 0) (s2 : -9223372036854775807 ≤ m) (h1 : 1 ≤ (-m)) (h2 : (-m) < 8388608) (h3 : (e == -150) = false) :
    Calls Tryz.prog 12 #[realV m e] w fun r w' => r = .returned (.bool false) ∧ Below w.heap.size w w' := by
  have B0 : ∀ o0 : Obj, Below w.heap.size w (w.alloc o0) := fun _ => by repeat (first | exact Below.refl _ _ | refine Below.alloc ?_ (by simp <;> omega) _)
  have HBB := Lib.hid B0
  clear B0
  have hmx : ∀ a b w, Sem.run Tryz.prog (Builtin.max_ #[3, 3] 3 #[.int .i64 a, .int .i64 b]) w = .ok (.int .i64 (if a < b then b else a)) w := fun a b w => by kernel_rfl
  have g0 : (m == 0) = false := beq_eq_false_iff_ne.2 (by omega)
  have g1 : m < -m := by omega
  go_enter Tryz.func12, Tryz.ntmps12
  go_wp2_with fail
  all_goals go_ret
  all_goals exact ⟨rfl, HBB.out _⟩

set_option maxRecDepth 100000 in
set_option maxHeartbeats 1600000 in
theorem valid_min (m e : Int) (w : World) (g0 : (m == 0) = false) (g1 : wrap64 (-m) = m) (g2 : m < 1) (g3 : m < 8388608) :
    Calls Tryz.prog 12 #[realV m e] w fun r w' => r = .returned (.bool false) ∧ Below w.heap.size w w' := by
  have B0 : ∀ o0 : Obj, Below w.heap.size w (w.alloc o0) := fun _ => by repeat (first | exact Below.refl _ _ | refine Below.alloc ?_ (by simp <;> omega) _)
  have HBB := Lib.hid B0
  clear B0
  have hmx : ∀ a b w, Sem.run Tryz.prog (Builtin.max_ #[3, 3] 3 #[.int .i64 a, .int .i64 b]) w = .ok (.int .i64 (if a < b then b else a)) w := fun a b w => by kernel_rfl
  go_enter Tryz.func12, Tryz.ntmps12
  go_wp2_with fail
  all_goals go_ret
  all_goals exact ⟨rfl, HBB.out _⟩

theorem valid_any (m e : Int) (w : World) (h1 : -9223372036854775808 ≤ m) (h2 : m ≤ 9223372036854775807) :
    Calls Tryz.prog 12 #[realV m e] w fun r w' => r = .returned (.bool (vr m e)) ∧ Below w.heap.size w w' := by
  have T : ∀ {b : Bool}, ((m = 0 ∧ e = 0) ∨ (8388608 ≤ ab m ∧ ab m < 16777216 ∧ -150 ≤ e ∧ e ≤ 150) ∨ (1 ≤ ab m ∧ ab m < 8388608 ∧ e = -150) ↔ b = true) → vr m e = b := fun {b} h => by
    rw [Bool.eq_iff_iff, vr_iff]; exact h
  rcases (show m = 0 ∨ 0 < m ∨ (m < 0 ∧ -9223372036854775807 ≤ m) ∨ m = -9223372036854775808 by omega) with rfl | hm | ⟨hm, hm2⟩ | rfl
  · cases he : (e == 0)
    · have k : ¬ e = 0 := beq_eq_false_iff_ne.1 he
      rw [T (b := false) (by unfold ab; simp; omega)]
      exact valid_z1 e w he
    · have k : e = 0 := beq_iff_eq.1 he
      rw [T (b := true) (by simp [k])]
      exact valid_z0 e w he
  · have ea : ab m = m := if_neg (by omega)
    rw [ea] at T
    by_cases a1 : m < 8388608
    · cases he : (e == -150)
      · have k : ¬ e = -150 := beq_eq_false_iff_ne.1 he
        rw [T (b := false) (by simp; omega)]
        exact valid_pt m e w hm h2 (by omega) a1 he
      · have k : e = -150 := beq_iff_eq.1 he
        rw [T (b := true) (by simp; omega)]
        exact valid_ps m e w hm h2 (by omega) a1 he
    · by_cases a2 : m < 16777216
      · by_cases a3 : e < -150
        · rw [T (b := false) (by simp; omega)]
          exact valid_pl m e w hm h2 (by omega) a2 a3
        · by_cases a4 : e ≤ 150
          · rw [T (b := true) (by simp; omega)]
            exact valid_pn m e w hm h2 (by omega) a2 (by omega) a4
          · rw [T (b := false) (by simp; omega)]
            exact valid_ph m e w hm h2 (by omega) a2 (by omega) (decide_eq_false a4)
      · rw [T (b := false) (by simp; omega)]
        exact valid_pg m e w hm h2 (by omega)
  · have ea : ab m = -m := if_pos hm
    rw [ea] at T
    by_cases a1 : -m < 8388608
    · cases he : (e == -150)
      · have k : ¬ e = -150 := beq_eq_false_iff_ne.1 he
        rw [T (b := false) (by simp; omega)]
        exact valid_nt m e w hm hm2 (by omega) a1 he
      · have k : e = -150 := beq_iff_eq.1 he
        rw [T (b := true) (by simp; omega)]
        exact valid_ns m e w hm hm2 (by omega) a1 he
    · by_cases a2 : -m < 16777216
      · by_cases a3 : e < -150
        · rw [T (b := false) (by simp; omega)]
          exact valid_nl m e w hm hm2 (by omega) a2 a3
        · by_cases a4 : e ≤ 150
          · rw [T (b := true) (by simp; omega)]
            exact valid_nn m e w hm hm2 (by omega) a2 (by omega) a4
          · rw [T (b := false) (by simp; omega)]
            exact valid_nh m e w hm hm2 (by omega) a2 (by omega) (decide_eq_false a4)
      · rw [T (b := false) (by simp; omega)]
        exact valid_ng m e w hm hm2 (by omega)
  · rw [T (b := false) (by unfold ab; simp <;> omega)]
    exact valid_min _ e w (by decide) (by kernel_rfl) (by decide) (by decide)

end Go.Proofs.YtbfknapmhkpgcaaGreatDoor
