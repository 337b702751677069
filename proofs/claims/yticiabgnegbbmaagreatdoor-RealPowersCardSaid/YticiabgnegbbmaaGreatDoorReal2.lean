/-
  PACKAGE real: indices, signs, comparisons, and the reals of indices.
-/
import Derived.Test.YticiabgnegbbmaaGreatDoorReal

namespace Go.Proofs.YticiabgnegbbmaaGreatDoor
open Go.RowKit
set_option linter.unusedVariables false

def c3 (a b : Int) : Int := if a < b then -1 else if b < a then 1 else 0

theorem zero_any (m e : Int) (w : World) :
    Calls Tryz.prog 12 #[realV m e] w fun r w' => r = .returned (.bool (decide (m = 0 ∧ e = 0))) ∧ Below w.heap.size w w' := by
  by_cases h : m = 0 ∧ e = 0
  · rw [decide_eq_true h]
    obtain ⟨rfl, rfl⟩ := h
    exact zero_yes w
  · rw [decide_eq_false h]
    exact zero_no m e w h

theorem zero_is {m e : Int} {b : Bool} (h : decide (m = 0 ∧ e = 0) = b) (w : World) :
    Calls Tryz.prog 12 #[realV m e] w fun r w' => r = .returned (.bool b) ∧ Below w.heap.size w w' := by
  subst h
  exact zero_any m e w

set_option maxRecDepth 100000 in
set_option maxHeartbeats 1600000 in
theorem opp_any (m e : Int) (w : World) (h1 : -9223372036854775807 ≤ m) (h2 : m ≤ 9223372036854775807) :
    Calls Tryz.prog 39 #[realV m e] w fun r w' => r = .returned (realV (-m) e) ∧ Below w.heap.size w w' := by
  have B0 : ∀ o1 o2 : Obj, Below w.heap.size w ((w.alloc o1).alloc o2) := fun _ _ => by repeat (first | exact Below.refl _ _ | refine Below.alloc ?_ (by simp <;> omega) _)
  have HBB := Lib.hid B0
  clear B0
  go_enter Tryz.func39, Tryz.ntmps39
  go_wp2_with fail
  refine bodyPost_ret (v := realV (-m) e) (by simp [results, Tryz.results39, go_sem]) rfl ⟨rfl, HBB.out _ _⟩

set_option maxRecDepth 100000 in
set_option maxHeartbeats 1600000 in
theorem mag_n (m e : Int) (w : World) (h1 : -9223372036854775807 ≤ m) (h2 : m < 0) :
    Calls Tryz.prog 48 #[realV m e] w fun r w' => r = .returned (realV (-m) e) ∧ Below w.heap.size w w' := by
  have hmx : ∀ a b w, Sem.run Tryz.prog (Builtin.max_ #[3, 3] 3 #[.int .i64 a, .int .i64 b]) w = .ok (.int .i64 (if a < b then b else a)) w := fun a b w => by kernel_rfl
  have g1 : m < -m := by omega
  have B0 : ∀ o1 o2 : Obj, Below w.heap.size w ((w.alloc o1).alloc o2) := fun _ _ => by repeat (first | exact Below.refl _ _ | refine Below.alloc ?_ (by simp <;> omega) _)
  have HBB := Lib.hid B0
  clear B0
  go_enter Tryz.func48, Tryz.ntmps48
  go_wp2_with fail
  refine bodyPost_ret (v := realV (-m) e) (by simp [results, Tryz.results48, go_sem]) rfl ⟨rfl, HBB.out _ _⟩

set_option maxRecDepth 100000 in
set_option maxHeartbeats 1600000 in
theorem mag_p (m e : Int) (w : World) (h1 : 0 ≤ m) (h2 : m ≤ 9223372036854775807) :
    Calls Tryz.prog 48 #[realV m e] w fun r w' => r = .returned (realV (m) e) ∧ Below w.heap.size w w' := by
  have hmx : ∀ a b w, Sem.run Tryz.prog (Builtin.max_ #[3, 3] 3 #[.int .i64 a, .int .i64 b]) w = .ok (.int .i64 (if a < b then b else a)) w := fun a b w => by kernel_rfl
  have g1 : ¬ m < -m := by omega
  have B0 : ∀ o1 o2 : Obj, Below w.heap.size w ((w.alloc o1).alloc o2) := fun _ _ => by repeat (first | exact Below.refl _ _ | refine Below.alloc ?_ (by simp <;> omega) _)
  have HBB := Lib.hid B0
  clear B0
  go_enter Tryz.func48, Tryz.ntmps48
  go_wp2_with fail
  refine bodyPost_ret (v := realV (m) e) (by simp [results, Tryz.results48, go_sem]) rfl ⟨rfl, HBB.out _ _⟩

theorem mag_any (m e : Int) (w : World) (h1 : -9223372036854775807 ≤ m) (h2 : m ≤ 9223372036854775807) :
    Calls Tryz.prog 48 #[realV m e] w fun r w' => r = .returned (realV (ab m) e) ∧ Below w.heap.size w w' := by
  by_cases h : m < 0
  · rw [show ab m = -m from if_pos h]; exact mag_n m e w h1 h
  · rw [show ab m = m from if_neg h]; exact mag_p m e w (by omega) h2

theorem nan_any (x : Int) (w : World) :
    Calls Tryz.prog 94 #[.int .i64 x] w fun r w' => r = .returned (.bool false) ∧ w = w' := by
  go_enter Tryz.func94, Tryz.ntmps94
  go_wp2_with fail
  go_ret
  exact ⟨by first | rfl | simp, rfl⟩

theorem cmp_l (x y : Int) (w : World) (h : x < y) :
    Calls Tryz.prog 64 #[.int .i64 x, .int .i64 y] w fun r w' => r = .returned (.int .i64 (-1)) ∧ w = w' := by
  skip
  go_enter Tryz.func64, Tryz.ntmps64
  go_wp2_with (go_at_call 94; refine (nan_any _ _).mono ?_; rintro r w' ⟨rfl, rfl⟩)
  go_ret
  exact ⟨rfl, rfl⟩

theorem cmp_g (x y : Int) (w : World) (h : y < x) :
    Calls Tryz.prog 64 #[.int .i64 x, .int .i64 y] w fun r w' => r = .returned (.int .i64 (1)) ∧ w = w' := by
  have h2 : ¬ x < y := by omega
  go_enter Tryz.func64, Tryz.ntmps64
  go_wp2_with (go_at_call 94; refine (nan_any _ _).mono ?_; rintro r w' ⟨rfl, rfl⟩)
  go_ret
  exact ⟨rfl, rfl⟩

theorem cmp_e (x y : Int) (w : World) (h : x = y) :
    Calls Tryz.prog 64 #[.int .i64 x, .int .i64 y] w fun r w' => r = .returned (.int .i64 (0)) ∧ w = w' := by
  subst h
  go_enter Tryz.func64, Tryz.ntmps64
  go_wp2_with (go_at_call 94; refine (nan_any _ _).mono ?_; rintro r w' ⟨rfl, rfl⟩)
  go_ret
  exact ⟨rfl, rfl⟩

theorem cmp_any (x y : Int) (w : World) :
    Calls Tryz.prog 64 #[.int .i64 x, .int .i64 y] w fun r w' => r = .returned (.int .i64 (c3 x y)) ∧ w = w' := by
  by_cases h1 : x < y
  · rw [show c3 x y = -1 from if_pos h1]; exact cmp_l x y w h1
  · by_cases h2 : y < x
    · rw [show c3 x y = 1 from by rw [c3, if_neg h1, if_pos h2]]; exact cmp_g x y w h2
    · rw [show c3 x y = 0 from by rw [c3, if_neg h1, if_neg h2]]; exact cmp_e x y w (by omega)

end Go.Proofs.YticiabgnegbbmaaGreatDoor
