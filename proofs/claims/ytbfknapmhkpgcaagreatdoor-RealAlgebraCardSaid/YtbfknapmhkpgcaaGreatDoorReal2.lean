/-
  PACKAGE real: indices, signs, comparisons, and the reals of indices.
-/
import Derived.Test.YtbfknapmhkpgcaaGreatDoorReal

namespace Go.Proofs.YtbfknapmhkpgcaaGreatDoor
open Go.RowKit
set_option linter.unusedVariables false

def c3 (a b : Int) : Int := if a < b then -1 else if b < a then 1 else 0

theorem zero_any (m e : Int) (w : World) :
    Calls Tryz.prog 55 #[realV m e] w fun r w' => r = .returned (.bool (decide (m = 0 ∧ e = 0))) ∧ Below w.heap.size w w' := by
  by_cases h : m = 0 ∧ e = 0
  · rw [decide_eq_true h]
    obtain ⟨rfl, rfl⟩ := h
    exact zero_yes w
  · rw [decide_eq_false h]
    exact zero_no m e w h

theorem zero_is {m e : Int} {b : Bool} (h : decide (m = 0 ∧ e = 0) = b) (w : World) :
    Calls Tryz.prog 55 #[realV m e] w fun r w' => r = .returned (.bool b) ∧ Below w.heap.size w w' := by
  subst h
  exact zero_any m e w

set_option maxRecDepth 100000 in
set_option maxHeartbeats 1600000 in
theorem index_z (m e : Int) (w : World)  (HZ : Hid (decide (m = 0 ∧ e = 0) = true)) (v1 : -16777215 ≤ m) (v2 : m ≤ 16777215) (v3 : -150 ≤ e) (v4 : e ≤ 150) :
    Calls Tryz.prog 43 #[realV m e] w fun r w' => r = .returned (.int .i64 (0)) ∧ Below w.heap.size w w' := by
  go_enter Tryz.func43, Tryz.ntmps43
  go_wp2_with fail
  refine (zero_is HZ.out _).mono ?_
  rintro r w1 ⟨rfl, hb1⟩
  have a0 : w1.cell? ⟨w.heap.size, 0, none⟩ = some (.int .i64 m) := carry hb1 (by go_simp)
  have a1 : w1.cell? ⟨w.heap.size, 1, none⟩ = some (.int .i64 e) := carry hb1 (by go_simp)
  have HBB := Lib.hid ((by repeat (first | exact Below.refl _ _ | refine Below.setCell ?_ (by first | omega | (simp; done) | (simp; omega)) _ | refine Below.alloc ?_ (by first | omega | (simp; done) | (simp; omega)) _) : Below w.heap.size w _).trans (hb1.mono (by first | omega | (simp; done) | (simp; omega))))
  clear hb1
  go_wp2_with fail
  go_ret
  exact ⟨rfl, HBB.out⟩

set_option maxRecDepth 100000 in
set_option maxHeartbeats 1600000 in
theorem index_n (m e : Int) (w : World) (h : m < 0) (HZ : Hid (decide (m = 0 ∧ e = 0) = false)) (v1 : -16777215 ≤ m) (v2 : m ≤ 16777215) (v3 : -150 ≤ e) (v4 : e ≤ 150) :
    Calls Tryz.prog 43 #[realV m e] w fun r w' => r = .returned (.int .i64 (m - (e + 150) * 8388608)) ∧ Below w.heap.size w w' := by
  go_enter Tryz.func43, Tryz.ntmps43
  go_wp2_with fail
  refine (zero_is HZ.out _).mono ?_
  rintro r w1 ⟨rfl, hb1⟩
  have a0 : w1.cell? ⟨w.heap.size, 0, none⟩ = some (.int .i64 m) := carry hb1 (by go_simp)
  have a1 : w1.cell? ⟨w.heap.size, 1, none⟩ = some (.int .i64 e) := carry hb1 (by go_simp)
  have HBB := Lib.hid ((by repeat (first | exact Below.refl _ _ | refine Below.setCell ?_ (by first | omega | (simp; done) | (simp; omega)) _ | refine Below.alloc ?_ (by first | omega | (simp; done) | (simp; omega)) _) : Below w.heap.size w _).trans (hb1.mono (by first | omega | (simp; done) | (simp; omega))))
  clear hb1
  go_wp2_with fail
  go_ret
  exact ⟨rfl, HBB.out⟩

set_option maxRecDepth 100000 in
set_option maxHeartbeats 1600000 in
theorem index_p (m e : Int) (w : World) (h : 0 < m) (HZ : Hid (decide (m = 0 ∧ e = 0) = false)) (v1 : -16777215 ≤ m) (v2 : m ≤ 16777215) (v3 : -150 ≤ e) (v4 : e ≤ 150) :
    Calls Tryz.prog 43 #[realV m e] w fun r w' => r = .returned (.int .i64 (m + (e + 150) * 8388608)) ∧ Below w.heap.size w w' := by
  go_enter Tryz.func43, Tryz.ntmps43
  go_wp2_with fail
  refine (zero_is HZ.out _).mono ?_
  rintro r w1 ⟨rfl, hb1⟩
  have a0 : w1.cell? ⟨w.heap.size, 0, none⟩ = some (.int .i64 m) := carry hb1 (by go_simp)
  have a1 : w1.cell? ⟨w.heap.size, 1, none⟩ = some (.int .i64 e) := carry hb1 (by go_simp)
  have HBB := Lib.hid ((by repeat (first | exact Below.refl _ _ | refine Below.setCell ?_ (by first | omega | (simp; done) | (simp; omega)) _ | refine Below.alloc ?_ (by first | omega | (simp; done) | (simp; omega)) _) : Below w.heap.size w _).trans (hb1.mono (by first | omega | (simp; done) | (simp; omega))))
  clear hb1
  go_wp2_with fail
  go_ret
  exact ⟨rfl, HBB.out⟩

theorem index_any (m e : Int) (w : World) (h : vr m e = true) :
    Calls Tryz.prog 43 #[realV m e] w fun r w' => r = .returned (.int .i64 (ix m e)) ∧ Below w.heap.size w w' := by
  obtain ⟨v1, v2, v3, v4⟩ := vr_bd h
  have k := vr_iff.1 h
  by_cases h0 : m = 0 ∧ e = 0
  · rw [show ix m e = 0 from if_pos h0]
    exact index_z m e w (Lib.hid (decide_eq_true h0)) v1 v2 v3 v4
  · have HZ := Lib.hid (decide_eq_false h0)
    have hm : m ≠ 0 := by unfold ab at k; split at k <;> omega
    by_cases hn : m < 0
    · rw [show ix m e = m - (e + 150) * 8388608 from by rw [ix, if_neg h0, if_pos hn]]
      exact index_n m e w hn HZ v1 v2 v3 v4
    · rw [show ix m e = m + (e + 150) * 8388608 from by rw [ix, if_neg h0, if_neg hn]]
      exact index_p m e w (by omega) HZ v1 v2 v3 v4

set_option maxRecDepth 100000 in
set_option maxHeartbeats 1600000 in
theorem opp_any (m e : Int) (w : World) (h1 : -9223372036854775807 ≤ m) (h2 : m ≤ 9223372036854775807) :
    Calls Tryz.prog 44 #[realV m e] w fun r w' => r = .returned (realV (-m) e) ∧ Below w.heap.size w w' := by
  have B0 : ∀ o1 o2 : Obj, Below w.heap.size w ((w.alloc o1).alloc o2) := fun _ _ => by repeat (first | exact Below.refl _ _ | refine Below.alloc ?_ (by simp <;> omega) _)
  have HBB := Lib.hid B0
  clear B0
  go_enter Tryz.func44, Tryz.ntmps44
  go_wp2_with fail
  refine bodyPost_ret (v := realV (-m) e) (by simp [results, Tryz.results44, go_sem]) rfl ⟨rfl, HBB.out _ _⟩

set_option maxRecDepth 100000 in
set_option maxHeartbeats 1600000 in
theorem mag_n (m e : Int) (w : World) (h1 : -9223372036854775807 ≤ m) (h2 : m < 0) :
    Calls Tryz.prog 45 #[realV m e] w fun r w' => r = .returned (realV (-m) e) ∧ Below w.heap.size w w' := by
  have hmx : ∀ a b w, Sem.run Tryz.prog (Builtin.max_ #[3, 3] 3 #[.int .i64 a, .int .i64 b]) w = .ok (.int .i64 (if a < b then b else a)) w := fun a b w => by kernel_rfl
  have g1 : m < -m := by omega
  have B0 : ∀ o1 o2 : Obj, Below w.heap.size w ((w.alloc o1).alloc o2) := fun _ _ => by repeat (first | exact Below.refl _ _ | refine Below.alloc ?_ (by simp <;> omega) _)
  have HBB := Lib.hid B0
  clear B0
  go_enter Tryz.func45, Tryz.ntmps45
  go_wp2_with fail
  refine bodyPost_ret (v := realV (-m) e) (by simp [results, Tryz.results45, go_sem]) rfl ⟨rfl, HBB.out _ _⟩

set_option maxRecDepth 100000 in
set_option maxHeartbeats 1600000 in
theorem mag_p (m e : Int) (w : World) (h1 : 0 ≤ m) (h2 : m ≤ 9223372036854775807) :
    Calls Tryz.prog 45 #[realV m e] w fun r w' => r = .returned (realV (m) e) ∧ Below w.heap.size w w' := by
  have hmx : ∀ a b w, Sem.run Tryz.prog (Builtin.max_ #[3, 3] 3 #[.int .i64 a, .int .i64 b]) w = .ok (.int .i64 (if a < b then b else a)) w := fun a b w => by kernel_rfl
  have g1 : ¬ m < -m := by omega
  have B0 : ∀ o1 o2 : Obj, Below w.heap.size w ((w.alloc o1).alloc o2) := fun _ _ => by repeat (first | exact Below.refl _ _ | refine Below.alloc ?_ (by simp <;> omega) _)
  have HBB := Lib.hid B0
  clear B0
  go_enter Tryz.func45, Tryz.ntmps45
  go_wp2_with fail
  refine bodyPost_ret (v := realV (m) e) (by simp [results, Tryz.results45, go_sem]) rfl ⟨rfl, HBB.out _ _⟩

theorem mag_any (m e : Int) (w : World) (h1 : -9223372036854775807 ≤ m) (h2 : m ≤ 9223372036854775807) :
    Calls Tryz.prog 45 #[realV m e] w fun r w' => r = .returned (realV (ab m) e) ∧ Below w.heap.size w w' := by
  by_cases h : m < 0
  · rw [show ab m = -m from if_pos h]; exact mag_n m e w h1 h
  · rw [show ab m = m from if_neg h]; exact mag_p m e w (by omega) h2

theorem nan_any (x : Int) (w : World) :
    Calls Tryz.prog 74 #[.int .i64 x] w fun r w' => r = .returned (.bool false) ∧ w = w' := by
  go_enter Tryz.func74, Tryz.ntmps74
  go_wp2_with fail
  go_ret
  exact ⟨by first | rfl | simp, rfl⟩

theorem cmp_l (x y : Int) (w : World) (h : x < y) :
    Calls Tryz.prog 46 #[.int .i64 x, .int .i64 y] w fun r w' => r = .returned (.int .i64 (-1)) ∧ w = w' := by
  skip
  go_enter Tryz.func46, Tryz.ntmps46
  go_wp2_with (go_at_call 74; refine (nan_any _ _).mono ?_; rintro r w' ⟨rfl, rfl⟩)
  go_ret
  exact ⟨rfl, rfl⟩

theorem cmp_g (x y : Int) (w : World) (h : y < x) :
    Calls Tryz.prog 46 #[.int .i64 x, .int .i64 y] w fun r w' => r = .returned (.int .i64 (1)) ∧ w = w' := by
  have h2 : ¬ x < y := by omega
  go_enter Tryz.func46, Tryz.ntmps46
  go_wp2_with (go_at_call 74; refine (nan_any _ _).mono ?_; rintro r w' ⟨rfl, rfl⟩)
  go_ret
  exact ⟨rfl, rfl⟩

theorem cmp_e (x y : Int) (w : World) (h : x = y) :
    Calls Tryz.prog 46 #[.int .i64 x, .int .i64 y] w fun r w' => r = .returned (.int .i64 (0)) ∧ w = w' := by
  subst h
  go_enter Tryz.func46, Tryz.ntmps46
  go_wp2_with (go_at_call 74; refine (nan_any _ _).mono ?_; rintro r w' ⟨rfl, rfl⟩)
  go_ret
  exact ⟨rfl, rfl⟩

theorem cmp_any (x y : Int) (w : World) :
    Calls Tryz.prog 46 #[.int .i64 x, .int .i64 y] w fun r w' => r = .returned (.int .i64 (c3 x y)) ∧ w = w' := by
  by_cases h1 : x < y
  · rw [show c3 x y = -1 from if_pos h1]; exact cmp_l x y w h1
  · by_cases h2 : y < x
    · rw [show c3 x y = 1 from by rw [c3, if_neg h1, if_pos h2]]; exact cmp_g x y w h2
    · rw [show c3 x y = 0 from by rw [c3, if_neg h1, if_neg h2]]; exact cmp_e x y w (by omega)

end Go.Proofs.YtbfknapmhkpgcaaGreatDoor
