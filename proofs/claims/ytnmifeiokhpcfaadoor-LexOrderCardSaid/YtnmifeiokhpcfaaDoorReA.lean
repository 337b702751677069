/-
  Several texts in one (RealN, Real, Real2, Real3, Real4, Real5, Real6, Real7, Real8, Real9, Real10, Real11, Real12, Real13, Real14, Real15, Real16).
-/
import Derived.Below
import Derived.Lib.Hide
import Derived.Test.YtnmifeiokhpcfaaDoorProg
import Derived.WalkKit
import Derived.ProofKit
import Derived.WalkSpells
import Derived.WalkLawsBesides
import Derived.OwnWalk
import Derived.RangeFuncNested
import Derived.Outline
import Derived.Lib.SmallJoins
import Derived.Deep.RegionHeld3
import Derived.Deep.DeepCutAuto
import Derived.Test.YtnmifeiokhpcfaaDoorShelf
import Derived.Lib.ItoaNum
import Derived.StillTailTactics
import Derived.Defers
import Derived.Recover
import Derived.Shelf.Abstract

namespace Go.Proofs.YtnmifeiokhpcfaaDoor.re

def ab (x : Int) : Int := if x < 0 then -x else x

/-- a pair that is a real -/
def vr (m e : Int) : Bool := (decide (m = 0) && decide (e = 0)) || (decide (8388608 ≤ ab m) && decide (ab m < 16777216) && decide (-150 ≤ e) && decide (e ≤ 150)) || (decide (1 ≤ ab m) && decide (ab m < 8388608) && decide (e = -150))

/-- the index of a pair -/
def ix (m e : Int) : Int := if m = 0 ∧ e = 0 then 0 else if m < 0 then m - (e + 150) * 8388608 else m + (e + 150) * 8388608

/-- the steps of an index -/
def sx (i : Int) : Int := if ab i / 8388608 - 1 < 0 then 0 else ab i / 8388608 - 1

def aM (i : Int) : Int := if i = 0 then 0 else if i < 0 then -(ab i - sx i * 8388608) else ab i - sx i * 8388608

def aE (i : Int) : Int := if i = 0 then 0 else sx i - 150

theorem vr_iff {m e : Int} : vr m e = true ↔ (m = 0 ∧ e = 0) ∨ (8388608 ≤ ab m ∧ ab m < 16777216 ∧ -150 ≤ e ∧ e ≤ 150) ∨ (1 ≤ ab m ∧ ab m < 8388608 ∧ e = -150) := by
  simp only [vr, Bool.or_eq_true, Bool.and_eq_true, decide_eq_true_eq, or_assoc, and_assoc]

theorem vr_bd {m e : Int} (h : vr m e = true) : -16777215 ≤ m ∧ m ≤ 16777215 ∧ -150 ≤ e ∧ e ≤ 150 := by
  have k := vr_iff.1 h
  unfold ab at k
  split at k <;> omega

theorem ix_bd {m e : Int} (h : vr m e = true) : -2533359615 ≤ ix m e ∧ ix m e ≤ 2533359615 := by
  have k := vr_iff.1 h
  unfold ab at k
  unfold ix
  (repeat' split at k) <;> (repeat' split) <;> omega

theorem at_vr {i : Int} (h1 : -2533359615 ≤ i) (h2 : i ≤ 2533359615) : vr (aM i) (aE i) = true := by
  rw [vr_iff]
  unfold aM aE sx ab
  (repeat' split) <;> omega

theorem ix_at {i : Int} (h1 : -2533359615 ≤ i) (h2 : i ≤ 2533359615) : ix (aM i) (aE i) = i := by
  unfold ix aM aE sx ab
  (repeat' split) <;> omega

theorem at_ix {m e : Int} (h : vr m e = true) : aM (ix m e) = m ∧ aE (ix m e) = e := by
  have k := vr_iff.1 h
  unfold ab at k
  unfold aM aE sx ab ix
  constructor <;> (repeat' split at k) <;> (repeat' split) <;> omega

theorem vr_neg {m e : Int} : vr (-m) e = vr m e := by
  rw [Bool.eq_iff_iff, vr_iff, vr_iff]
  unfold ab
  (repeat' split) <;> omega

theorem ix_neg {m e : Int} (h : vr m e = true) : ix (-m) e = - ix m e := by
  have k := vr_iff.1 h
  unfold ab at k
  unfold ix
  (repeat' split at k) <;> (repeat' split) <;> omega

end Go.Proofs.YtnmifeiokhpcfaaDoor.re

namespace Go.Proofs.YtnmifeiokhpcfaaDoor.re
open Go.RowKit
set_option linter.unusedVariables false

/-- a real as a value -/
abbrev realV (m e : Int) : Value := .agg #[.int .i64 m, .int .i64 e]

abbrev wfI (x : Int) : Prop := -9223372036854775808 ≤ x ∧ x ≤ 9223372036854775807

theorem carry {W w1 : World} (hb : Below W.heap.size W w1) {b o : Nat} {v : Value} (h : W.cell? ⟨b, o, none⟩ = some v) : w1.cell? ⟨b, o, none⟩ = some v := by
  obtain ⟨ob, ho, _⟩ := cells_of_cell h
  exact (hb.cell (p := ⟨b, o, none⟩) (Array.getElem?_eq_some_iff.1 ho).1).trans h

theorem carryF {W w1 : World} (hb : Below W.heap.size W w1) {b o : Nat} {v : Value} (h : W.cell? ⟨b, o, none⟩ = some v) (hf : W.frozen? ⟨b, o, none⟩ = false) : w1.frozen? ⟨b, o, none⟩ = false := by
  obtain ⟨ob, ho, _⟩ := cells_of_cell h
  exact (hb.frozen (p := ⟨b, o, none⟩) (Array.getElem?_eq_some_iff.1 ho).1).trans hf

set_option maxRecDepth 100000 in
set_option maxHeartbeats 1600000 in
theorem valid_z0 (e : Int) (w : World) (h : (e == 0) = true) :
    Calls Tryd.prog 34 #[realV 0 e] w fun r w' => r = .returned (.bool true) ∧ Below w.heap.size w w' := by
  have B0 : ∀ o0 : Obj, Below w.heap.size w (w.alloc o0) := fun _ => by repeat (first | exact Below.refl _ _ | refine Below.alloc ?_ (by simp <;> omega) _)
  have HBB := Lib.hid B0
  clear B0
  have hmx : ∀ a b w, Sem.run Tryd.prog (Builtin.max_ #[3, 3] 3 #[.int .i64 a, .int .i64 b]) w = .ok (.int .i64 (if a < b then b else a)) w := fun a b w => by kernel_rfl
  go_enter Tryd.func34, Tryd.ntmps34
  go_wp2_with fail
  all_goals go_ret
  all_goals exact ⟨by first | rfl | simp_all, HBB.out _⟩

set_option maxRecDepth 100000 in
set_option maxHeartbeats 1600000 in
theorem valid_z1 (e : Int) (w : World) (h : (e == 0) = false) :
    Calls Tryd.prog 34 #[realV 0 e] w fun r w' => r = .returned (.bool false) ∧ Below w.heap.size w w' := by
  have B0 : ∀ o0 : Obj, Below w.heap.size w (w.alloc o0) := fun _ => by repeat (first | exact Below.refl _ _ | refine Below.alloc ?_ (by simp <;> omega) _)
  have HBB := Lib.hid B0
  clear B0
  have hmx : ∀ a b w, Sem.run Tryd.prog (Builtin.max_ #[3, 3] 3 #[.int .i64 a, .int .i64 b]) w = .ok (.int .i64 (if a < b then b else a)) w := fun a b w => by kernel_rfl
  go_enter Tryd.func34, Tryd.ntmps34
  go_wp2_with fail
  all_goals go_ret
  all_goals exact ⟨by first | rfl | simp_all, HBB.out _⟩

set_option maxRecDepth 100000 in
set_option maxHeartbeats 1600000 in
theorem valid_pn (m e : Int) (w : World) (s1 : 0 < m) (s2 : m ≤ 9223372036854775807) (h1 : 8388608 ≤ m) (h2 : m < 16777216) (h3 : -150 ≤ e) (h4 : e ≤ 150) :
    Calls Tryd.prog 34 #[realV m e] w fun r w' => r = .returned (.bool true) ∧ Below w.heap.size w w' := by
  have B0 : ∀ o0 : Obj, Below w.heap.size w (w.alloc o0) := fun _ => by repeat (first | exact Below.refl _ _ | refine Below.alloc ?_ (by simp <;> omega) _)
  have HBB := Lib.hid B0
  clear B0
  have hmx : ∀ a b w, Sem.run Tryd.prog (Builtin.max_ #[3, 3] 3 #[.int .i64 a, .int .i64 b]) w = .ok (.int .i64 (if a < b then b else a)) w := fun a b w => by kernel_rfl
  have g0 : (m == 0) = false := beq_eq_false_iff_ne.2 (by omega)
  have g1 : ¬ m < -m := by omega
  go_enter Tryd.func34, Tryd.ntmps34
  go_wp2_with fail
  all_goals go_ret
  all_goals exact ⟨rfl, HBB.out _⟩

set_option maxRecDepth 100000 in
set_option maxHeartbeats 1600000 in
theorem valid_pl (m e : Int) (w : World) (s1 : 0 < m) (s2 : m ≤ 9223372036854775807) (h1 : 8388608 ≤ m) (h2 : m < 16777216) (h3 : e < -150) :
    Calls Tryd.prog 34 #[realV m e] w fun r w' => r = .returned (.bool false) ∧ Below w.heap.size w w' := by
  have B0 : ∀ o0 : Obj, Below w.heap.size w (w.alloc o0) := fun _ => by repeat (first | exact Below.refl _ _ | refine Below.alloc ?_ (by simp <;> omega) _)
  have HBB := Lib.hid B0
  clear B0
  have hmx : ∀ a b w, Sem.run Tryd.prog (Builtin.max_ #[3, 3] 3 #[.int .i64 a, .int .i64 b]) w = .ok (.int .i64 (if a < b then b else a)) w := fun a b w => by kernel_rfl
  have g0 : (m == 0) = false := beq_eq_false_iff_ne.2 (by omega)
  have g1 : ¬ m < -m := by omega
  go_enter Tryd.func34, Tryd.ntmps34
  go_wp2_with fail
  all_goals go_ret
  all_goals exact ⟨rfl, HBB.out _⟩

set_option maxRecDepth 100000 in
set_option maxHeartbeats 1600000 in
theorem valid_ph (m e : Int) (w : World) (s1 : 0 < m) (s2 : m ≤ 9223372036854775807) (h1 : 8388608 ≤ m) (h2 : m < 16777216) (h3 : -150 ≤ e) (h4 : decide (e ≤ 150) = false) :
    Calls Tryd.prog 34 #[realV m e] w fun r w' => r = .returned (.bool false) ∧ Below w.heap.size w w' := by
  have B0 : ∀ o0 : Obj, Below w.heap.size w (w.alloc o0) := fun _ => by repeat (first | exact Below.refl _ _ | refine Below.alloc ?_ (by simp <;> omega) _)
  have HBB := Lib.hid B0
  clear B0
  have hmx : ∀ a b w, Sem.run Tryd.prog (Builtin.max_ #[3, 3] 3 #[.int .i64 a, .int .i64 b]) w = .ok (.int .i64 (if a < b then b else a)) w := fun a b w => by kernel_rfl
  have g0 : (m == 0) = false := beq_eq_false_iff_ne.2 (by omega)
  have g1 : ¬ m < -m := by omega
  go_enter Tryd.func34, Tryd.ntmps34
  go_wp2_with fail
  all_goals go_ret
  all_goals exact ⟨rfl, HBB.out _⟩

set_option maxRecDepth 100000 in
set_option maxHeartbeats 1600000 in
theorem valid_pg (m e : Int) (w : World) (s1 : 0 < m) (s2 : m ≤ 9223372036854775807) (h1 : 16777216 ≤ m) :
    Calls Tryd.prog 34 #[realV m e] w fun r w' => r = .returned (.bool false) ∧ Below w.heap.size w w' := by
  have B0 : ∀ o0 : Obj, Below w.heap.size w (w.alloc o0) := fun _ => by repeat (first | exact Below.refl _ _ | refine Below.alloc ?_ (by simp <;> omega) _)
  have HBB := Lib.hid B0
  clear B0
  have hmx : ∀ a b w, Sem.run Tryd.prog (Builtin.max_ #[3, 3] 3 #[.int .i64 a, .int .i64 b]) w = .ok (.int .i64 (if a < b then b else a)) w := fun a b w => by kernel_rfl
  have g0 : (m == 0) = false := beq_eq_false_iff_ne.2 (by omega)
  have g1 : ¬ m < -m := by omega
  have g2 : 8388608 ≤ m := by omega
  have g3 : 1 ≤ m := by omega
  go_enter Tryd.func34, Tryd.ntmps34
  go_wp2_with fail
  all_goals go_ret
  all_goals exact ⟨rfl, HBB.out _⟩

set_option maxRecDepth 100000 in
set_option maxHeartbeats 1600000 in
theorem valid_ps (m e : Int) (w : World) (s1 : 0 < m) (s2 : m ≤ 9223372036854775807) (h1 : 1 ≤ m) (h2 : m < 8388608) (h3 : (e == -150) = true) :
    Calls Tryd.prog 34 #[realV m e] w fun r w' => r = .returned (.bool true) ∧ Below w.heap.size w w' := by
  have B0 : ∀ o0 : Obj, Below w.heap.size w (w.alloc o0) := fun _ => by repeat (first | exact Below.refl _ _ | refine Below.alloc ?_ (by simp <;> omega) _)
  have HBB := Lib.hid B0
  clear B0
  have hmx : ∀ a b w, Sem.run Tryd.prog (Builtin.max_ #[3, 3] 3 #[.int .i64 a, .int .i64 b]) w = .ok (.int .i64 (if a < b then b else a)) w := fun a b w => by kernel_rfl
  have g0 : (m == 0) = false := beq_eq_false_iff_ne.2 (by omega)
  have g1 : ¬ m < -m := by omega
  go_enter Tryd.func34, Tryd.ntmps34
  go_wp2_with fail
  all_goals go_ret
  all_goals exact ⟨rfl, HBB.out _⟩

set_option maxRecDepth 100000 in
set_option maxHeartbeats 1600000 in
theorem valid_pt (m e : Int) (w : World) (s1 : 0 < m) (s2 : m ≤ 9223372036854775807) (h1 : 1 ≤ m) (h2 : m < 8388608) (h3 : (e == -150) = false) :
    Calls Tryd.prog 34 #[realV m e] w fun r w' => r = .returned (.bool false) ∧ Below w.heap.size w w' := by
  have B0 : ∀ o0 : Obj, Below w.heap.size w (w.alloc o0) := fun _ => by repeat (first | exact Below.refl _ _ | refine Below.alloc ?_ (by simp <;> omega) _)
  have HBB := Lib.hid B0
  clear B0
  have hmx : ∀ a b w, Sem.run Tryd.prog (Builtin.max_ #[3, 3] 3 #[.int .i64 a, .int .i64 b]) w = .ok (.int .i64 (if a < b then b else a)) w := fun a b w => by kernel_rfl
  have g0 : (m == 0) = false := beq_eq_false_iff_ne.2 (by omega)
  have g1 : ¬ m < -m := by omega
  go_enter Tryd.func34, Tryd.ntmps34
  go_wp2_with fail
  all_goals go_ret
  all_goals exact ⟨rfl, HBB.out _⟩

set_option maxRecDepth 100000 in
set_option maxHeartbeats 1600000 in
theorem valid_nn (m e : Int) (w : World) (s1 : m < 0) (s2 : -9223372036854775807 ≤ m) (h1 : 8388608 ≤ (-m)) (h2 : (-m) < 16777216) (h3 : -150 ≤ e) (h4 : e ≤ 150) :
    Calls Tryd.prog 34 #[realV m e] w fun r w' => r = .returned (.bool true) ∧ Below w.heap.size w w' := by
  have B0 : ∀ o0 : Obj, Below w.heap.size w (w.alloc o0) := fun _ => by repeat (first | exact Below.refl _ _ | refine Below.alloc ?_ (by simp <;> omega) _)
  have HBB := Lib.hid B0
  clear B0
  have hmx : ∀ a b w, Sem.run Tryd.prog (Builtin.max_ #[3, 3] 3 #[.int .i64 a, .int .i64 b]) w = .ok (.int .i64 (if a < b then b else a)) w := fun a b w => by kernel_rfl
  have g0 : (m == 0) = false := beq_eq_false_iff_ne.2 (by omega)
  have g1 : m < -m := by omega
  go_enter Tryd.func34, Tryd.ntmps34
  go_wp2_with fail
  all_goals go_ret
  all_goals exact ⟨rfl, HBB.out _⟩

set_option maxRecDepth 100000 in
set_option maxHeartbeats 1600000 in
theorem valid_nl (m e : Int) (w : World) (s1 : m < 0) (s2 : -9223372036854775807 ≤ m) (h1 : 8388608 ≤ (-m)) (h2 : (-m) < 16777216) (h3 : e < -150) :
    Calls Tryd.prog 34 #[realV m e] w fun r w' => r = .returned (.bool false) ∧ Below w.heap.size w w' := by
  have B0 : ∀ o0 : Obj, Below w.heap.size w (w.alloc o0) := fun _ => by repeat (first | exact Below.refl _ _ | refine Below.alloc ?_ (by simp <;> omega) _)
  have HBB := Lib.hid B0
  clear B0
  have hmx : ∀ a b w, Sem.run Tryd.prog (Builtin.max_ #[3, 3] 3 #[.int .i64 a, .int .i64 b]) w = .ok (.int .i64 (if a < b then b else a)) w := fun a b w => by kernel_rfl
  have g0 : (m == 0) = false := beq_eq_false_iff_ne.2 (by omega)
  have g1 : m < -m := by omega
  go_enter Tryd.func34, Tryd.ntmps34
  go_wp2_with fail
  all_goals go_ret
  all_goals exact ⟨rfl, HBB.out _⟩

set_option maxRecDepth 100000 in
set_option maxHeartbeats 1600000 in
theorem valid_nh (m e : Int) (w : World) (s1 : m < 0) (s2 : -9223372036854775807 ≤ m) (h1 : 8388608 ≤ (-m)) (h2 : (-m) < 16777216) (h3 : -150 ≤ e) (h4 : decide (e ≤ 150) = false) :
    Calls Tryd.prog 34 #[realV m e] w fun r w' => r = .returned (.bool false) ∧ Below w.heap.size w w' := by
  have B0 : ∀ o0 : Obj, Below w.heap.size w (w.alloc o0) := fun _ => by repeat (first | exact Below.refl _ _ | refine Below.alloc ?_ (by simp <;> omega) _)
  have HBB := Lib.hid B0
  clear B0
  have hmx : ∀ a b w, Sem.run Tryd.prog (Builtin.max_ #[3, 3] 3 #[.int .i64 a, .int .i64 b]) w = .ok (.int .i64 (if a < b then b else a)) w := fun a b w => by kernel_rfl
  have g0 : (m == 0) = false := beq_eq_false_iff_ne.2 (by omega)
  have g1 : m < -m := by omega
  go_enter Tryd.func34, Tryd.ntmps34
  go_wp2_with fail
  all_goals go_ret
  all_goals exact ⟨rfl, HBB.out _⟩

set_option maxRecDepth 100000 in
set_option maxHeartbeats 1600000 in
theorem valid_ng (m e : Int) (w : World) (s1 : m < 0) (s2 : -9223372036854775807 ≤ m) (h1 : 16777216 ≤ (-m)) :
    Calls Tryd.prog 34 #[realV m e] w fun r w' => r = .returned (.bool false) ∧ Below w.heap.size w w' := by
  have B0 : ∀ o0 : Obj, Below w.heap.size w (w.alloc o0) := fun _ => by repeat (first | exact Below.refl _ _ | refine Below.alloc ?_ (by simp <;> omega) _)
  have HBB := Lib.hid B0
  clear B0
  have hmx : ∀ a b w, Sem.run Tryd.prog (Builtin.max_ #[3, 3] 3 #[.int .i64 a, .int .i64 b]) w = .ok (.int .i64 (if a < b then b else a)) w := fun a b w => by kernel_rfl
  have g0 : (m == 0) = false := beq_eq_false_iff_ne.2 (by omega)
  have g1 : m < -m := by omega
  have g2 : 8388608 ≤ (-m) := by omega
  have g3 : 1 ≤ (-m) := by omega
  go_enter Tryd.func34, Tryd.ntmps34
  go_wp2_with fail
  all_goals go_ret
  all_goals exact ⟨rfl, HBB.out _⟩

set_option maxRecDepth 100000 in
set_option maxHeartbeats 1600000 in
theorem valid_ns (m e : Int) (w : World) (s1 : m < 0) (s2 : -9223372036854775807 ≤ m) (h1 : 1 ≤ (-m)) (h2 : (-m) < 8388608) (h3 : (e == -150) = true) :
    Calls Tryd.prog 34 #[realV m e] w fun r w' => r = .returned (.bool true) ∧ Below w.heap.size w w' := by
  have B0 : ∀ o0 : Obj, Below w.heap.size w (w.alloc o0) := fun _ => by repeat (first | exact Below.refl _ _ | refine Below.alloc ?_ (by simp <;> omega) _)
  have HBB := Lib.hid B0
  clear B0
  have hmx : ∀ a b w, Sem.run Tryd.prog (Builtin.max_ #[3, 3] 3 #[.int .i64 a, .int .i64 b]) w = .ok (.int .i64 (if a < b then b else a)) w := fun a b w => by kernel_rfl
  have g0 : (m == 0) = false := beq_eq_false_iff_ne.2 (by omega)
  have g1 : m < -m := by omega
  go_enter Tryd.func34, Tryd.ntmps34
  go_wp2_with fail
  all_goals go_ret
  all_goals exact ⟨rfl, HBB.out _⟩

set_option maxRecDepth 100000 in
set_option maxHeartbeats 1600000 in
theorem valid_nt (m e : Int) (w : World) (s1 : m < 0) (s2 : -9223372036854775807 ≤ m) (h1 : 1 ≤ (-m)) (h2 : (-m) < 8388608) (h3 : (e == -150) = false) :
    Calls Tryd.prog 34 #[realV m e] w fun r w' => r = .returned (.bool false) ∧ Below w.heap.size w w' := by
  have B0 : ∀ o0 : Obj, Below w.heap.size w (w.alloc o0) := fun _ => by repeat (first | exact Below.refl _ _ | refine Below.alloc ?_ (by simp <;> omega) _)
  have HBB := Lib.hid B0
  clear B0
  have hmx : ∀ a b w, Sem.run Tryd.prog (Builtin.max_ #[3, 3] 3 #[.int .i64 a, .int .i64 b]) w = .ok (.int .i64 (if a < b then b else a)) w := fun a b w => by kernel_rfl
  have g0 : (m == 0) = false := beq_eq_false_iff_ne.2 (by omega)
  have g1 : m < -m := by omega
  go_enter Tryd.func34, Tryd.ntmps34
  go_wp2_with fail
  all_goals go_ret
  all_goals exact ⟨rfl, HBB.out _⟩

set_option maxRecDepth 100000 in
set_option maxHeartbeats 1600000 in
theorem valid_min (m e : Int) (w : World) (g0 : (m == 0) = false) (g1 : wrap64 (-m) = m) (g2 : m < 1) (g3 : m < 8388608) :
    Calls Tryd.prog 34 #[realV m e] w fun r w' => r = .returned (.bool false) ∧ Below w.heap.size w w' := by
  have B0 : ∀ o0 : Obj, Below w.heap.size w (w.alloc o0) := fun _ => by repeat (first | exact Below.refl _ _ | refine Below.alloc ?_ (by simp <;> omega) _)
  have HBB := Lib.hid B0
  clear B0
  have hmx : ∀ a b w, Sem.run Tryd.prog (Builtin.max_ #[3, 3] 3 #[.int .i64 a, .int .i64 b]) w = .ok (.int .i64 (if a < b then b else a)) w := fun a b w => by kernel_rfl
  go_enter Tryd.func34, Tryd.ntmps34
  go_wp2_with fail
  all_goals go_ret
  all_goals exact ⟨rfl, HBB.out _⟩

theorem valid_any (m e : Int) (w : World) (h1 : -9223372036854775808 ≤ m) (h2 : m ≤ 9223372036854775807) :
    Calls Tryd.prog 34 #[realV m e] w fun r w' => r = .returned (.bool (vr m e)) ∧ Below w.heap.size w w' := by
  have T : ∀ {b : Bool}, ((m = 0 ∧ e = 0) ∨ (8388608 ≤ ab m ∧ ab m < 16777216 ∧ -150 ≤ e ∧ e ≤ 150) ∨ (1 ≤ ab m ∧ ab m < 8388608 ∧ e = -150) ↔ b = true) → vr m e = b := fun {b} h => by
    rw [Bool.eq_iff_iff, vr_iff]; exact h
  rcases (show m = 0 ∨ 0 < m ∨ (m < 0 ∧ -9223372036854775807 ≤ m) ∨ m = -9223372036854775808 by omega) with rfl | hm | ⟨hm, hm2⟩ | rfl
  · cases he : (e == 0)
    · have k : ¬ e = 0 := beq_eq_false_iff_ne.1 he
      rw [T (b := false) (by unfold ab; simp; omega)]
      exact valid_z1 e w he
    · have k : e = 0 := beq_iff_eq.1 he
      rw [T (b := true) (by simp [k])]
      exact valid_z0 e w he
  · have ea : ab m = m := if_neg (by omega)
    rw [ea] at T
    by_cases a1 : m < 8388608
    · cases he : (e == -150)
      · have k : ¬ e = -150 := beq_eq_false_iff_ne.1 he
        rw [T (b := false) (by simp; omega)]
        exact valid_pt m e w hm h2 (by omega) a1 he
      · have k : e = -150 := beq_iff_eq.1 he
        rw [T (b := true) (by simp; omega)]
        exact valid_ps m e w hm h2 (by omega) a1 he
    · by_cases a2 : m < 16777216
      · by_cases a3 : e < -150
        · rw [T (b := false) (by simp; omega)]
          exact valid_pl m e w hm h2 (by omega) a2 a3
        · by_cases a4 : e ≤ 150
          · rw [T (b := true) (by simp; omega)]
            exact valid_pn m e w hm h2 (by omega) a2 (by omega) a4
          · rw [T (b := false) (by simp; omega)]
            exact valid_ph m e w hm h2 (by omega) a2 (by omega) (decide_eq_false a4)
      · rw [T (b := false) (by simp; omega)]
        exact valid_pg m e w hm h2 (by omega)
  · have ea : ab m = -m := if_pos hm
    rw [ea] at T
    by_cases a1 : -m < 8388608
    · cases he : (e == -150)
      · have k : ¬ e = -150 := beq_eq_false_iff_ne.1 he
        rw [T (b := false) (by simp; omega)]
        exact valid_nt m e w hm hm2 (by omega) a1 he
      · have k : e = -150 := beq_iff_eq.1 he
        rw [T (b := true) (by simp; omega)]
        exact valid_ns m e w hm hm2 (by omega) a1 he
    · by_cases a2 : -m < 16777216
      · by_cases a3 : e < -150
        · rw [T (b := false) (by simp; omega)]
          exact valid_nl m e w hm hm2 (by omega) a2 a3
        · by_cases a4 : e ≤ 150
          · rw [T (b := true) (by simp; omega)]
            exact valid_nn m e w hm hm2 (by omega) a2 (by omega) a4
          · rw [T (b := false) (by simp; omega)]
            exact valid_nh m e w hm hm2 (by omega) a2 (by omega) (decide_eq_false a4)
      · rw [T (b := false) (by simp; omega)]
        exact valid_ng m e w hm hm2 (by omega)
  · rw [T (b := false) (by unfold ab; simp <;> omega)]
    exact valid_min _ e w (by decide) (by kernel_rfl) (by decide) (by decide)

end Go.Proofs.YtnmifeiokhpcfaaDoor.re

namespace Go.Proofs.YtnmifeiokhpcfaaDoor.re
open Go.RowKit
set_option linter.unusedVariables false

def c3 (a b : Int) : Int := if a < b then -1 else if b < a then 1 else 0

set_option maxRecDepth 100000 in
set_option maxHeartbeats 1600000 in
theorem opp_any (m e : Int) (w : World) (h1 : -9223372036854775807 ≤ m) (h2 : m ≤ 9223372036854775807) :
    Calls Tryd.prog 91 #[realV m e] w fun r w' => r = .returned (realV (-m) e) ∧ Below w.heap.size w w' := by
  have B0 : ∀ o1 o2 : Obj, Below w.heap.size w ((w.alloc o1).alloc o2) := fun _ _ => by repeat (first | exact Below.refl _ _ | refine Below.alloc ?_ (by simp <;> omega) _)
  have HBB := Lib.hid B0
  clear B0
  go_enter Tryd.func91, Tryd.ntmps91
  go_wp2_with fail
  refine bodyPost_ret (v := realV (-m) e) (by simp [results, Tryd.results91, go_sem]) rfl ⟨rfl, HBB.out _ _⟩

end Go.Proofs.YtnmifeiokhpcfaaDoor.re

namespace Go.Proofs.YtnmifeiokhpcfaaDoor.re
open Go.RowKit
set_option linter.unusedVariables false

set_option maxRecDepth 100000 in
set_option maxHeartbeats 1600000 in
theorem realAt_z (w : World) :
    Calls Tryd.prog 83 #[.int .i64 0] w fun r w' => r = .returned (realV 0 0) ∧ Below w.heap.size w w' := by
  go_enter Tryd.func83, Tryd.ntmps83
  go_wp2_with fail
  refine bodyPost_ret (v := realV 0 0) (by simp [results, Tryd.results83, go_sem]) rfl ⟨rfl, by repeat (first | exact HBB.out | exact Below.refl _ _ | refine Below.drew ?_ | refine Below.setCell ?_ (by first | omega | (simp; done) | (simp; omega)) _ | refine Below.alloc ?_ (by first | omega | (simp; done) | (simp; omega)) _)⟩

set_option maxRecDepth 100000 in
set_option maxHeartbeats 1600000 in
theorem realAt_p0 (i : Int) (w : World) (h1 : 0 < i) (h2 : i ≤ 2533359615) (h3 : i / 8388608 - 1 < 0) :
    Calls Tryd.prog 83 #[.int .i64 i] w fun r w' => r = .returned (realV (i) (-150)) ∧ Below w.heap.size w w' := by
  have hmx : ∀ a b w, Sem.run Tryd.prog (Builtin.max_ #[3, 3] 3 #[.int .i64 a, .int .i64 b]) w = .ok (.int .i64 (if a < b then b else a)) w := fun a b w => by kernel_rfl
  have g0 : (i == 0) = false := beq_eq_false_iff_ne.2 (by omega)
  have g1 : ¬ i < -i := by omega
  have q1 : 0 ≤ i / 8388608 := by omega
  have q2 : i / 8388608 ≤ 302 := by omega
  go_enter Tryd.func83, Tryd.ntmps83
  go_wp2_with fail
  refine bodyPost_ret (v := realV (i) (-150)) (by simp [results, Tryd.results83, go_sem]) rfl ⟨rfl, by repeat (first | exact HBB.out | exact Below.refl _ _ | refine Below.drew ?_ | refine Below.setCell ?_ (by first | omega | (simp; done) | (simp; omega)) _ | refine Below.alloc ?_ (by first | omega | (simp; done) | (simp; omega)) _)⟩

set_option maxRecDepth 100000 in
set_option maxHeartbeats 1600000 in
theorem realAt_p1 (i : Int) (w : World) (h1 : 0 < i) (h2 : i ≤ 2533359615) (h3 : 0 ≤ i / 8388608 - 1) :
    Calls Tryd.prog 83 #[.int .i64 i] w fun r w' => r = .returned (realV (i - (i / 8388608 - 1) * 8388608) (-150 + (i / 8388608 - 1))) ∧ Below w.heap.size w w' := by
  have hmx : ∀ a b w, Sem.run Tryd.prog (Builtin.max_ #[3, 3] 3 #[.int .i64 a, .int .i64 b]) w = .ok (.int .i64 (if a < b then b else a)) w := fun a b w => by kernel_rfl
  have g0 : (i == 0) = false := beq_eq_false_iff_ne.2 (by omega)
  have g1 : ¬ i < -i := by omega
  have q1 : 0 ≤ i / 8388608 := by omega
  have q2 : i / 8388608 ≤ 302 := by omega
  go_enter Tryd.func83, Tryd.ntmps83
  go_wp2_with fail
  refine bodyPost_ret (v := realV (i - (i / 8388608 - 1) * 8388608) (-150 + (i / 8388608 - 1))) (by simp [results, Tryd.results83, go_sem]) rfl ⟨rfl, by repeat (first | exact HBB.out | exact Below.refl _ _ | refine Below.drew ?_ | refine Below.setCell ?_ (by first | omega | (simp; done) | (simp; omega)) _ | refine Below.alloc ?_ (by first | omega | (simp; done) | (simp; omega)) _)⟩

set_option maxRecDepth 100000 in
set_option maxHeartbeats 1600000 in
theorem realAt_n0 (i : Int) (w : World) (h1 : 0 < i) (h2 : i ≤ 2533359615) (h3 : i / 8388608 - 1 < 0) :
    Calls Tryd.prog 83 #[.int .i64 (-i)] w fun r w' => r = .returned (realV (-(i)) (-150)) ∧ Below w.heap.size w w' := by
  have hmx : ∀ a b w, Sem.run Tryd.prog (Builtin.max_ #[3, 3] 3 #[.int .i64 a, .int .i64 b]) w = .ok (.int .i64 (if a < b then b else a)) w := fun a b w => by kernel_rfl
  have g0 : (-i == 0) = false := beq_eq_false_iff_ne.2 (by omega)
  have g1 : -i < i := by omega
  have q1 : 0 ≤ i / 8388608 := by omega
  have q2 : i / 8388608 ≤ 302 := by omega
  go_enter Tryd.func83, Tryd.ntmps83
  go_wp2_with fail
  refine (opp_any _ _ _ (by omega) (by omega)).mono ?_
  rintro r w1 ⟨rfl, hb1⟩
  have r0 : w1.cell? ⟨w.heap.size, 0, none⟩ = some (.int .i64 0) := carry hb1 (by go_simp)
  have r1 : w1.cell? ⟨w.heap.size, 1, none⟩ = some (.int .i64 0) := carry hb1 (by go_simp)
  have f0 : w1.frozen? ⟨w.heap.size, 0, none⟩ = false := carryF hb1 (v := .int .i64 0) (by go_simp) (by go_simp)
  have f1 : w1.frozen? ⟨w.heap.size, 1, none⟩ = false := carryF hb1 (v := .int .i64 0) (by go_simp) (by go_simp)
  have HBB := Lib.hid ((by repeat (first | exact Below.refl _ _ | refine Below.setCell ?_ (by first | omega | (simp; done) | (simp; omega)) _ | refine Below.alloc ?_ (by first | omega | (simp; done) | (simp; omega)) _) : Below w.heap.size w _).trans (hb1.mono (by first | omega | (simp; done) | (simp; omega))))
  clear hb1
  go_wp2_with fail
  refine bodyPost_ret (v := realV (-(i)) (-150)) (by simp [results, Tryd.results83, go_sem, r0, r1]) rfl ⟨rfl, by repeat (first | exact HBB.out | exact Below.refl _ _ | refine Below.drew ?_ | refine Below.setCell ?_ (by first | omega | (simp; done) | (simp; omega)) _ | refine Below.alloc ?_ (by first | omega | (simp; done) | (simp; omega)) _)⟩

set_option maxRecDepth 100000 in
set_option maxHeartbeats 1600000 in
theorem realAt_n1 (i : Int) (w : World) (h1 : 0 < i) (h2 : i ≤ 2533359615) (h3 : 0 ≤ i / 8388608 - 1) :
    Calls Tryd.prog 83 #[.int .i64 (-i)] w fun r w' => r = .returned (realV (-(i - (i / 8388608 - 1) * 8388608)) (-150 + (i / 8388608 - 1))) ∧ Below w.heap.size w w' := by
  have hmx : ∀ a b w, Sem.run Tryd.prog (Builtin.max_ #[3, 3] 3 #[.int .i64 a, .int .i64 b]) w = .ok (.int .i64 (if a < b then b else a)) w := fun a b w => by kernel_rfl
  have g0 : (-i == 0) = false := beq_eq_false_iff_ne.2 (by omega)
  have g1 : -i < i := by omega
  have q1 : 0 ≤ i / 8388608 := by omega
  have q2 : i / 8388608 ≤ 302 := by omega
  go_enter Tryd.func83, Tryd.ntmps83
  go_wp2_with fail
  refine (opp_any _ _ _ (by omega) (by omega)).mono ?_
  rintro r w1 ⟨rfl, hb1⟩
  have r0 : w1.cell? ⟨w.heap.size, 0, none⟩ = some (.int .i64 0) := carry hb1 (by go_simp)
  have r1 : w1.cell? ⟨w.heap.size, 1, none⟩ = some (.int .i64 0) := carry hb1 (by go_simp)
  have f0 : w1.frozen? ⟨w.heap.size, 0, none⟩ = false := carryF hb1 (v := .int .i64 0) (by go_simp) (by go_simp)
  have f1 : w1.frozen? ⟨w.heap.size, 1, none⟩ = false := carryF hb1 (v := .int .i64 0) (by go_simp) (by go_simp)
  have HBB := Lib.hid ((by repeat (first | exact Below.refl _ _ | refine Below.setCell ?_ (by first | omega | (simp; done) | (simp; omega)) _ | refine Below.alloc ?_ (by first | omega | (simp; done) | (simp; omega)) _) : Below w.heap.size w _).trans (hb1.mono (by first | omega | (simp; done) | (simp; omega))))
  clear hb1
  go_wp2_with fail
  refine bodyPost_ret (v := realV (-(i - (i / 8388608 - 1) * 8388608)) (-150 + (i / 8388608 - 1))) (by simp [results, Tryd.results83, go_sem, r0, r1]) rfl ⟨rfl, by repeat (first | exact HBB.out | exact Below.refl _ _ | refine Below.drew ?_ | refine Below.setCell ?_ (by first | omega | (simp; done) | (simp; omega)) _ | refine Below.alloc ?_ (by first | omega | (simp; done) | (simp; omega)) _)⟩

theorem realAt_any (i : Int) (w : World) (h1 : -2533359615 ≤ i) (h2 : i ≤ 2533359615) :
    Calls Tryd.prog 83 #[.int .i64 i] w fun r w' => r = .returned (realV (aM i) (aE i)) ∧ Below w.heap.size w w' := by
  by_cases h0 : i = 0
  · subst h0
    exact realAt_z w
  · by_cases hn : i < 0
    · have ea : ab i = -i := if_pos hn
      by_cases hs : -i / 8388608 - 1 < 0
      · rw [show aM i = -(-i) from by rw [aM, if_neg h0, if_pos hn, sx, ea, if_pos hs]; omega, show aE i = -150 from by rw [aE, if_neg h0, sx, ea, if_pos hs]; rfl]
        have k := realAt_n0 (-i) w (by omega) (by omega) hs
        rw [Int.neg_neg i] at k
        rw [Int.neg_neg i]
        exact k
      · rw [show aM i = -(-i - (-i / 8388608 - 1) * 8388608) from by rw [aM, if_neg h0, if_pos hn, sx, ea, if_neg hs], show aE i = -150 + (-i / 8388608 - 1) from by rw [aE, if_neg h0, sx, ea, if_neg hs]; omega]
        have k := realAt_n1 (-i) w (by omega) (by omega) (by omega)
        rw [Int.neg_neg i] at k
        exact k
    · have ea : ab i = i := if_neg hn
      by_cases hs : i / 8388608 - 1 < 0
      · rw [show aM i = i from by rw [aM, if_neg h0, if_neg hn, sx, ea, if_pos hs]; omega, show aE i = -150 from by rw [aE, if_neg h0, sx, ea, if_pos hs]; rfl]
        exact realAt_p0 i w (by omega) h2 hs
      · rw [show aM i = i - (i / 8388608 - 1) * 8388608 from by rw [aM, if_neg h0, if_neg hn, sx, ea, if_neg hs], show aE i = -150 + (i / 8388608 - 1) from by rw [aE, if_neg h0, sx, ea, if_neg hs]; omega]
        exact realAt_p1 i w (by omega) h2 (by omega)

end Go.Proofs.YtnmifeiokhpcfaaDoor.re

namespace Go.Proofs.YtnmifeiokhpcfaaDoor.re
open Go.RowKit
set_option linter.unusedVariables false

abbrev rE (m e er : Int) : Value := .tuple #[realV m e, .int .i64 er]

abbrev iE (v er : Int) : Value := .tuple #[.int .i64 v, .int .i64 er]

theorem valid_is {m e : Int} {b : Bool} (h : vr m e = b) (w : World) (h1 : -9223372036854775808 ≤ m) (h2 : m ≤ 9223372036854775807) :
    Calls Tryd.prog 34 #[realV m e] w fun r w' => r = .returned (.bool b) ∧ Below w.heap.size w w' := by
  subst h
  exact valid_any m e w h1 h2

end Go.Proofs.YtnmifeiokhpcfaaDoor.re

namespace Go.Proofs.YtnmifeiokhpcfaaDoor.re
open Go.RowKit
set_option linter.unusedVariables false

end Go.Proofs.YtnmifeiokhpcfaaDoor.re

namespace Go.Proofs.YtnmifeiokhpcfaaDoor.re
open Go.RowKit
set_option linter.unusedVariables false

/-- a number m times 2 to the e, rounded down -/
def flo (m e : Int) : Int := if e ≤ 0 then m / 2 ^ (-e).toNat else if 38 < e then c3 m 0 * 2305843009213693952 else m * 2 ^ e.toNat

/-- what an integer of a program is -/
def inR (n : Int) : Bool := decide (-2147483647 ≤ n ∧ n ≤ 2147483647)

theorem c3_bd (a b : Int) : -1 ≤ c3 a b ∧ c3 a b ≤ 1 := by
  unfold c3
  split
  · omega
  · split <;> omega

theorem pow_ge (k : Nat) (h : 26 ≤ k) : (67108864 : Int) ≤ 2 ^ k := by
  have := Nat.pow_le_pow_right (n := 2) (by decide) h
  have e : ((2 ^ k : Nat) : Int) = (2 : Int) ^ k := by push_cast; rfl
  rw [← e]
  omega

theorem pow_le (k : Nat) (h : k ≤ 38) : (1 : Int) ≤ 2 ^ k ∧ (2 : Int) ^ k ≤ 274877906944 := by
  have := Nat.pow_le_pow_right (n := 2) (by decide) h
  have p := Nat.pow_pos (n := k) (a := 2) (by decide)
  have e : ((2 ^ k : Nat) : Int) = (2 : Int) ^ k := by push_cast; rfl
  rw [← e]
  omega

theorem div_pow_far (m : Int) (k : Nat) (h : 26 ≤ k) (h3 : -33554432 ≤ m) (h4 : m ≤ 33554432) : m / 2 ^ k = if m < 0 then -1 else 0 := by
  have p := pow_ge k h
  have a := @Int.le_ediv_iff_mul_le (if m < 0 then -1 else 0) m (2 ^ k) (by omega)
  have b := @Int.ediv_lt_iff_lt_mul m ((if m < 0 then -1 else 0) + 1) (2 ^ k) (by omega)
  have c := a.2 (by split <;> omega)
  have d := b.2 (by split <;> omega)
  omega

theorem div_pow_min (m : Int) (k : Nat) (h3 : -33554432 ≤ m) (h4 : m ≤ 33554432) : m / 2 ^ min k 64 = m / 2 ^ k := by
  by_cases h : k ≤ 64
  · rw [Nat.min_eq_left h]
  · rw [Nat.min_eq_right (by omega), div_pow_far m 64 (by decide) h3 h4, div_pow_far m k (by omega) h3 h4]

theorem wrap_in (x : Int) (h1 : -9223372036854775808 ≤ x) (h2 : x ≤ 9223372036854775807) : wrap64 x = x := by
  unfold wrap64; omega

theorem mul_bd (m p : Int) (h3 : -16777216 ≤ m) (h4 : m ≤ 16777216) (h : 1 ≤ p ∧ p ≤ 274877906944) : -4611686018427387904 ≤ m * p ∧ m * p ≤ 4611686018427387904 := by
  have a := Int.mul_le_mul_of_nonneg_right h4 (show 0 ≤ p by omega)
  have b := Int.mul_le_mul_of_nonneg_right h3 (show 0 ≤ p by omega)
  omega

end Go.Proofs.YtnmifeiokhpcfaaDoor.re

namespace Go.Proofs.YtnmifeiokhpcfaaDoor.re
open Go.RowKit
set_option linter.unusedVariables false

theorem flo_bd (m e : Int) (h3 : -16777216 ≤ m) (h4 : m ≤ 16777216) : -4611686018427387904 ≤ flo m e ∧ flo m e ≤ 4611686018427387904 := by
  unfold flo
  split
  · have p := Int.pow_pos (n := 2) (m := (-e).toNat) (by decide)
    have a := @Int.le_ediv_iff_mul_le (-16777216) m (2 ^ (-e).toNat) p
    have b := @Int.ediv_lt_iff_lt_mul m 16777217 (2 ^ (-e).toNat) p
    have c := a.2 (by omega)
    have d := b.2 (by omega)
    omega
  · split
    · have := c3_bd m 0
      omega
    · exact mul_bd m _ h3 h4 (pow_le e.toNat (by omega))

def ent (m e : Int) : Int := flo m e

def rnd (m e : Int) : Int := (flo m (e + 1) + 1) / 2

def nI (n : Int) : Int := if inR n then n else 0

def eI (n : Int) : Int := if inR n then 0 else 3

abbrev oI (n : Int) : Value := iE (nI n) (eI n)

end Go.Proofs.YtnmifeiokhpcfaaDoor.re

namespace Go.Proofs.YtnmifeiokhpcfaaDoor.re
open Go.RowKit
set_option linter.unusedVariables false

theorem u64_in (x : Int) (h1 : 0 ≤ x) (h2 : x < 18446744073709551616) : IntKind.u64.wrap x = x := by
  simp [IntKind.wrap, IntKind.signed, IntKind.bits]
  omega

theorem pow_nat (k : Nat) : ((2 ^ k : Nat) : Int) = (2 : Int) ^ k := by push_cast; rfl

theorem half_bd (k : Nat) (h1 : 1 ≤ k) (h2 : k ≤ 63) : (1 : Int) ≤ 2 ^ (k - 1) ∧ (2 : Int) ^ (k - 1) ≤ 4611686018427387904 ∧ (2 : Int) ^ k = 2 * 2 ^ (k - 1) := by
  have a := Nat.pow_le_pow_right (n := 2) (by decide) (show k - 1 ≤ 62 by omega)
  have p := Nat.pow_pos (n := k - 1) (a := 2) (by decide)
  refine ⟨by rw [← pow_nat]; omega, by rw [← pow_nat]; omega, ?_⟩
  obtain ⟨j, rfl⟩ : ∃ j, k = j + 1 := ⟨k - 1, by omega⟩
  rw [Nat.add_sub_cancel, Int.pow_succ, Int.mul_comm]

theorem half_eq (k : Nat) (h1 : 1 ≤ k) (h2 : k ≤ 63) : IntKind.u64.wrap (2 ^ (k - 1)) = 2 ^ (k - 1) := by
  have := half_bd k h1 h2
  exact u64_in _ (by omega) (by omega)

theorem rest_eq (n : Int) (k : Nat) (h1 : 1 ≤ k) (h2 : k ≤ 63) (h3 : 0 ≤ n) (h4 : n ≤ 9223372036854775808) :
    bits BinOp.and IntKind.u64 n (IntKind.u64.wrap (IntKind.u64.wrap (2 * IntKind.u64.wrap (2 ^ (k - 1))) - 1)) = n % 2 ^ k := by
  have b := half_bd k h1 h2
  rw [half_eq k h1 h2, u64_in (2 * 2 ^ (k - 1)) (by omega) (by omega), ← b.2.2, u64_in (2 ^ k - 1) (by omega) (by omega)]
  obtain ⟨N, rfl⟩ := Int.eq_ofNat_of_zero_le h3
  have e : (2 : Int) ^ k - 1 = ((2 ^ k - 1 : Nat) : Int) := by
    have p := Nat.pow_pos (n := k) (a := 2) (by decide)
    rw [← pow_nat]
    omega
  have q := b.2.2
  rw [← pow_nat k] at q
  rw [e, bits_and_u64_nat _ _ (by omega) (by omega), Nat.and_two_pow_sub_one_eq_mod, ← pow_nat]
  rfl

/-- n over 2 to the k, to the nearest, of two to the even one -/
def cutV (n : Int) (k : Nat) : Int := if 2 ^ (k - 1) < n % 2 ^ k ∨ (n % 2 ^ k = 2 ^ (k - 1) ∧ n / 2 ^ k % 2 = 1) then n / 2 ^ k + 1 else n / 2 ^ k

theorem quo_bd (n : Int) (k : Nat) (h1 : 1 ≤ k) (h3 : 0 ≤ n) (h4 : n ≤ 9223372036854775808) : 0 ≤ n / 2 ^ k ∧ n / 2 ^ k ≤ 4611686018427387904 := by
  have p := Nat.pow_le_pow_right (n := 2) (by decide) h1
  have q : (2 : Int) ≤ 2 ^ k := by rw [← pow_nat]; omega
  have a := @Int.le_ediv_iff_mul_le 0 n (2 ^ k) (by omega)
  have b := @Int.ediv_lt_iff_lt_mul n 4611686018427387905 (2 ^ k) (by omega)
  have c := a.2 (by omega)
  have d := b.2 (by omega)
  omega

theorem tm2 (q : Int) (h : 0 ≤ q) : q.tmod 2 = q % 2 := Int.tmod_eq_emod_of_nonneg h

section

variable (n : Int) (k : Nat) (h1 : 1 ≤ k) (h2 : k ≤ 63) (h3 : 0 ≤ n) (h4 : n ≤ 9223372036854775808)
include h1 h2 h3 h4

theorem cut1 (h : IntKind.u64.wrap (2 ^ (k - 1)) < bits BinOp.and IntKind.u64 n (IntKind.u64.wrap (IntKind.u64.wrap (2 * IntKind.u64.wrap (2 ^ (k - 1))) - 1))) :
    wrap64 (IntKind.u64.wrap (n / 2 ^ k + 1)) = cutV n k := by
  have q := quo_bd n k h1 h3 h4
  rw [rest_eq n k h1 h2 h3 h4, half_eq k h1 h2] at h
  rw [u64_in _ (by omega) (by omega), wrap_in _ (by omega) (by omega), cutV, if_pos (Or.inl h)]

theorem cut2 (h : bits BinOp.and IntKind.u64 n (IntKind.u64.wrap (IntKind.u64.wrap (2 * IntKind.u64.wrap (2 ^ (k - 1))) - 1)) = IntKind.u64.wrap (2 ^ (k - 1))) (g : ((n / 2 ^ k).tmod 2 == 1) = true) :
    wrap64 (IntKind.u64.wrap (n / 2 ^ k + 1)) = cutV n k := by
  have q := quo_bd n k h1 h3 h4
  rw [rest_eq n k h1 h2 h3 h4, half_eq k h1 h2] at h
  rw [tm2 _ q.1] at g
  rw [u64_in _ (by omega) (by omega), wrap_in _ (by omega) (by omega), cutV, if_pos (Or.inr ⟨h, by simpa using g⟩)]

theorem cut3 (h : bits BinOp.and IntKind.u64 n (IntKind.u64.wrap (IntKind.u64.wrap (2 * IntKind.u64.wrap (2 ^ (k - 1))) - 1)) = IntKind.u64.wrap (2 ^ (k - 1))) (g : ((n / 2 ^ k).tmod 2 == 1) = false) :
    n / 2 ^ k = cutV n k ∧ wrap64 (n / 2 ^ k) = cutV n k := by
  have q := quo_bd n k h1 h3 h4
  rw [rest_eq n k h1 h2 h3 h4, half_eq k h1 h2] at h
  rw [tm2 _ q.1] at g
  have e : n / 2 ^ k = cutV n k := by
    rw [cutV, if_neg]
    rintro (a | ⟨_, a⟩)
    · omega
    · simp [a] at g
  exact ⟨e, by rw [wrap_in _ (by omega) (by omega)]; exact e⟩

theorem cut4 (h : ¬ bits BinOp.and IntKind.u64 n (IntKind.u64.wrap (IntKind.u64.wrap (2 * IntKind.u64.wrap (2 ^ (k - 1))) - 1)) = IntKind.u64.wrap (2 ^ (k - 1))) (g : bits BinOp.and IntKind.u64 n (IntKind.u64.wrap (IntKind.u64.wrap (2 * IntKind.u64.wrap (2 ^ (k - 1))) - 1)) ≤ IntKind.u64.wrap (2 ^ (k - 1))) :
    n / 2 ^ k = cutV n k ∧ wrap64 (n / 2 ^ k) = cutV n k := by
  have q := quo_bd n k h1 h3 h4
  rw [rest_eq n k h1 h2 h3 h4, half_eq k h1 h2] at h g
  have e : n / 2 ^ k = cutV n k := by
    rw [cutV, if_neg]
    rintro (a | ⟨a, _⟩)
    · omega
    · exact h a
  exact ⟨e, by rw [wrap_in _ (by omega) (by omega)]; exact e⟩

end

theorem lo_eq (n p : Int) (k : Nat) (h3 : 0 ≤ n) (hp : n * 2 ^ k = p) (h4 : p ≤ 16777216) (h5 : 0 ≤ p) : wrap64 (IntKind.u64.wrap (n * 2 ^ min k 64)) = p := by
  have e : n * 2 ^ min k 64 = p := by
    by_cases h : k ≤ 64
    · rw [Nat.min_eq_left h]
      exact hp
    · have g := pow_ge k (by omega)
      have z : n = 0 := by
        by_cases z : n = 0
        · exact z
        · have := Int.mul_le_mul_of_nonneg_right (show 1 ≤ n by omega) (show (0 : Int) ≤ 2 ^ k by omega)
          omega
      subst z
      simp at hp ⊢
      exact hp
  rw [e, u64_in _ (by omega) (by omega), wrap_in _ (by omega) (by omega)]

set_option maxRecDepth 100000 in
set_option maxHeartbeats 1600000 in
theorem sticky_true (m : Int) (w : World) (h1 : -4611686018427387904 ≤ m) (h2 : m ≤ 4611686018427387903) :
    Calls Tryd.prog 95 #[.int .i64 m, .bool true] w fun r w' => r = .returned (.int .i64 (2 * m + 1)) ∧ Below w.heap.size w w' := by
  go_enter Tryd.func95, Tryd.ntmps95
  go_wp2_with fail
  go_ret
  exact ⟨rfl, by repeat (first | exact HBB.out | exact Below.refl _ _ | refine Below.drew ?_ | refine Below.setCell ?_ (by first | omega | (simp; done) | (simp; omega)) _ | refine Below.alloc ?_ (by first | omega | (simp; done) | (simp; omega)) _)⟩

set_option maxRecDepth 100000 in
set_option maxHeartbeats 1600000 in
theorem sticky_false (m : Int) (w : World) (h1 : -4611686018427387904 ≤ m) (h2 : m ≤ 4611686018427387903) :
    Calls Tryd.prog 95 #[.int .i64 m, .bool false] w fun r w' => r = .returned (.int .i64 (2 * m)) ∧ Below w.heap.size w w' := by
  go_enter Tryd.func95, Tryd.ntmps95
  go_wp2_with fail
  go_ret
  exact ⟨rfl, by repeat (first | exact HBB.out | exact Below.refl _ _ | refine Below.drew ?_ | refine Below.setCell ?_ (by first | omega | (simp; done) | (simp; omega)) _ | refine Below.alloc ?_ (by first | omega | (simp; done) | (simp; omega)) _)⟩

set_option maxRecDepth 100000 in
set_option maxHeartbeats 1600000 in
theorem cut_lo (n c p : Int) (w : World) (h1 : c ≤ 0) (h2 : -1000 ≤ c) (h3 : 0 ≤ n) (hp : n * 2 ^ (-c).toNat = p) (h4 : p ≤ 16777216) (h5 : 0 ≤ p) :
    Calls Tryd.prog 82 #[.int .u64 n, .int .i64 c] w fun r w' => r = .returned (.int .i64 p) ∧ Below w.heap.size w w' := by
  go_enter Tryd.func82, Tryd.ntmps82
  go_wp2_with fail
  go_ret
  exact ⟨congrArg (fun x => Ending.returned (Value.int IntKind.i64 x)) (lo_eq n p _ h3 hp h4 h5), by repeat (first | exact HBB.out | exact Below.refl _ _ | refine Below.drew ?_ | refine Below.setCell ?_ (by first | omega | (simp; done) | (simp; omega)) _ | refine Below.alloc ?_ (by first | omega | (simp; done) | (simp; omega)) _)⟩

set_option maxRecDepth 100000 in
set_option maxHeartbeats 1600000 in
theorem cut_hi (n c : Int) (w : World) (h1 : 63 < c) :
    Calls Tryd.prog 82 #[.int .u64 n, .int .i64 c] w fun r w' => r = .returned (.int .i64 0) ∧ Below w.heap.size w w' := by
  go_enter Tryd.func82, Tryd.ntmps82
  go_wp2_with fail
  go_ret
  exact ⟨rfl, by repeat (first | exact HBB.out | exact Below.refl _ _ | refine Below.drew ?_ | refine Below.setCell ?_ (by first | omega | (simp; done) | (simp; omega)) _ | refine Below.alloc ?_ (by first | omega | (simp; done) | (simp; omega)) _)⟩

set_option maxRecDepth 100000 in
set_option maxHeartbeats 1600000 in
theorem cut_mid (n c : Int) (w : World) (h1 : 0 < c) (h2 : c ≤ 63) (h3 : 0 ≤ n) (h4 : n ≤ 9223372036854775808) :
    Calls Tryd.prog 82 #[.int .u64 n, .int .i64 c] w fun r w' => r = .returned (.int .i64 (cutV n c.toNat)) ∧ Below w.heap.size w w' := by
  go_enter Tryd.func82, Tryd.ntmps82
  go_wp2_with fail
  all_goals go_ret
  all_goals first
    | exact ⟨congrArg (fun x => Ending.returned (Value.int IntKind.i64 x)) (cut1 n c.toNat (by omega) (by omega) h3 h4 (by assumption)), by repeat (first | exact HBB.out | exact Below.refl _ _ | refine Below.drew ?_ | refine Below.setCell ?_ (by first | omega | (simp; done) | (simp; omega)) _ | refine Below.alloc ?_ (by first | omega | (simp; done) | (simp; omega)) _)⟩
    | exact ⟨congrArg (fun x => Ending.returned (Value.int IntKind.i64 x)) (cut2 n c.toNat (by omega) (by omega) h3 h4 (by assumption) (by assumption)), by repeat (first | exact HBB.out | exact Below.refl _ _ | refine Below.drew ?_ | refine Below.setCell ?_ (by first | omega | (simp; done) | (simp; omega)) _ | refine Below.alloc ?_ (by first | omega | (simp; done) | (simp; omega)) _)⟩
    | exact ⟨congrArg (fun x => Ending.returned (Value.int IntKind.i64 x)) (cut3 n c.toNat (by omega) (by omega) h3 h4 (by assumption) (by assumption)).1, by repeat (first | exact HBB.out | exact Below.refl _ _ | refine Below.drew ?_ | refine Below.setCell ?_ (by first | omega | (simp; done) | (simp; omega)) _ | refine Below.alloc ?_ (by first | omega | (simp; done) | (simp; omega)) _)⟩
    | exact ⟨congrArg (fun x => Ending.returned (Value.int IntKind.i64 x)) (cut3 n c.toNat (by omega) (by omega) h3 h4 (by assumption) (by assumption)).2, by repeat (first | exact HBB.out | exact Below.refl _ _ | refine Below.drew ?_ | refine Below.setCell ?_ (by first | omega | (simp; done) | (simp; omega)) _ | refine Below.alloc ?_ (by first | omega | (simp; done) | (simp; omega)) _)⟩
    | exact ⟨congrArg (fun x => Ending.returned (Value.int IntKind.i64 x)) (cut4 n c.toNat (by omega) (by omega) h3 h4 (by assumption) (by assumption)).1, by repeat (first | exact HBB.out | exact Below.refl _ _ | refine Below.drew ?_ | refine Below.setCell ?_ (by first | omega | (simp; done) | (simp; omega)) _ | refine Below.alloc ?_ (by first | omega | (simp; done) | (simp; omega)) _)⟩
    | exact ⟨congrArg (fun x => Ending.returned (Value.int IntKind.i64 x)) (cut4 n c.toNat (by omega) (by omega) h3 h4 (by assumption) (by assumption)).2, by repeat (first | exact HBB.out | exact Below.refl _ _ | refine Below.drew ?_ | refine Below.setCell ?_ (by first | omega | (simp; done) | (simp; omega)) _ | refine Below.alloc ?_ (by first | omega | (simp; done) | (simp; omega)) _)⟩

end Go.Proofs.YtnmifeiokhpcfaaDoor.re

namespace Go.Proofs.YtnmifeiokhpcfaaDoor.re
open Go.RowKit
set_option linter.unusedVariables false

theorem i64_in (x : Int) (h1 : -9223372036854775808 ≤ x) (h2 : x ≤ 9223372036854775807) : IntKind.i64.wrap x = x := by
  rw [IntKind.wrap_i64]
  omega

set_option maxRecDepth 100000 in
set_option maxHeartbeats 1600000 in
theorem rounded_z (e : Int) (w : World) :
    Calls Tryd.prog 73 #[realV 0 e] w fun r w' => r = .returned (realV 0 0) ∧ Below w.heap.size w w' := by
  go_enter Tryd.func73, Tryd.ntmps73
  go_wp2_with fail
  refine bodyPost_ret (v := realV 0 0) (by simp [results, Tryd.results73, go_sem]) rfl ⟨rfl, by repeat (first | exact HBB.out | exact Below.refl _ _ | refine Below.drew ?_ | refine Below.setCell ?_ (by first | omega | (simp; done) | (simp; omega)) _ | refine Below.alloc ?_ (by first | omega | (simp; done) | (simp; omega)) _)⟩

set_option maxRecDepth 100000 in
set_option maxHeartbeats 1600000 in
theorem rounded_p (m e L c mn : Int) (w : World) (h1 : 0 < m) (h2 : m ≤ 9223372036854775807) (h3 : -2000 ≤ e) (h4 : e ≤ 2000)
    (HL : Hid ((Lib.bitLen m.toNat : Int) = L)) (l1 : 1 ≤ L) (l2 : L ≤ 64) (hc : (if L - 24 < -150 - e then -150 - e else L - 24) = c)
    (HC : Hid (∀ w, Calls Tryd.prog 82 #[.int .u64 m, .int .i64 c] w fun r w' => r = .returned (.int .i64 mn) ∧ Below w.heap.size w w'))
    (m1 : 0 ≤ mn) (m2 : mn ≤ 16777216) (h6 : 0 ≤ e + c + 150) (h5 : mn + (e + c + 150) * 8388608 ≤ 2533359615) :
    Calls Tryd.prog 73 #[realV m e] w fun r w' => r = .returned (realV (aM (mn + (e + c + 150) * 8388608)) (aE (mn + (e + c + 150) * 8388608))) ∧ Below w.heap.size w w' := by
  have hmx : ∀ a b w, Sem.run Tryd.prog (Builtin.max_ #[3, 3] 3 #[.int .i64 a, .int .i64 b]) w = .ok (.int .i64 (if a < b then b else a)) w := fun a b w => by kernel_rfl
  have HW1 := Lib.hid (i64_in (L - 24) (by omega) (by omega))
  have HW2 := Lib.hid (i64_in (-150 - e) (by omega) (by omega))
  have B0 : ∀ o1 o2 : Obj, Below w.heap.size w ((w.alloc o1).alloc o2) := fun _ _ => by repeat (first | exact Below.refl _ _ | refine Below.alloc ?_ (by simp <;> omega) _)
  have HB0 := Lib.hid B0
  clear B0
  go_enter Tryd.func73, Tryd.ntmps73
  go_upto_region 6 with fail
  go_region_held3 (fun wx => wx.cell? ⟨w.heap.size, 0, none⟩ = some (.int .i64 m) ∧ wx.cell? ⟨w.heap.size, 1, none⟩ = some (.int .i64 e) ∧ wx.cell? ⟨w.heap.size + 1, 0, none⟩ = some (.int .i64 0) ∧ wx.cell? ⟨w.heap.size + 1, 1, none⟩ = some (.int .i64 0) ∧ wx.frozen? ⟨w.heap.size + 1, 0, none⟩ = false ∧ wx.frozen? ⟨w.heap.size + 1, 1, none⟩ = false ∧ w.heap.size < wx.heap.size ∧ w.heap.size + 1 < wx.heap.size ∧ Below w.heap.size w wx) (first | (go_keep; done) | ((try go_split_ands); (repeat' apply And.intro) <;> first | assumption | (go_simp; done) | (simp only [World.size_alloc, World.size_drew]; omega) | (exact (HB0.out _ _).drew) | (exact HB0.out _ _) | (exact carry hbq (by first | assumption | go_simp)) | (exact Nat.lt_of_lt_of_le (by first | assumption | (simp <;> omega)) hbq.size) | (simp <;> omega) | (exact Below.trans (by assumption) (hbq.mono (by first | omega | (simp <;> omega))))))
    (first
      | (go_at_call 81; ((with_reducible refine (Tryd.bits_Len64 m _ (by omega) (by omega)).mono ?_); rintro r wq ⟨rfl, rfl⟩; rw [HL.out]))
      | (rw [hmx, hc]))
  all_goals (rw [HW1.out, HW2.out, hc])
  all_goals (rename _ ∧ _ ∧ _ ∧ _ ∧ _ ∧ _ ∧ _ ∧ _ ∧ Below w.heap.size w _ => hS)
  all_goals (obtain ⟨c0, c1, r0, r1, f0, f1, z0, z1, hBq⟩ := hS)
  all_goals (have HBB := Lib.hid hBq)
  all_goals clear hBq
  all_goals go_wp2_with fail
  all_goals (refine (HC.out _).mono ?_; rintro r w2 ⟨rfl, hb2⟩)
  all_goals (
    have c00 : w2.cell? ⟨w.heap.size, 0, none⟩ = some (.int .i64 m) := carry hb2 (by first | assumption | go_simp)
    have c01 : w2.cell? ⟨w.heap.size, 1, none⟩ = some (.int .i64 e) := carry hb2 (by first | assumption | go_simp)
    have z0 : w.heap.size < w2.heap.size := by have := hb2.size; first | omega | (simp at this; omega)
    have f0 : w2.frozen? ⟨w.heap.size + 1, 0, none⟩ = false := carryF hb2 (v := .int .i64 0) (by first | assumption | go_simp) (by first | assumption | go_simp)
    have f1 : w2.frozen? ⟨w.heap.size + 1, 1, none⟩ = false := carryF hb2 (v := .int .i64 0) (by first | assumption | go_simp) (by first | assumption | go_simp)
    have r0 : w2.cell? ⟨w.heap.size + 1, 0, none⟩ = some (.int .i64 0) := carry hb2 (by first | assumption | go_simp)
    have r1 : w2.cell? ⟨w.heap.size + 1, 1, none⟩ = some (.int .i64 0) := carry hb2 (by first | assumption | go_simp)
    have HBB := Lib.hid ((by repeat (first | exact HBB.out | refine Below.setCell ?_ (by first | omega | (simp; done) | (simp; omega)) _ | refine Below.alloc ?_ (by first | omega | (simp; done) | (simp; omega)) _) : Below w.heap.size w _).trans (hb2.mono (by first | omega | (simp; done) | (simp; omega))))
    clear hb2)
  all_goals go_wp2_with fail
  all_goals (refine (realAt_any _ _ (by omega) (by omega)).mono ?_; rintro r w3 ⟨rfl, hb3⟩)
  all_goals (
    have f0 : w3.frozen? ⟨w.heap.size + 1, 0, none⟩ = false := carryF hb3 (v := .int .i64 0) (by first | assumption | go_simp) (by first | assumption | go_simp)
    have f1 : w3.frozen? ⟨w.heap.size + 1, 1, none⟩ = false := carryF hb3 (v := .int .i64 0) (by first | assumption | go_simp) (by first | assumption | go_simp)
    have r0 : w3.cell? ⟨w.heap.size + 1, 0, none⟩ = some (.int .i64 0) := carry hb3 (by first | assumption | go_simp)
    have r1 : w3.cell? ⟨w.heap.size + 1, 1, none⟩ = some (.int .i64 0) := carry hb3 (by first | assumption | go_simp)
    have HBB := Lib.hid ((by repeat (first | exact HBB.out | refine Below.setCell ?_ (by first | omega | (simp; done) | (simp; omega)) _ | refine Below.alloc ?_ (by first | omega | (simp; done) | (simp; omega)) _) : Below w.heap.size w _).trans (hb3.mono (by first | omega | (simp; done) | (simp; omega))))
    clear hb3)
  all_goals (generalize hm : aM _ = am; generalize he : aE _ = ae)
  all_goals (have HQ := Lib.hid (And.intro hm he))
  all_goals clear hm he
  all_goals go_wp2_with fail
  all_goals (refine bodyPost_ret (v := realV am ae) (by simp [results, Tryd.results73, go_sem, r0, r1]) rfl ⟨by rw [← HQ.out.1, ← HQ.out.2], by repeat (first | exact HBB.out | exact Below.refl _ _ | refine Below.drew ?_ | refine Below.setCell ?_ (by first | omega | (simp; done) | (simp; omega)) _ | refine Below.alloc ?_ (by first | omega | (simp; done) | (simp; omega)) _)⟩)

set_option maxRecDepth 100000 in
set_option maxHeartbeats 1600000 in
theorem rounded_n (a e L c mn : Int) (w : World) (h1 : 0 < a) (h2 : a ≤ 9223372036854775808) (h3 : -2000 ≤ e) (h4 : e ≤ 2000)
    (HL : Hid ((Lib.bitLen a.toNat : Int) = L)) (l1 : 1 ≤ L) (l2 : L ≤ 64) (hc : (if L - 24 < -150 - e then -150 - e else L - 24) = c)
    (HC : Hid (∀ w, Calls Tryd.prog 82 #[(.int .u64 a), .int .i64 c] w fun r w' => r = .returned (.int .i64 mn) ∧ Below w.heap.size w w'))
    (m1 : 0 ≤ mn) (m2 : mn ≤ 16777216) (h6 : 0 ≤ e + c + 150) (h5 : mn + (e + c + 150) * 8388608 ≤ 2533359615) :
    Calls Tryd.prog 73 #[realV (-a) e] w fun r w' => r = .returned (realV (aM (-(mn + (e + c + 150) * 8388608))) (aE (-(mn + (e + c + 150) * 8388608)))) ∧ Below w.heap.size w w' := by
  have hmx : ∀ a b w, Sem.run Tryd.prog (Builtin.max_ #[3, 3] 3 #[.int .i64 a, .int .i64 b]) w = .ok (.int .i64 (if a < b then b else a)) w := fun a b w => by kernel_rfl
  have HU := Lib.hid (show IntKind.u64.wrap (-(IntKind.u64.wrap (-a))) = a from by rw [IntKind.wrap_u64, IntKind.wrap_u64]; omega)
  have HW1 := Lib.hid (i64_in (L - 24) (by omega) (by omega))
  have HW2 := Lib.hid (i64_in (-150 - e) (by omega) (by omega))
  have B0 : ∀ o1 o2 : Obj, Below w.heap.size w ((w.alloc o1).alloc o2) := fun _ _ => by repeat (first | exact Below.refl _ _ | refine Below.alloc ?_ (by simp <;> omega) _)
  have HB0 := Lib.hid B0
  clear B0
  go_enter Tryd.func73, Tryd.ntmps73
  go_upto_region 6 with fail
  try rw [HU.out]
  go_region_held3 (fun wx => wx.cell? ⟨w.heap.size, 0, none⟩ = some (.int .i64 (-a)) ∧ wx.cell? ⟨w.heap.size, 1, none⟩ = some (.int .i64 e) ∧ wx.cell? ⟨w.heap.size + 1, 0, none⟩ = some (.int .i64 0) ∧ wx.cell? ⟨w.heap.size + 1, 1, none⟩ = some (.int .i64 0) ∧ wx.frozen? ⟨w.heap.size + 1, 0, none⟩ = false ∧ wx.frozen? ⟨w.heap.size + 1, 1, none⟩ = false ∧ w.heap.size < wx.heap.size ∧ w.heap.size + 1 < wx.heap.size ∧ Below w.heap.size w wx) (first | (go_keep; done) | ((try go_split_ands); (repeat' apply And.intro) <;> first | assumption | (go_simp; done) | (simp only [World.size_alloc, World.size_drew]; omega) | (exact (HB0.out _ _).drew) | (exact HB0.out _ _) | (exact carry hbq (by first | assumption | go_simp)) | (exact Nat.lt_of_lt_of_le (by first | assumption | (simp <;> omega)) hbq.size) | (simp <;> omega) | (exact Below.trans (by assumption) (hbq.mono (by first | omega | (simp <;> omega))))))
    (first
      | (go_at_call 81; ((with_reducible refine (Tryd.bits_Len64 a _ (by omega) (by omega)).mono ?_); rintro r wq ⟨rfl, rfl⟩; rw [HL.out]))
      | (rw [hmx, hc]))
  all_goals (rw [HW1.out, HW2.out, hc])
  all_goals (rename _ ∧ _ ∧ _ ∧ _ ∧ _ ∧ _ ∧ _ ∧ _ ∧ Below w.heap.size w _ => hS)
  all_goals (obtain ⟨c0, c1, r0, r1, f0, f1, z0, z1, hBq⟩ := hS)
  all_goals (have HBB := Lib.hid hBq)
  all_goals clear hBq
  all_goals go_wp2_with fail
  all_goals (refine (HC.out _).mono ?_; rintro r w2 ⟨rfl, hb2⟩)
  all_goals (
    have c00 : w2.cell? ⟨w.heap.size, 0, none⟩ = some (.int .i64 (-a)) := carry hb2 (by first | assumption | go_simp)
    have c01 : w2.cell? ⟨w.heap.size, 1, none⟩ = some (.int .i64 e) := carry hb2 (by first | assumption | go_simp)
    have z0 : w.heap.size < w2.heap.size := by have := hb2.size; first | omega | (simp at this; omega)
    have f0 : w2.frozen? ⟨w.heap.size + 1, 0, none⟩ = false := carryF hb2 (v := .int .i64 0) (by first | assumption | go_simp) (by first | assumption | go_simp)
    have f1 : w2.frozen? ⟨w.heap.size + 1, 1, none⟩ = false := carryF hb2 (v := .int .i64 0) (by first | assumption | go_simp) (by first | assumption | go_simp)
    have r0 : w2.cell? ⟨w.heap.size + 1, 0, none⟩ = some (.int .i64 0) := carry hb2 (by first | assumption | go_simp)
    have r1 : w2.cell? ⟨w.heap.size + 1, 1, none⟩ = some (.int .i64 0) := carry hb2 (by first | assumption | go_simp)
    have HBB := Lib.hid ((by repeat (first | exact HBB.out | refine Below.setCell ?_ (by first | omega | (simp; done) | (simp; omega)) _ | refine Below.alloc ?_ (by first | omega | (simp; done) | (simp; omega)) _) : Below w.heap.size w _).trans (hb2.mono (by first | omega | (simp; done) | (simp; omega))))
    clear hb2)
  all_goals go_wp2_with fail
  all_goals (refine (realAt_any _ _ (by omega) (by omega)).mono ?_; rintro r w3 ⟨rfl, hb3⟩)
  all_goals (
    have f0 : w3.frozen? ⟨w.heap.size + 1, 0, none⟩ = false := carryF hb3 (v := .int .i64 0) (by first | assumption | go_simp) (by first | assumption | go_simp)
    have f1 : w3.frozen? ⟨w.heap.size + 1, 1, none⟩ = false := carryF hb3 (v := .int .i64 0) (by first | assumption | go_simp) (by first | assumption | go_simp)
    have r0 : w3.cell? ⟨w.heap.size + 1, 0, none⟩ = some (.int .i64 0) := carry hb3 (by first | assumption | go_simp)
    have r1 : w3.cell? ⟨w.heap.size + 1, 1, none⟩ = some (.int .i64 0) := carry hb3 (by first | assumption | go_simp)
    have HBB := Lib.hid ((by repeat (first | exact HBB.out | refine Below.setCell ?_ (by first | omega | (simp; done) | (simp; omega)) _ | refine Below.alloc ?_ (by first | omega | (simp; done) | (simp; omega)) _) : Below w.heap.size w _).trans (hb3.mono (by first | omega | (simp; done) | (simp; omega))))
    clear hb3)
  all_goals (generalize hm : aM _ = am; generalize he : aE _ = ae)
  all_goals (have HQ := Lib.hid (And.intro hm he))
  all_goals clear hm he
  all_goals go_wp2_with fail
  all_goals (refine bodyPost_ret (v := realV am ae) (by simp [results, Tryd.results73, go_sem, r0, r1]) rfl ⟨by rw [← HQ.out.1, ← HQ.out.2], by repeat (first | exact HBB.out | exact Below.refl _ _ | refine Below.drew ?_ | refine Below.setCell ?_ (by first | omega | (simp; done) | (simp; omega)) _ | refine Below.alloc ?_ (by first | omega | (simp; done) | (simp; omega)) _)⟩)

end Go.Proofs.YtnmifeiokhpcfaaDoor.re

namespace Go.Proofs.YtnmifeiokhpcfaaDoor.re
open Go.RowKit
set_option linter.unusedVariables false

set_option maxRecDepth 100000 in
set_option maxHeartbeats 1600000 in
theorem rounded_po (m e L c mn : Int) (w : World) (h1 : 0 < m) (h2 : m ≤ 9223372036854775807) (h3 : -2000 ≤ e) (h4 : e ≤ 2000)
    (HL : Hid ((Lib.bitLen m.toNat : Int) = L)) (l1 : 1 ≤ L) (l2 : L ≤ 64) (hc : (if L - 24 < -150 - e then -150 - e else L - 24) = c)
    (HC : Hid (∀ w, Calls Tryd.prog 82 #[.int .u64 m, .int .i64 c] w fun r w' => r = .returned (.int .i64 mn) ∧ Below w.heap.size w w'))
    (m1 : 0 ≤ mn) (m2 : mn ≤ 16777216) (h6 : 0 ≤ e + c + 150) (h7 : e + c + 150 ≤ 4000) (h5 : 2533359615 < mn + (e + c + 150) * 8388608) :
    Calls Tryd.prog 73 #[realV m e] w fun r w' => r = .panicked [{ v := .iface 24 (.int .i64 3), recovered := false }] ∧ Below w.heap.size w w' := by
  have hmx : ∀ a b w, Sem.run Tryd.prog (Builtin.max_ #[3, 3] 3 #[.int .i64 a, .int .i64 b]) w = .ok (.int .i64 (if a < b then b else a)) w := fun a b w => by kernel_rfl
  have HW1 := Lib.hid (i64_in (L - 24) (by omega) (by omega))
  have HW2 := Lib.hid (i64_in (-150 - e) (by omega) (by omega))
  have B0 : ∀ o1 o2 : Obj, Below w.heap.size w ((w.alloc o1).alloc o2) := fun _ _ => by repeat (first | exact Below.refl _ _ | refine Below.alloc ?_ (by simp <;> omega) _)
  have HB0 := Lib.hid B0
  clear B0
  go_enter Tryd.func73, Tryd.ntmps73
  go_upto_region 6 with fail
  go_region_held3 (fun wx => wx.cell? ⟨w.heap.size, 0, none⟩ = some (.int .i64 m) ∧ wx.cell? ⟨w.heap.size, 1, none⟩ = some (.int .i64 e) ∧ wx.cell? ⟨w.heap.size + 1, 0, none⟩ = some (.int .i64 0) ∧ wx.cell? ⟨w.heap.size + 1, 1, none⟩ = some (.int .i64 0) ∧ wx.frozen? ⟨w.heap.size + 1, 0, none⟩ = false ∧ wx.frozen? ⟨w.heap.size + 1, 1, none⟩ = false ∧ w.heap.size < wx.heap.size ∧ w.heap.size + 1 < wx.heap.size ∧ Below w.heap.size w wx) (first | (go_keep; done) | ((try go_split_ands); (repeat' apply And.intro) <;> first | assumption | (go_simp; done) | (simp only [World.size_alloc, World.size_drew]; omega) | (exact (HB0.out _ _).drew) | (exact HB0.out _ _) | (exact carry hbq (by first | assumption | go_simp)) | (exact Nat.lt_of_lt_of_le (by first | assumption | (simp <;> omega)) hbq.size) | (simp <;> omega) | (exact Below.trans (by assumption) (hbq.mono (by first | omega | (simp <;> omega))))))
    (first
      | (go_at_call 81; ((with_reducible refine (Tryd.bits_Len64 m _ (by omega) (by omega)).mono ?_); rintro r wq ⟨rfl, rfl⟩; rw [HL.out]))
      | (rw [hmx, hc]))
  all_goals (rw [HW1.out, HW2.out, hc])
  all_goals (rename _ ∧ _ ∧ _ ∧ _ ∧ _ ∧ _ ∧ _ ∧ _ ∧ Below w.heap.size w _ => hS)
  all_goals (obtain ⟨c0, c1, r0, r1, f0, f1, z0, z1, hBq⟩ := hS)
  all_goals (have HBB := Lib.hid hBq)
  all_goals clear hBq
  all_goals go_wp2_with fail
  all_goals (refine (HC.out _).mono ?_; rintro r w2 ⟨rfl, hb2⟩)
  all_goals (
    have c00 : w2.cell? ⟨w.heap.size, 0, none⟩ = some (.int .i64 m) := carry hb2 (by first | assumption | go_simp)
    have c01 : w2.cell? ⟨w.heap.size, 1, none⟩ = some (.int .i64 e) := carry hb2 (by first | assumption | go_simp)
    have z0 : w.heap.size < w2.heap.size := by have := hb2.size; first | omega | (simp at this; omega)
    have f0 : w2.frozen? ⟨w.heap.size + 1, 0, none⟩ = false := carryF hb2 (v := .int .i64 0) (by first | assumption | go_simp) (by first | assumption | go_simp)
    have f1 : w2.frozen? ⟨w.heap.size + 1, 1, none⟩ = false := carryF hb2 (v := .int .i64 0) (by first | assumption | go_simp) (by first | assumption | go_simp)
    have r0 : w2.cell? ⟨w.heap.size + 1, 0, none⟩ = some (.int .i64 0) := carry hb2 (by first | assumption | go_simp)
    have r1 : w2.cell? ⟨w.heap.size + 1, 1, none⟩ = some (.int .i64 0) := carry hb2 (by first | assumption | go_simp)
    have HBB := Lib.hid ((by repeat (first | exact HBB.out | refine Below.setCell ?_ (by first | omega | (simp; done) | (simp; omega)) _ | refine Below.alloc ?_ (by first | omega | (simp; done) | (simp; omega)) _) : Below w.heap.size w _).trans (hb2.mono (by first | omega | (simp; done) | (simp; omega))))
    clear hb2)
  all_goals go_wp2_with fail
  all_goals first
    | exact ⟨rfl, HBB.out⟩
    | (show _ ∧ _; exact ⟨rfl, HBB.out⟩)
    | (simp [bodyPost]; exact HBB.out)

set_option maxRecDepth 100000 in
set_option maxHeartbeats 1600000 in
theorem rounded_no (a e L c mn : Int) (w : World) (h1 : 0 < a) (h2 : a ≤ 9223372036854775808) (h3 : -2000 ≤ e) (h4 : e ≤ 2000)
    (HL : Hid ((Lib.bitLen a.toNat : Int) = L)) (l1 : 1 ≤ L) (l2 : L ≤ 64) (hc : (if L - 24 < -150 - e then -150 - e else L - 24) = c)
    (HC : Hid (∀ w, Calls Tryd.prog 82 #[(.int .u64 a), .int .i64 c] w fun r w' => r = .returned (.int .i64 mn) ∧ Below w.heap.size w w'))
    (m1 : 0 ≤ mn) (m2 : mn ≤ 16777216) (h6 : 0 ≤ e + c + 150) (h7 : e + c + 150 ≤ 4000) (h5 : 2533359615 < mn + (e + c + 150) * 8388608) :
    Calls Tryd.prog 73 #[realV (-a) e] w fun r w' => r = .panicked [{ v := .iface 24 (.int .i64 3), recovered := false }] ∧ Below w.heap.size w w' := by
  have hmx : ∀ a b w, Sem.run Tryd.prog (Builtin.max_ #[3, 3] 3 #[.int .i64 a, .int .i64 b]) w = .ok (.int .i64 (if a < b then b else a)) w := fun a b w => by kernel_rfl
  have HU := Lib.hid (show IntKind.u64.wrap (-(IntKind.u64.wrap (-a))) = a from by rw [IntKind.wrap_u64, IntKind.wrap_u64]; omega)
  have HW1 := Lib.hid (i64_in (L - 24) (by omega) (by omega))
  have HW2 := Lib.hid (i64_in (-150 - e) (by omega) (by omega))
  have B0 : ∀ o1 o2 : Obj, Below w.heap.size w ((w.alloc o1).alloc o2) := fun _ _ => by repeat (first | exact Below.refl _ _ | refine Below.alloc ?_ (by simp <;> omega) _)
  have HB0 := Lib.hid B0
  clear B0
  go_enter Tryd.func73, Tryd.ntmps73
  go_upto_region 6 with fail
  try rw [HU.out]
  go_region_held3 (fun wx => wx.cell? ⟨w.heap.size, 0, none⟩ = some (.int .i64 (-a)) ∧ wx.cell? ⟨w.heap.size, 1, none⟩ = some (.int .i64 e) ∧ wx.cell? ⟨w.heap.size + 1, 0, none⟩ = some (.int .i64 0) ∧ wx.cell? ⟨w.heap.size + 1, 1, none⟩ = some (.int .i64 0) ∧ wx.frozen? ⟨w.heap.size + 1, 0, none⟩ = false ∧ wx.frozen? ⟨w.heap.size + 1, 1, none⟩ = false ∧ w.heap.size < wx.heap.size ∧ w.heap.size + 1 < wx.heap.size ∧ Below w.heap.size w wx) (first | (go_keep; done) | ((try go_split_ands); (repeat' apply And.intro) <;> first | assumption | (go_simp; done) | (simp only [World.size_alloc, World.size_drew]; omega) | (exact (HB0.out _ _).drew) | (exact HB0.out _ _) | (exact carry hbq (by first | assumption | go_simp)) | (exact Nat.lt_of_lt_of_le (by first | assumption | (simp <;> omega)) hbq.size) | (simp <;> omega) | (exact Below.trans (by assumption) (hbq.mono (by first | omega | (simp <;> omega))))))
    (first
      | (go_at_call 81; ((with_reducible refine (Tryd.bits_Len64 a _ (by omega) (by omega)).mono ?_); rintro r wq ⟨rfl, rfl⟩; rw [HL.out]))
      | (rw [hmx, hc]))
  all_goals (rw [HW1.out, HW2.out, hc])
  all_goals (rename _ ∧ _ ∧ _ ∧ _ ∧ _ ∧ _ ∧ _ ∧ _ ∧ Below w.heap.size w _ => hS)
  all_goals (obtain ⟨c0, c1, r0, r1, f0, f1, z0, z1, hBq⟩ := hS)
  all_goals (have HBB := Lib.hid hBq)
  all_goals clear hBq
  all_goals go_wp2_with fail
  all_goals (refine (HC.out _).mono ?_; rintro r w2 ⟨rfl, hb2⟩)
  all_goals (
    have c00 : w2.cell? ⟨w.heap.size, 0, none⟩ = some (.int .i64 (-a)) := carry hb2 (by first | assumption | go_simp)
    have c01 : w2.cell? ⟨w.heap.size, 1, none⟩ = some (.int .i64 e) := carry hb2 (by first | assumption | go_simp)
    have z0 : w.heap.size < w2.heap.size := by have := hb2.size; first | omega | (simp at this; omega)
    have f0 : w2.frozen? ⟨w.heap.size + 1, 0, none⟩ = false := carryF hb2 (v := .int .i64 0) (by first | assumption | go_simp) (by first | assumption | go_simp)
    have f1 : w2.frozen? ⟨w.heap.size + 1, 1, none⟩ = false := carryF hb2 (v := .int .i64 0) (by first | assumption | go_simp) (by first | assumption | go_simp)
    have r0 : w2.cell? ⟨w.heap.size + 1, 0, none⟩ = some (.int .i64 0) := carry hb2 (by first | assumption | go_simp)
    have r1 : w2.cell? ⟨w.heap.size + 1, 1, none⟩ = some (.int .i64 0) := carry hb2 (by first | assumption | go_simp)
    have HBB := Lib.hid ((by repeat (first | exact HBB.out | refine Below.setCell ?_ (by first | omega | (simp; done) | (simp; omega)) _ | refine Below.alloc ?_ (by first | omega | (simp; done) | (simp; omega)) _) : Below w.heap.size w _).trans (hb2.mono (by first | omega | (simp; done) | (simp; omega))))
    clear hb2)
  all_goals go_wp2_with fail
  all_goals first
    | exact ⟨rfl, HBB.out⟩
    | (show _ ∧ _; exact ⟨rfl, HBB.out⟩)
    | (simp [bodyPost]; exact HBB.out)

end Go.Proofs.YtnmifeiokhpcfaaDoor.re

namespace Go.Proofs.YtnmifeiokhpcfaaDoor.re
open Go.RowKit
set_option linter.unusedVariables false

theorem bl_bd (a : Int) (h1 : 0 < a) (h2 : a ≤ 9223372036854775808) : 1 ≤ Lib.bitLen a.toNat ∧ Lib.bitLen a.toNat ≤ 64 ∧ (2 : Int) ^ (Lib.bitLen a.toNat - 1) ≤ a ∧ a < 2 ^ (Lib.bitLen a.toNat) := by
  obtain ⟨n, rfl⟩ : ∃ n : Nat, a = n := ⟨a.toNat, by omega⟩
  have h := Lib.bitLenAux_bounds 64 n (by omega) (by omega)
  simp only [Int.toNat_natCast]
  refine ⟨h.1, Lib.bitLen_le n 64 (by omega) (by omega), ?_, ?_⟩
  · exact_mod_cast h.2.1
  · exact_mod_cast h.2.2

theorem pow_mono (i j : Nat) (h : i ≤ j) : (2 : Int) ^ i ≤ 2 ^ j := by
  have := Int.ofNat_le.2 (Nat.pow_le_pow_right (n := 2) (by omega) h)
  exact_mod_cast this

theorem pow_pos (i : Nat) : (0 : Int) < 2 ^ i := by
  have := Int.ofNat_lt.2 (Nat.pow_pos (n := i) (show 0 < 2 by omega))
  exact_mod_cast this

theorem quo_lt (a : Int) (k L : Nat) (hL : a < 2 ^ L) (hk : L ≤ k + 24) : a / 2 ^ k < 16777216 := by
  apply Int.ediv_lt_of_lt_mul (pow_pos k)
  have h := pow_mono L (k + 24) hk
  rw [Int.pow_add] at h
  omega

theorem cutV_bd (a : Int) (k L : Nat) (h0 : 0 ≤ a) (hL : a < 2 ^ L) (hk : L ≤ k + 24) : 0 ≤ cutV a k ∧ cutV a k ≤ 16777216 := by
  have h1 := quo_lt a k L hL hk
  have h2 : 0 ≤ a / 2 ^ k := Int.ediv_nonneg h0 (Int.le_of_lt (pow_pos k))
  unfold cutV
  split <;> omega

theorem shl_bd (a : Int) (j L : Nat) (h0 : 0 ≤ a) (hL : a < 2 ^ L) (hk : L + j ≤ 24) : 0 ≤ a * 2 ^ j ∧ a * 2 ^ j ≤ 16777216 := by
  refine ⟨Int.mul_nonneg h0 (Int.le_of_lt (pow_pos j)), ?_⟩
  have h1 : a * 2 ^ j < 2 ^ L * 2 ^ j := Int.mul_lt_mul_of_pos_right hL (pow_pos j)
  rw [← Int.pow_add] at h1
  have h := pow_mono (L + j) 24 hk
  omega

/-- where a number is cut: at its 24th bit, or at the least exponent -/
def cF (a e : Int) : Int := if (Lib.bitLen a.toNat : Int) - 24 < -150 - e then -150 - e else (Lib.bitLen a.toNat : Int) - 24

def cutF (n c : Int) : Int := if c ≤ 0 then n * 2 ^ (-c).toNat else if 63 < c then 0 else cutV n c.toNat

def riF (a e : Int) : Int := cutF a (cF a e) + (e + cF a e + 150) * 8388608

def rI (m e : Int) : Int := if m = 0 then 0 else if m < 0 then -riF (-m) e else riF m e

def rOk (m e : Int) : Bool := decide (-2533359615 ≤ rI m e ∧ rI m e ≤ 2533359615)

theorem cF_bd (a e : Int) (h1 : 0 < a) (h2 : a ≤ 9223372036854775808) (h3 : -2000 ≤ e) (h4 : e ≤ 2000) :
    -23 ≤ cF a e ∧ cF a e ≤ 1850 ∧ 0 ≤ e + cF a e + 150 ∧ e + cF a e + 150 ≤ 4000 ∧ (Lib.bitLen a.toNat : Int) ≤ cF a e + 24 := by
  obtain ⟨k1, k2, _, _⟩ := bl_bd a h1 h2
  unfold cF
  split <;> omega

theorem cutF_bd (a e : Int) (h1 : 0 < a) (h2 : a ≤ 9223372036854775808) (h3 : -2000 ≤ e) (h4 : e ≤ 2000) :
    0 ≤ cutF a (cF a e) ∧ cutF a (cF a e) ≤ 16777216 := by
  obtain ⟨k1, k2, k3, k4⟩ := bl_bd a h1 h2
  obtain ⟨c1, c2, c3, c4, c5⟩ := cF_bd a e h1 h2 h3 h4
  generalize cF a e = c at *
  unfold cutF
  split
  · exact shl_bd a _ _ (by omega) k4 (by omega)
  · split
    · omega
    · exact cutV_bd a _ _ (by omega) k4 (by omega)

theorem riF_nn (a e : Int) (h1 : 0 < a) (h2 : a ≤ 9223372036854775808) (h3 : -2000 ≤ e) (h4 : e ≤ 2000) : 0 ≤ riF a e := by
  obtain ⟨c1, c2, c3, c4, c5⟩ := cF_bd a e h1 h2 h3 h4
  obtain ⟨d1, d2⟩ := cutF_bd a e h1 h2 h3 h4
  unfold riF
  omega

theorem cut_any (n c p : Int) (w : World) (hp : cutF n c = p) (h2 : -1000 ≤ c) (h3 : 0 ≤ n) (h4 : n ≤ 9223372036854775808) (h5 : 0 ≤ p) (h6 : p ≤ 16777216) :
    Calls Tryd.prog 82 #[.int .u64 n, .int .i64 c] w fun r w' => r = .returned (.int .i64 p) ∧ Below w.heap.size w w' := by
  subst hp
  unfold cutF at *
  split at h5 <;> rename_i hc
  · exact cut_lo n c _ w hc h2 h3 rfl (by rw [if_pos hc] at h6; exact h6) h5 |> fun h => by rw [if_pos hc]; exact h
  · rw [if_neg hc] at h6 ⊢
    split <;> rename_i hd
    · exact cut_hi n c w hd
    · exact cut_mid n c w (by omega) (by omega) h3 h4

theorem rounded_pos (m e : Int) (w : World) (h1 : 0 < m) (h2 : m ≤ 9223372036854775807) (h3 : -2000 ≤ e) (h4 : e ≤ 2000) (h5 : riF m e ≤ 2533359615) :
    Calls Tryd.prog 73 #[realV m e] w fun r w' => r = .returned (realV (aM (riF m e)) (aE (riF m e))) ∧ Below w.heap.size w w' := by
  obtain ⟨k1, k2, k3, k4⟩ := bl_bd m h1 (by omega)
  obtain ⟨c1, c2, c3, c4, c5⟩ := cF_bd m e h1 (by omega) h3 h4
  obtain ⟨d1, d2⟩ := cutF_bd m e h1 (by omega) h3 h4
  exact rounded_p m e _ _ _ w h1 h2 h3 h4 (Lib.hid rfl) (by omega) (by omega) (show _ = cF m e from rfl) (Lib.hid fun w => cut_any m _ _ w rfl (by omega) (by omega) (by omega) d1 d2) d1 d2 c3 h5

theorem rounded_neg (a e : Int) (w : World) (h1 : 0 < a) (h2 : a ≤ 9223372036854775808) (h3 : -2000 ≤ e) (h4 : e ≤ 2000) (h5 : riF a e ≤ 2533359615) :
    Calls Tryd.prog 73 #[realV (-a) e] w fun r w' => r = .returned (realV (aM (-riF a e)) (aE (-riF a e))) ∧ Below w.heap.size w w' := by
  obtain ⟨k1, k2, k3, k4⟩ := bl_bd a h1 h2
  obtain ⟨c1, c2, c3, c4, c5⟩ := cF_bd a e h1 h2 h3 h4
  obtain ⟨d1, d2⟩ := cutF_bd a e h1 h2 h3 h4
  exact rounded_n a e _ _ _ w h1 h2 h3 h4 (Lib.hid rfl) (by omega) (by omega) (show _ = cF a e from rfl) (Lib.hid fun w => cut_any a _ _ w rfl (by omega) (by omega) (by omega) d1 d2) d1 d2 c3 h5

theorem rounded_pos_o (m e : Int) (w : World) (h1 : 0 < m) (h2 : m ≤ 9223372036854775807) (h3 : -2000 ≤ e) (h4 : e ≤ 2000) (h5 : 2533359615 < riF m e) :
    Calls Tryd.prog 73 #[realV m e] w fun r w' => r = .panicked [{ v := .iface 24 (.int .i64 3), recovered := false }] ∧ Below w.heap.size w w' := by
  obtain ⟨k1, k2, k3, k4⟩ := bl_bd m h1 (by omega)
  obtain ⟨c1, c2, c3, c4, c5⟩ := cF_bd m e h1 (by omega) h3 h4
  obtain ⟨d1, d2⟩ := cutF_bd m e h1 (by omega) h3 h4
  exact rounded_po m e _ _ _ w h1 h2 h3 h4 (Lib.hid rfl) (by omega) (by omega) (show _ = cF m e from rfl) (Lib.hid fun w => cut_any m _ _ w rfl (by omega) (by omega) (by omega) d1 d2) d1 d2 c3 c4 h5

theorem rounded_neg_o (a e : Int) (w : World) (h1 : 0 < a) (h2 : a ≤ 9223372036854775808) (h3 : -2000 ≤ e) (h4 : e ≤ 2000) (h5 : 2533359615 < riF a e) :
    Calls Tryd.prog 73 #[realV (-a) e] w fun r w' => r = .panicked [{ v := .iface 24 (.int .i64 3), recovered := false }] ∧ Below w.heap.size w w' := by
  obtain ⟨k1, k2, k3, k4⟩ := bl_bd a h1 h2
  obtain ⟨c1, c2, c3, c4, c5⟩ := cF_bd a e h1 h2 h3 h4
  obtain ⟨d1, d2⟩ := cutF_bd a e h1 h2 h3 h4
  exact rounded_no a e _ _ _ w h1 h2 h3 h4 (Lib.hid rfl) (by omega) (by omega) (show _ = cF a e from rfl) (Lib.hid fun w => cut_any a _ _ w rfl (by omega) (by omega) (by omega) d1 d2) d1 d2 c3 c4 h5

theorem rounded_ok (m e : Int) (w : World) (h1 : -9223372036854775808 ≤ m) (h2 : m ≤ 9223372036854775807) (h3 : -2000 ≤ e) (h4 : e ≤ 2000) (h5 : rOk m e = true) :
    Calls Tryd.prog 73 #[realV m e] w fun r w' => r = .returned (realV (aM (rI m e)) (aE (rI m e))) ∧ Below w.heap.size w w' := by
  have k := of_decide_eq_true h5
  unfold rI at *
  by_cases hz : m = 0
  · subst hz
    exact rounded_z e w
  · rw [if_neg hz] at k ⊢
    by_cases hn : m < 0
    · rw [if_pos hn] at k ⊢
      have := rounded_neg (-m) e w (by omega) (by omega) h3 h4 (by omega)
      rwa [Int.neg_neg] at this
    · rw [if_neg hn] at k ⊢
      exact rounded_pos m e w (by omega) h2 h3 h4 k.2

theorem rounded_over (m e : Int) (w : World) (h1 : -9223372036854775808 ≤ m) (h2 : m ≤ 9223372036854775807) (h3 : -2000 ≤ e) (h4 : e ≤ 2000) (h5 : rOk m e = false) :
    Calls Tryd.prog 73 #[realV m e] w fun r w' => r = .panicked [{ v := .iface 24 (.int .i64 3), recovered := false }] ∧ Below w.heap.size w w' := by
  have k := of_decide_eq_false h5
  unfold rI at *
  by_cases hz : m = 0
  · subst hz
    exact absurd (by simp) k
  · rw [if_neg hz] at k
    by_cases hn : m < 0
    · rw [if_pos hn] at k
      have n0 := riF_nn (-m) e (by omega) (by omega) h3 h4
      have := rounded_neg_o (-m) e w (by omega) (by omega) h3 h4 (by omega)
      rwa [Int.neg_neg] at this
    · rw [if_neg hn] at k
      have n0 := riF_nn m e (by omega) (by omega) h3 h4
      exact rounded_pos_o m e w (by omega) h2 h3 h4 (by omega)

theorem rOk_int (n : Int) (h1 : -9223372036854775808 ≤ n) (h2 : n ≤ 9223372036854775807) : rOk n 0 = true := by
  apply decide_eq_true
  unfold rI
  by_cases hz : n = 0
  · rw [if_pos hz]
    omega
  · rw [if_neg hz]
    by_cases hn : n < 0
    · rw [if_pos hn]
      obtain ⟨k1, k2, k3, k4⟩ := bl_bd (-n) (by omega) (by omega)
      obtain ⟨d1, d2⟩ := cutF_bd (-n) 0 (by omega) (by omega) (by omega) (by omega)
      have c : cF (-n) 0 ≤ 40 := by
        unfold cF
        split <;> omega
      have := riF_nn (-n) 0 (by omega) (by omega) (by omega) (by omega)
      unfold riF at *
      omega
    · rw [if_neg hn]
      obtain ⟨k1, k2, k3, k4⟩ := bl_bd n (by omega) (by omega)
      obtain ⟨d1, d2⟩ := cutF_bd n 0 (by omega) (by omega) (by omega) (by omega)
      have c : cF n 0 ≤ 40 := by
        unfold cF
        split <;> omega
      have := riF_nn n 0 (by omega) (by omega) (by omega) (by omega)
      unfold riF at *
      omega

end Go.Proofs.YtnmifeiokhpcfaaDoor.re

namespace Go.Proofs.YtnmifeiokhpcfaaDoor.re
open Go.RowKit
set_option linter.unusedVariables false

end Go.Proofs.YtnmifeiokhpcfaaDoor.re

namespace Go.Proofs.YtnmifeiokhpcfaaDoor.re
open Go.RowKit
set_option linter.unusedVariables false

def smM (m e k f : Int) : Int := if m = 0 ∧ e = 0 then k else if k = 0 ∧ f = 0 then m else if e < f then (if 38 < f - e then k else k * 2 ^ (f - e).toNat + m) else if 38 < e - f then m else m * 2 ^ (e - f).toNat + k

def smE (m e k f : Int) : Int := if m = 0 ∧ e = 0 then f else if k = 0 ∧ f = 0 then e else if e < f then (if 38 < f - e then f else e) else if 38 < e - f then e else f

theorem smM_bd (m e k f : Int) (m1 : -16777216 ≤ m) (m2 : m ≤ 16777216) (k1 : -16777216 ≤ k) (k2 : k ≤ 16777216) : -4611686018444165120 ≤ smM m e k f ∧ smM m e k f ≤ 4611686018444165120 := by
  unfold smM
  split
  · omega
  · split
    · omega
    · split
      · split
        · omega
        · have := mul_bd k (2 ^ (f - e).toNat) k1 k2 (pow_le _ (by omega))
          omega
      · split
        · omega
        · have := mul_bd m (2 ^ (e - f).toNat) m1 m2 (pow_le _ (by omega))
          omega

theorem smE_bd (m e k f : Int) : smE m e k f = e ∨ smE m e k f = f := by
  unfold smE
  (repeat' split) <;> simp

def qsg (m k q : Int) : Int := if decide (m < 0) = decide (k < 0) then q else -q

theorem qsg_eq {m k q : Int} (h : (!decide (m < 0) == decide (k < 0)) = false) : qsg m k q = q := by
  unfold qsg
  rw [if_pos]
  cases h1 : decide (m < 0) <;> cases h2 : decide (k < 0) <;> simp_all

theorem qsg_ne {m k q : Int} (h : (!decide (m < 0) == decide (k < 0)) = true) : qsg m k q = -q := by
  unfold qsg
  rw [if_neg]
  cases h1 : decide (m < 0) <;> cases h2 : decide (k < 0) <;> simp_all

def stk (m : Int) (t : Bool) : Int := if t then 2 * m + 1 else 2 * m

theorem stk_bd (m : Int) (t : Bool) : stk m t = 2 * m + 1 ∨ stk m t = 2 * m := by
  unfold stk
  split <;> simp

theorem sticky_any (m : Int) (t : Bool) (w : World) (h1 : -4611686018427387904 ≤ m) (h2 : m ≤ 4611686018427387903) :
    Calls Tryd.prog 95 #[.int .i64 m, .bool t] w fun r w' => r = .returned (.int .i64 (stk m t)) ∧ Below w.heap.size w w' := by
  cases t
  · exact sticky_false m w h1 h2
  · exact sticky_true m w h1 h2

end Go.Proofs.YtnmifeiokhpcfaaDoor.re

namespace Go.Proofs.YtnmifeiokhpcfaaDoor.re
open Go.RowKit
set_option linter.unusedVariables false

set_option maxRecDepth 100000 in
theorem catch_idle (p q : Addr) (w : World) :
    CallsD Tryd.prog 72 #[.pointer (some p), .pointer (some q)] .returning w fun e u' w' => e = .returned (.tuple #[]) ∧ u' = .returning ∧ w' = w := by
  refine callsD_of_wpS Tryd.func72 rfl fun c₀ cs hu => ?_
  apply wpS_seq
  apply wpS_region
  simp [wpOpsS, go_sem, recoverD, hu, Tryd.ntmps72, Exit.thenS]
  apply wpS_seq
  apply wpS_region
  simp [wpOpsS, go_sem, Exit.thenS]
  refine wpS_cond (t := false) (by simp [Act.eval]) ?_
  simp only [Bool.false_eq_true, if_false]
  refine wpS_of_wp (wp_skip ?_)
  cases c₀
  simp_all [bodyPostS, results, Tryd.results72]

set_option maxRecDepth 100000 in
theorem catch_panicking (b d : Nat) (T : TypeId) (pv v0 v1 v2 : Value) (older : List PanicEntry) (w : World) (hbd : b ≠ d)
    (c0 : w.cell? ⟨b, 0, none⟩ = some v0) (c1 : w.cell? ⟨b, 1, none⟩ = some v1) (c2 : w.cell? ⟨d, 0, none⟩ = some v2)
    (f0 : w.frozen? ⟨b, 0, none⟩ = false) (f1 : w.frozen? ⟨b, 1, none⟩ = false) (f2 : w.frozen? ⟨d, 0, none⟩ = false) :
    CallsD Tryd.prog 72 #[.pointer (some ⟨b, 0, none⟩), .pointer (some ⟨d, 0, none⟩)] (.panicking ({ v := .iface T pv, recovered := false } :: older)) w fun e u' w' =>
      e = .returned (.tuple #[]) ∧ u' = .panicking ({ v := .iface T pv, recovered := true } :: older) ∧ w' = ((w.setCell ⟨b, 0, none⟩ (.int .i64 0)).setCell ⟨b, 1, none⟩ (.int .i64 0)).setCell ⟨d, 0, none⟩ (.int .i64 3) := by
  refine callsD_of_wpS Tryd.func72 rfl fun c₀ cs hu => ?_
  apply wpS_seq
  apply wpS_region
  simp [wpOpsS, go_sem, recoverD, hu, Tryd.ntmps72, Exit.thenS]
  apply wpS_seq
  apply wpS_region
  simp [wpOpsS, go_sem, Exit.thenS]
  refine wpS_cond (t := true) (by simp [Act.eval]) ?_
  simp only [if_true]
  apply wpS_region
  simp [wpOpsS, go_sem, c0, c1, c2, f0, f1, f2, bodyPostS, results, Tryd.results72]

set_option maxRecDepth 100000 in
set_option maxHeartbeats 1600000 in
theorem ev_ok (G : FuncId) (caps : Array Value) (m e : Int) (w : World) (HE : Hid (∀ W, Sem.run Tryd.prog (callFunc G caps) W = .ok (.enter G caps) W)) (HG : Hid (∀ W, Below w.heap.size w W → Calls Tryd.prog G caps W fun r w' => r = .returned (realV m e) ∧ Below W.heap.size W w')) (h1 : -9223372036854775808 ≤ m) (h2 : m ≤ 9223372036854775807) (h3 : -2000 ≤ e) (h4 : e ≤ 2000) (h5 : rOk m e = true) :
    Calls Tryd.prog 66 #[.func (.func G) #[] caps] w fun r w' => r = .returned (rE (aM (rI m e)) (aE (rI m e)) 0) ∧ Below w.heap.size w w' := by
  have HR := Lib.hid (fun w => rounded_ok m e w h1 h2 h3 h4 h5)
  generalize aM (rI m e) = am at HR ⊢
  generalize aE (rI m e) = ae at HR ⊢
  have hmf : ∀ (fn : Fn) (first cap : Array Value) (w : World), (Instr.makeFunc fn first cap).run Tryd.prog w = .ok (.func fn first cap) w := fun _ _ _ _ => rfl
  go_enter_defers Tryd.func66, Tryd.ntmps66
  go_wp2_with fail
  rw [HE.out, Oper.upon_enter]
  refine (HG.out _ (by repeat (first | with_reducible exact HBB.out | with_reducible exact Below.refl _ _ | with_reducible refine Below.drew ?_ | with_reducible refine belowN ?_ _ | with_reducible refine Below.setCell ?_ (by first | omega | (simp; done) | (simp; omega)) _ | with_reducible refine Below.alloc ?_ (by first | omega | (simp; done) | (simp; omega)) _))).mono ?_
  rintro r w1 ⟨rfl, hb1⟩
  have f0_0 : w1.frozen? ⟨w.heap.size, 0, none⟩ = false := carryF hb1 (v := .int .i64 0) (by first | with_reducible assumption | go_simp) (by first | with_reducible assumption | go_simp)
  have f0_1 : w1.frozen? ⟨w.heap.size, 1, none⟩ = false := carryF hb1 (v := .int .i64 0) (by first | with_reducible assumption | go_simp) (by first | with_reducible assumption | go_simp)
  have f1_0 : w1.frozen? ⟨w.heap.size + 1, 0, none⟩ = false := carryF hb1 (v := .int .i64 0) (by first | with_reducible assumption | go_simp) (by first | with_reducible assumption | go_simp)
  have c0_0 : w1.cell? ⟨w.heap.size, 0, none⟩ = some (.int .i64 0) := carry hb1 (by first | with_reducible assumption | go_simp)
  have c0_1 : w1.cell? ⟨w.heap.size, 1, none⟩ = some (.int .i64 0) := carry hb1 (by first | with_reducible assumption | go_simp)
  have z0 : w.heap.size < w1.heap.size := by have := hb1.size; first | omega | (simp at this; omega)
  have c1_0 : w1.cell? ⟨w.heap.size + 1, 0, none⟩ = some (.int .i64 0) := carry hb1 (by first | with_reducible assumption | go_simp)
  have z1 : w.heap.size + 1 < w1.heap.size := by have := hb1.size; first | omega | (simp at this; omega)
  have HBB := Lib.hid ((by repeat (first | with_reducible exact Below.refl _ _ | with_reducible refine Below.setCell ?_ (by first | omega | (simp; done) | (simp; omega)) _ | with_reducible refine Below.drew ?_ | with_reducible refine belowN ?_ _ | with_reducible refine Below.alloc ?_ (by first | omega | (simp; done) | (simp; omega)) _) : Below w.heap.size w _).trans (hb1.mono (by first | omega | (simp; done) | (simp; omega))))
  clear hb1
  go_wp2_with fail
  refine (HR.out _).mono ?_
  rintro r w2 ⟨rfl, hb2⟩
  have f0_0 : w2.frozen? ⟨w.heap.size, 0, none⟩ = false := carryF hb2 (v := .int .i64 0) (by first | with_reducible assumption | go_simp) (by first | with_reducible assumption | go_simp)
  have f0_1 : w2.frozen? ⟨w.heap.size, 1, none⟩ = false := carryF hb2 (v := .int .i64 0) (by first | with_reducible assumption | go_simp) (by first | with_reducible assumption | go_simp)
  have f1_0 : w2.frozen? ⟨w.heap.size + 1, 0, none⟩ = false := carryF hb2 (v := .int .i64 0) (by first | with_reducible assumption | go_simp) (by first | with_reducible assumption | go_simp)
  have c0_0 : w2.cell? ⟨w.heap.size, 0, none⟩ = some (.int .i64 0) := carry hb2 (by first | with_reducible assumption | go_simp)
  have c0_1 : w2.cell? ⟨w.heap.size, 1, none⟩ = some (.int .i64 0) := carry hb2 (by first | with_reducible assumption | go_simp)
  have z0 : w.heap.size < w2.heap.size := by have := hb2.size; first | omega | (simp at this; omega)
  have c1_0 : w2.cell? ⟨w.heap.size + 1, 0, none⟩ = some (.int .i64 0) := carry hb2 (by first | with_reducible assumption | go_simp)
  have z1 : w.heap.size + 1 < w2.heap.size := by have := hb2.size; first | omega | (simp at this; omega)
  have HBB := Lib.hid ((by repeat (first | with_reducible exact HBB.out | with_reducible refine Below.setCell ?_ (by first | omega | (simp; done) | (simp; omega)) _ | with_reducible refine Below.drew ?_ | with_reducible refine belowN ?_ _ | with_reducible refine Below.alloc ?_ (by first | omega | (simp; done) | (simp; omega)) _) : Below w.heap.size w _).trans (hb2.mono (by first | omega | (simp; done) | (simp; omega))))
  clear hb2
  go_wp2_with fail
  refine leaves_cons (f := 72) (args := #[.pointer (some ⟨w.heap.size, 0, none⟩), .pointer (some ⟨w.heap.size + 1, 0, none⟩)]) (by simp) (by simp [go_sem]) ?_
  refine (catch_idle _ _ _).mono ?_
  rintro e u' w'' ⟨rfl, rfl, rfl⟩
  simp [Leaves, settle, results, Tryd.results66, go_sem, c0_0, c0_1, c1_0]
  exact (by repeat (first | with_reducible exact HBB.out | with_reducible exact Below.refl _ _ | with_reducible refine Below.drew ?_ | with_reducible refine belowN ?_ _ | with_reducible refine Below.setCell ?_ (by first | omega | (simp; done) | (simp; omega)) _ | with_reducible refine Below.alloc ?_ (by first | omega | (simp; done) | (simp; omega)) _))

set_option maxRecDepth 100000 in
set_option maxHeartbeats 1600000 in
theorem ev_over (G : FuncId) (caps : Array Value) (m e : Int) (w : World) (HE : Hid (∀ W, Sem.run Tryd.prog (callFunc G caps) W = .ok (.enter G caps) W)) (HG : Hid (∀ W, Below w.heap.size w W → Calls Tryd.prog G caps W fun r w' => r = .returned (realV m e) ∧ Below W.heap.size W w')) (h1 : -9223372036854775808 ≤ m) (h2 : m ≤ 9223372036854775807) (h3 : -2000 ≤ e) (h4 : e ≤ 2000) (h5 : rOk m e = false) :
    Calls Tryd.prog 66 #[.func (.func G) #[] caps] w fun r w' => r = .returned (rE 0 0 3) ∧ Below w.heap.size w w' := by
  have HR := Lib.hid (fun w => rounded_over m e w h1 h2 h3 h4 h5)
  have hmf : ∀ (fn : Fn) (first cap : Array Value) (w : World), (Instr.makeFunc fn first cap).run Tryd.prog w = .ok (.func fn first cap) w := fun _ _ _ _ => rfl
  go_enter_defers Tryd.func66, Tryd.ntmps66
  go_wp2_with fail
  rw [HE.out, Oper.upon_enter]
  refine (HG.out _ (by repeat (first | with_reducible exact HBB.out | with_reducible exact Below.refl _ _ | with_reducible refine Below.drew ?_ | with_reducible refine belowN ?_ _ | with_reducible refine Below.setCell ?_ (by first | omega | (simp; done) | (simp; omega)) _ | with_reducible refine Below.alloc ?_ (by first | omega | (simp; done) | (simp; omega)) _))).mono ?_
  rintro r w1 ⟨rfl, hb1⟩
  have f0_0 : w1.frozen? ⟨w.heap.size, 0, none⟩ = false := carryF hb1 (v := .int .i64 0) (by first | with_reducible assumption | go_simp) (by first | with_reducible assumption | go_simp)
  have f0_1 : w1.frozen? ⟨w.heap.size, 1, none⟩ = false := carryF hb1 (v := .int .i64 0) (by first | with_reducible assumption | go_simp) (by first | with_reducible assumption | go_simp)
  have f1_0 : w1.frozen? ⟨w.heap.size + 1, 0, none⟩ = false := carryF hb1 (v := .int .i64 0) (by first | with_reducible assumption | go_simp) (by first | with_reducible assumption | go_simp)
  have c0_0 : w1.cell? ⟨w.heap.size, 0, none⟩ = some (.int .i64 0) := carry hb1 (by first | with_reducible assumption | go_simp)
  have c0_1 : w1.cell? ⟨w.heap.size, 1, none⟩ = some (.int .i64 0) := carry hb1 (by first | with_reducible assumption | go_simp)
  have z0 : w.heap.size < w1.heap.size := by have := hb1.size; first | omega | (simp at this; omega)
  have c1_0 : w1.cell? ⟨w.heap.size + 1, 0, none⟩ = some (.int .i64 0) := carry hb1 (by first | with_reducible assumption | go_simp)
  have z1 : w.heap.size + 1 < w1.heap.size := by have := hb1.size; first | omega | (simp at this; omega)
  have HBB := Lib.hid ((by repeat (first | with_reducible exact Below.refl _ _ | with_reducible refine Below.setCell ?_ (by first | omega | (simp; done) | (simp; omega)) _ | with_reducible refine Below.drew ?_ | with_reducible refine belowN ?_ _ | with_reducible refine Below.alloc ?_ (by first | omega | (simp; done) | (simp; omega)) _) : Below w.heap.size w _).trans (hb1.mono (by first | omega | (simp; done) | (simp; omega))))
  clear hb1
  go_wp2_with fail
  refine (HR.out _).mono ?_
  rintro r w2 ⟨rfl, hb2⟩
  have f0_0 : w2.frozen? ⟨w.heap.size, 0, none⟩ = false := carryF hb2 (v := .int .i64 0) (by first | with_reducible assumption | go_simp) (by first | with_reducible assumption | go_simp)
  have f0_1 : w2.frozen? ⟨w.heap.size, 1, none⟩ = false := carryF hb2 (v := .int .i64 0) (by first | with_reducible assumption | go_simp) (by first | with_reducible assumption | go_simp)
  have f1_0 : w2.frozen? ⟨w.heap.size + 1, 0, none⟩ = false := carryF hb2 (v := .int .i64 0) (by first | with_reducible assumption | go_simp) (by first | with_reducible assumption | go_simp)
  have c0_0 : w2.cell? ⟨w.heap.size, 0, none⟩ = some (.int .i64 0) := carry hb2 (by first | with_reducible assumption | go_simp)
  have c0_1 : w2.cell? ⟨w.heap.size, 1, none⟩ = some (.int .i64 0) := carry hb2 (by first | with_reducible assumption | go_simp)
  have z0 : w.heap.size < w2.heap.size := by have := hb2.size; first | omega | (simp at this; omega)
  have c1_0 : w2.cell? ⟨w.heap.size + 1, 0, none⟩ = some (.int .i64 0) := carry hb2 (by first | with_reducible assumption | go_simp)
  have z1 : w.heap.size + 1 < w2.heap.size := by have := hb2.size; first | omega | (simp at this; omega)
  have HBB := Lib.hid ((by repeat (first | with_reducible exact HBB.out | with_reducible refine Below.setCell ?_ (by first | omega | (simp; done) | (simp; omega)) _ | with_reducible refine Below.drew ?_ | with_reducible refine belowN ?_ _ | with_reducible refine Below.alloc ?_ (by first | omega | (simp; done) | (simp; omega)) _) : Below w.heap.size w _).trans (hb2.mono (by first | omega | (simp; done) | (simp; omega))))
  clear hb2
  go_wp2_with fail
  refine leaves_cons (f := 72) (args := #[.pointer (some ⟨w.heap.size, 0, none⟩), .pointer (some ⟨w.heap.size + 1, 0, none⟩)]) (by simp) (by simp [go_sem]) ?_
  refine (catch_panicking w.heap.size (w.heap.size + 1) _ _ (.int .i64 0) (.int .i64 0) (.int .i64 0) _ _ (by omega) (by go_simp) (by go_simp) (by go_simp) (by go_simp) (by go_simp) (by go_simp)).mono ?_
  rintro e u' w'' ⟨rfl, rfl, rfl⟩
  simp [Leaves, settle, results, Tryd.results66, go_sem, c0_0, c0_1, c1_0]
  exact (by repeat (first | with_reducible exact HBB.out | with_reducible exact Below.refl _ _ | with_reducible refine Below.drew ?_ | with_reducible refine belowN ?_ _ | with_reducible refine Below.setCell ?_ (by first | omega | (simp; done) | (simp; omega)) _ | with_reducible refine Below.alloc ?_ (by first | omega | (simp; done) | (simp; omega)) _))

set_option maxRecDepth 100000 in
set_option maxHeartbeats 1600000 in
theorem ev_panic (G : FuncId) (caps : Array Value) (T : TypeId) (pv : Value) (w : World) (HE : Hid (∀ W, Sem.run Tryd.prog (callFunc G caps) W = .ok (.enter G caps) W)) (HG : Hid (∀ W, Below w.heap.size w W → Calls Tryd.prog G caps W fun r w' => r = .panicked [{ v := .iface T pv, recovered := false }] ∧ Below W.heap.size W w')) :
    Calls Tryd.prog 66 #[.func (.func G) #[] caps] w fun r w' => r = .returned (rE 0 0 3) ∧ Below w.heap.size w w' := by
  have hmf : ∀ (fn : Fn) (first cap : Array Value) (w : World), (Instr.makeFunc fn first cap).run Tryd.prog w = .ok (.func fn first cap) w := fun _ _ _ _ => rfl
  go_enter_defers Tryd.func66, Tryd.ntmps66
  go_wp2_with fail
  rw [HE.out, Oper.upon_enter]
  refine (HG.out _ (by repeat (first | with_reducible exact HBB.out | with_reducible exact Below.refl _ _ | with_reducible refine Below.drew ?_ | with_reducible refine belowN ?_ _ | with_reducible refine Below.setCell ?_ (by first | omega | (simp; done) | (simp; omega)) _ | with_reducible refine Below.alloc ?_ (by first | omega | (simp; done) | (simp; omega)) _))).mono ?_
  rintro r w1 ⟨rfl, hb1⟩
  have f0_0 : w1.frozen? ⟨w.heap.size, 0, none⟩ = false := carryF hb1 (v := .int .i64 0) (by first | with_reducible assumption | go_simp) (by first | with_reducible assumption | go_simp)
  have f0_1 : w1.frozen? ⟨w.heap.size, 1, none⟩ = false := carryF hb1 (v := .int .i64 0) (by first | with_reducible assumption | go_simp) (by first | with_reducible assumption | go_simp)
  have f1_0 : w1.frozen? ⟨w.heap.size + 1, 0, none⟩ = false := carryF hb1 (v := .int .i64 0) (by first | with_reducible assumption | go_simp) (by first | with_reducible assumption | go_simp)
  have c0_0 : w1.cell? ⟨w.heap.size, 0, none⟩ = some (.int .i64 0) := carry hb1 (by first | with_reducible assumption | go_simp)
  have c0_1 : w1.cell? ⟨w.heap.size, 1, none⟩ = some (.int .i64 0) := carry hb1 (by first | with_reducible assumption | go_simp)
  have z0 : w.heap.size < w1.heap.size := by have := hb1.size; first | omega | (simp at this; omega)
  have c1_0 : w1.cell? ⟨w.heap.size + 1, 0, none⟩ = some (.int .i64 0) := carry hb1 (by first | with_reducible assumption | go_simp)
  have z1 : w.heap.size + 1 < w1.heap.size := by have := hb1.size; first | omega | (simp at this; omega)
  have HBB := Lib.hid ((by repeat (first | with_reducible exact Below.refl _ _ | with_reducible refine Below.setCell ?_ (by first | omega | (simp; done) | (simp; omega)) _ | with_reducible refine Below.drew ?_ | with_reducible refine belowN ?_ _ | with_reducible refine Below.alloc ?_ (by first | omega | (simp; done) | (simp; omega)) _) : Below w.heap.size w _).trans (hb1.mono (by first | omega | (simp; done) | (simp; omega))))
  clear hb1
  go_wp2_with fail
  refine leaves_cons (f := 72) (args := #[.pointer (some ⟨w.heap.size, 0, none⟩), .pointer (some ⟨w.heap.size + 1, 0, none⟩)]) (by simp) (by simp [go_sem]) ?_
  refine (catch_panicking w.heap.size (w.heap.size + 1) _ _ (.int .i64 0) (.int .i64 0) (.int .i64 0) _ _ (by omega) (by go_simp) (by go_simp) (by go_simp) (by go_simp) (by go_simp) (by go_simp)).mono ?_
  rintro e u' w'' ⟨rfl, rfl, rfl⟩
  simp [Leaves, settle, results, Tryd.results66, go_sem, c0_0, c0_1, c1_0]
  exact (by repeat (first | with_reducible exact HBB.out | with_reducible exact Below.refl _ _ | with_reducible refine Below.drew ?_ | with_reducible refine belowN ?_ _ | with_reducible refine Below.setCell ?_ (by first | omega | (simp; done) | (simp; omega)) _ | with_reducible refine Below.alloc ?_ (by first | omega | (simp; done) | (simp; omega)) _))

set_option maxRecDepth 100000 in
set_option maxHeartbeats 1600000 in
theorem evm_ok (G : FuncId) (caps : Array Value) (m e : Int) (w : World) (HE : Hid (∀ W, Sem.run Tryd.prog (callFunc G caps) W = .ok (.enter G caps) W)) (HG : Hid (∀ W, Below w.heap.size w W → Calls Tryd.prog G caps W fun r w' => r = .returned (realV m e) ∧ Below W.heap.size W w')) (h1 : -9223372036854775808 ≤ m) (h2 : m ≤ 9223372036854775807) (h3 : -2000 ≤ e) (h4 : e ≤ 2000) (h5 : rOk m e = true) :
    Calls Tryd.prog 66 #[.func (.func G) caps #[]] w fun r w' => r = .returned (rE (aM (rI m e)) (aE (rI m e)) 0) ∧ Below w.heap.size w w' := by
  have HR := Lib.hid (fun w => rounded_ok m e w h1 h2 h3 h4 h5)
  generalize aM (rI m e) = am at HR ⊢
  generalize aE (rI m e) = ae at HR ⊢
  have hmf : ∀ (fn : Fn) (first cap : Array Value) (w : World), (Instr.makeFunc fn first cap).run Tryd.prog w = .ok (.func fn first cap) w := fun _ _ _ _ => rfl
  go_enter_defers Tryd.func66, Tryd.ntmps66
  go_wp2_with fail
  rw [HE.out, Oper.upon_enter]
  refine (HG.out _ (by repeat (first | with_reducible exact HBB.out | with_reducible exact Below.refl _ _ | with_reducible refine Below.drew ?_ | with_reducible refine belowN ?_ _ | with_reducible refine Below.setCell ?_ (by first | omega | (simp; done) | (simp; omega)) _ | with_reducible refine Below.alloc ?_ (by first | omega | (simp; done) | (simp; omega)) _))).mono ?_
  rintro r w1 ⟨rfl, hb1⟩
  have f0_0 : w1.frozen? ⟨w.heap.size, 0, none⟩ = false := carryF hb1 (v := .int .i64 0) (by first | with_reducible assumption | go_simp) (by first | with_reducible assumption | go_simp)
  have f0_1 : w1.frozen? ⟨w.heap.size, 1, none⟩ = false := carryF hb1 (v := .int .i64 0) (by first | with_reducible assumption | go_simp) (by first | with_reducible assumption | go_simp)
  have f1_0 : w1.frozen? ⟨w.heap.size + 1, 0, none⟩ = false := carryF hb1 (v := .int .i64 0) (by first | with_reducible assumption | go_simp) (by first | with_reducible assumption | go_simp)
  have c0_0 : w1.cell? ⟨w.heap.size, 0, none⟩ = some (.int .i64 0) := carry hb1 (by first | with_reducible assumption | go_simp)
  have c0_1 : w1.cell? ⟨w.heap.size, 1, none⟩ = some (.int .i64 0) := carry hb1 (by first | with_reducible assumption | go_simp)
  have z0 : w.heap.size < w1.heap.size := by have := hb1.size; first | omega | (simp at this; omega)
  have c1_0 : w1.cell? ⟨w.heap.size + 1, 0, none⟩ = some (.int .i64 0) := carry hb1 (by first | with_reducible assumption | go_simp)
  have z1 : w.heap.size + 1 < w1.heap.size := by have := hb1.size; first | omega | (simp at this; omega)
  have HBB := Lib.hid ((by repeat (first | with_reducible exact Below.refl _ _ | with_reducible refine Below.setCell ?_ (by first | omega | (simp; done) | (simp; omega)) _ | with_reducible refine Below.drew ?_ | with_reducible refine belowN ?_ _ | with_reducible refine Below.alloc ?_ (by first | omega | (simp; done) | (simp; omega)) _) : Below w.heap.size w _).trans (hb1.mono (by first | omega | (simp; done) | (simp; omega))))
  clear hb1
  go_wp2_with fail
  refine (HR.out _).mono ?_
  rintro r w2 ⟨rfl, hb2⟩
  have f0_0 : w2.frozen? ⟨w.heap.size, 0, none⟩ = false := carryF hb2 (v := .int .i64 0) (by first | with_reducible assumption | go_simp) (by first | with_reducible assumption | go_simp)
  have f0_1 : w2.frozen? ⟨w.heap.size, 1, none⟩ = false := carryF hb2 (v := .int .i64 0) (by first | with_reducible assumption | go_simp) (by first | with_reducible assumption | go_simp)
  have f1_0 : w2.frozen? ⟨w.heap.size + 1, 0, none⟩ = false := carryF hb2 (v := .int .i64 0) (by first | with_reducible assumption | go_simp) (by first | with_reducible assumption | go_simp)
  have c0_0 : w2.cell? ⟨w.heap.size, 0, none⟩ = some (.int .i64 0) := carry hb2 (by first | with_reducible assumption | go_simp)
  have c0_1 : w2.cell? ⟨w.heap.size, 1, none⟩ = some (.int .i64 0) := carry hb2 (by first | with_reducible assumption | go_simp)
  have z0 : w.heap.size < w2.heap.size := by have := hb2.size; first | omega | (simp at this; omega)
  have c1_0 : w2.cell? ⟨w.heap.size + 1, 0, none⟩ = some (.int .i64 0) := carry hb2 (by first | with_reducible assumption | go_simp)
  have z1 : w.heap.size + 1 < w2.heap.size := by have := hb2.size; first | omega | (simp at this; omega)
  have HBB := Lib.hid ((by repeat (first | with_reducible exact HBB.out | with_reducible refine Below.setCell ?_ (by first | omega | (simp; done) | (simp; omega)) _ | with_reducible refine Below.drew ?_ | with_reducible refine belowN ?_ _ | with_reducible refine Below.alloc ?_ (by first | omega | (simp; done) | (simp; omega)) _) : Below w.heap.size w _).trans (hb2.mono (by first | omega | (simp; done) | (simp; omega))))
  clear hb2
  go_wp2_with fail
  refine leaves_cons (f := 72) (args := #[.pointer (some ⟨w.heap.size, 0, none⟩), .pointer (some ⟨w.heap.size + 1, 0, none⟩)]) (by simp) (by simp [go_sem]) ?_
  refine (catch_idle _ _ _).mono ?_
  rintro e u' w'' ⟨rfl, rfl, rfl⟩
  simp [Leaves, settle, results, Tryd.results66, go_sem, c0_0, c0_1, c1_0]
  exact (by repeat (first | with_reducible exact HBB.out | with_reducible exact Below.refl _ _ | with_reducible refine Below.drew ?_ | with_reducible refine belowN ?_ _ | with_reducible refine Below.setCell ?_ (by first | omega | (simp; done) | (simp; omega)) _ | with_reducible refine Below.alloc ?_ (by first | omega | (simp; done) | (simp; omega)) _))

set_option maxRecDepth 100000 in
set_option maxHeartbeats 1600000 in
theorem evm_over (G : FuncId) (caps : Array Value) (m e : Int) (w : World) (HE : Hid (∀ W, Sem.run Tryd.prog (callFunc G caps) W = .ok (.enter G caps) W)) (HG : Hid (∀ W, Below w.heap.size w W → Calls Tryd.prog G caps W fun r w' => r = .returned (realV m e) ∧ Below W.heap.size W w')) (h1 : -9223372036854775808 ≤ m) (h2 : m ≤ 9223372036854775807) (h3 : -2000 ≤ e) (h4 : e ≤ 2000) (h5 : rOk m e = false) :
    Calls Tryd.prog 66 #[.func (.func G) caps #[]] w fun r w' => r = .returned (rE 0 0 3) ∧ Below w.heap.size w w' := by
  have HR := Lib.hid (fun w => rounded_over m e w h1 h2 h3 h4 h5)
  have hmf : ∀ (fn : Fn) (first cap : Array Value) (w : World), (Instr.makeFunc fn first cap).run Tryd.prog w = .ok (.func fn first cap) w := fun _ _ _ _ => rfl
  go_enter_defers Tryd.func66, Tryd.ntmps66
  go_wp2_with fail
  rw [HE.out, Oper.upon_enter]
  refine (HG.out _ (by repeat (first | with_reducible exact HBB.out | with_reducible exact Below.refl _ _ | with_reducible refine Below.drew ?_ | with_reducible refine belowN ?_ _ | with_reducible refine Below.setCell ?_ (by first | omega | (simp; done) | (simp; omega)) _ | with_reducible refine Below.alloc ?_ (by first | omega | (simp; done) | (simp; omega)) _))).mono ?_
  rintro r w1 ⟨rfl, hb1⟩
  have f0_0 : w1.frozen? ⟨w.heap.size, 0, none⟩ = false := carryF hb1 (v := .int .i64 0) (by first | with_reducible assumption | go_simp) (by first | with_reducible assumption | go_simp)
  have f0_1 : w1.frozen? ⟨w.heap.size, 1, none⟩ = false := carryF hb1 (v := .int .i64 0) (by first | with_reducible assumption | go_simp) (by first | with_reducible assumption | go_simp)
  have f1_0 : w1.frozen? ⟨w.heap.size + 1, 0, none⟩ = false := carryF hb1 (v := .int .i64 0) (by first | with_reducible assumption | go_simp) (by first | with_reducible assumption | go_simp)
  have c0_0 : w1.cell? ⟨w.heap.size, 0, none⟩ = some (.int .i64 0) := carry hb1 (by first | with_reducible assumption | go_simp)
  have c0_1 : w1.cell? ⟨w.heap.size, 1, none⟩ = some (.int .i64 0) := carry hb1 (by first | with_reducible assumption | go_simp)
  have z0 : w.heap.size < w1.heap.size := by have := hb1.size; first | omega | (simp at this; omega)
  have c1_0 : w1.cell? ⟨w.heap.size + 1, 0, none⟩ = some (.int .i64 0) := carry hb1 (by first | with_reducible assumption | go_simp)
  have z1 : w.heap.size + 1 < w1.heap.size := by have := hb1.size; first | omega | (simp at this; omega)
  have HBB := Lib.hid ((by repeat (first | with_reducible exact Below.refl _ _ | with_reducible refine Below.setCell ?_ (by first | omega | (simp; done) | (simp; omega)) _ | with_reducible refine Below.drew ?_ | with_reducible refine belowN ?_ _ | with_reducible refine Below.alloc ?_ (by first | omega | (simp; done) | (simp; omega)) _) : Below w.heap.size w _).trans (hb1.mono (by first | omega | (simp; done) | (simp; omega))))
  clear hb1
  go_wp2_with fail
  refine (HR.out _).mono ?_
  rintro r w2 ⟨rfl, hb2⟩
  have f0_0 : w2.frozen? ⟨w.heap.size, 0, none⟩ = false := carryF hb2 (v := .int .i64 0) (by first | with_reducible assumption | go_simp) (by first | with_reducible assumption | go_simp)
  have f0_1 : w2.frozen? ⟨w.heap.size, 1, none⟩ = false := carryF hb2 (v := .int .i64 0) (by first | with_reducible assumption | go_simp) (by first | with_reducible assumption | go_simp)
  have f1_0 : w2.frozen? ⟨w.heap.size + 1, 0, none⟩ = false := carryF hb2 (v := .int .i64 0) (by first | with_reducible assumption | go_simp) (by first | with_reducible assumption | go_simp)
  have c0_0 : w2.cell? ⟨w.heap.size, 0, none⟩ = some (.int .i64 0) := carry hb2 (by first | with_reducible assumption | go_simp)
  have c0_1 : w2.cell? ⟨w.heap.size, 1, none⟩ = some (.int .i64 0) := carry hb2 (by first | with_reducible assumption | go_simp)
  have z0 : w.heap.size < w2.heap.size := by have := hb2.size; first | omega | (simp at this; omega)
  have c1_0 : w2.cell? ⟨w.heap.size + 1, 0, none⟩ = some (.int .i64 0) := carry hb2 (by first | with_reducible assumption | go_simp)
  have z1 : w.heap.size + 1 < w2.heap.size := by have := hb2.size; first | omega | (simp at this; omega)
  have HBB := Lib.hid ((by repeat (first | with_reducible exact HBB.out | with_reducible refine Below.setCell ?_ (by first | omega | (simp; done) | (simp; omega)) _ | with_reducible refine Below.drew ?_ | with_reducible refine belowN ?_ _ | with_reducible refine Below.alloc ?_ (by first | omega | (simp; done) | (simp; omega)) _) : Below w.heap.size w _).trans (hb2.mono (by first | omega | (simp; done) | (simp; omega))))
  clear hb2
  go_wp2_with fail
  refine leaves_cons (f := 72) (args := #[.pointer (some ⟨w.heap.size, 0, none⟩), .pointer (some ⟨w.heap.size + 1, 0, none⟩)]) (by simp) (by simp [go_sem]) ?_
  refine (catch_panicking w.heap.size (w.heap.size + 1) _ _ (.int .i64 0) (.int .i64 0) (.int .i64 0) _ _ (by omega) (by go_simp) (by go_simp) (by go_simp) (by go_simp) (by go_simp) (by go_simp)).mono ?_
  rintro e u' w'' ⟨rfl, rfl, rfl⟩
  simp [Leaves, settle, results, Tryd.results66, go_sem, c0_0, c0_1, c1_0]
  exact (by repeat (first | with_reducible exact HBB.out | with_reducible exact Below.refl _ _ | with_reducible refine Below.drew ?_ | with_reducible refine belowN ?_ _ | with_reducible refine Below.setCell ?_ (by first | omega | (simp; done) | (simp; omega)) _ | with_reducible refine Below.alloc ?_ (by first | omega | (simp; done) | (simp; omega)) _))

set_option maxRecDepth 100000 in
set_option maxHeartbeats 1600000 in
theorem evm_panic (G : FuncId) (caps : Array Value) (T : TypeId) (pv : Value) (w : World) (HE : Hid (∀ W, Sem.run Tryd.prog (callFunc G caps) W = .ok (.enter G caps) W)) (HG : Hid (∀ W, Below w.heap.size w W → Calls Tryd.prog G caps W fun r w' => r = .panicked [{ v := .iface T pv, recovered := false }] ∧ Below W.heap.size W w')) :
    Calls Tryd.prog 66 #[.func (.func G) caps #[]] w fun r w' => r = .returned (rE 0 0 3) ∧ Below w.heap.size w w' := by
  have hmf : ∀ (fn : Fn) (first cap : Array Value) (w : World), (Instr.makeFunc fn first cap).run Tryd.prog w = .ok (.func fn first cap) w := fun _ _ _ _ => rfl
  go_enter_defers Tryd.func66, Tryd.ntmps66
  go_wp2_with fail
  rw [HE.out, Oper.upon_enter]
  refine (HG.out _ (by repeat (first | with_reducible exact HBB.out | with_reducible exact Below.refl _ _ | with_reducible refine Below.drew ?_ | with_reducible refine belowN ?_ _ | with_reducible refine Below.setCell ?_ (by first | omega | (simp; done) | (simp; omega)) _ | with_reducible refine Below.alloc ?_ (by first | omega | (simp; done) | (simp; omega)) _))).mono ?_
  rintro r w1 ⟨rfl, hb1⟩
  have f0_0 : w1.frozen? ⟨w.heap.size, 0, none⟩ = false := carryF hb1 (v := .int .i64 0) (by first | with_reducible assumption | go_simp) (by first | with_reducible assumption | go_simp)
  have f0_1 : w1.frozen? ⟨w.heap.size, 1, none⟩ = false := carryF hb1 (v := .int .i64 0) (by first | with_reducible assumption | go_simp) (by first | with_reducible assumption | go_simp)
  have f1_0 : w1.frozen? ⟨w.heap.size + 1, 0, none⟩ = false := carryF hb1 (v := .int .i64 0) (by first | with_reducible assumption | go_simp) (by first | with_reducible assumption | go_simp)
  have c0_0 : w1.cell? ⟨w.heap.size, 0, none⟩ = some (.int .i64 0) := carry hb1 (by first | with_reducible assumption | go_simp)
  have c0_1 : w1.cell? ⟨w.heap.size, 1, none⟩ = some (.int .i64 0) := carry hb1 (by first | with_reducible assumption | go_simp)
  have z0 : w.heap.size < w1.heap.size := by have := hb1.size; first | omega | (simp at this; omega)
  have c1_0 : w1.cell? ⟨w.heap.size + 1, 0, none⟩ = some (.int .i64 0) := carry hb1 (by first | with_reducible assumption | go_simp)
  have z1 : w.heap.size + 1 < w1.heap.size := by have := hb1.size; first | omega | (simp at this; omega)
  have HBB := Lib.hid ((by repeat (first | with_reducible exact Below.refl _ _ | with_reducible refine Below.setCell ?_ (by first | omega | (simp; done) | (simp; omega)) _ | with_reducible refine Below.drew ?_ | with_reducible refine belowN ?_ _ | with_reducible refine Below.alloc ?_ (by first | omega | (simp; done) | (simp; omega)) _) : Below w.heap.size w _).trans (hb1.mono (by first | omega | (simp; done) | (simp; omega))))
  clear hb1
  go_wp2_with fail
  refine leaves_cons (f := 72) (args := #[.pointer (some ⟨w.heap.size, 0, none⟩), .pointer (some ⟨w.heap.size + 1, 0, none⟩)]) (by simp) (by simp [go_sem]) ?_
  refine (catch_panicking w.heap.size (w.heap.size + 1) _ _ (.int .i64 0) (.int .i64 0) (.int .i64 0) _ _ (by omega) (by go_simp) (by go_simp) (by go_simp) (by go_simp) (by go_simp) (by go_simp)).mono ?_
  rintro e u' w'' ⟨rfl, rfl, rfl⟩
  simp [Leaves, settle, results, Tryd.results66, go_sem, c0_0, c0_1, c1_0]
  exact (by repeat (first | with_reducible exact HBB.out | with_reducible exact Below.refl _ _ | with_reducible refine Below.drew ?_ | with_reducible refine belowN ?_ _ | with_reducible refine Below.setCell ?_ (by first | omega | (simp; done) | (simp; omega)) _ | with_reducible refine Below.alloc ?_ (by first | omega | (simp; done) | (simp; omega)) _))

end Go.Proofs.YtnmifeiokhpcfaaDoor.re

namespace Go.Proofs.YtnmifeiokhpcfaaDoor.re
open Go.RowKit
set_option linter.unusedVariables false

def roM (m e : Int) : Int := if rOk m e then aM (rI m e) else 0

def roE (m e : Int) : Int := if rOk m e then aE (rI m e) else 0

def roX (m e : Int) : Int := if rOk m e then 0 else 3

abbrev oV (m e : Int) : Value := rE (roM m e) (roE m e) (roX m e)

theorem ev_any (G : FuncId) (caps : Array Value) (m e : Int) (w : World) (HE : Hid (∀ W, Sem.run Tryd.prog (callFunc G caps) W = .ok (.enter G caps) W))  (HG : Hid (∀ W, Below w.heap.size w W → Calls Tryd.prog G caps W fun r w' => r = .returned (realV m e) ∧ Below W.heap.size W w')) (h1 : -9223372036854775808 ≤ m) (h2 : m ≤ 9223372036854775807) (h3 : -2000 ≤ e) (h4 : e ≤ 2000) :
    Calls Tryd.prog 66 #[.func (.func G) #[] caps] w fun r w' => r = .returned (oV m e) ∧ Below w.heap.size w w' := by
  unfold oV roM roE roX
  cases h : rOk m e
  · exact ev_over G caps m e w HE HG h1 h2 h3 h4 h
  · exact ev_ok G caps m e w HE HG h1 h2 h3 h4 h

theorem evm_any (G : FuncId) (caps : Array Value) (m e : Int) (w : World) (HE : Hid (∀ W, Sem.run Tryd.prog (callFunc G caps) W = .ok (.enter G caps) W))  (HG : Hid (∀ W, Below w.heap.size w W → Calls Tryd.prog G caps W fun r w' => r = .returned (realV m e) ∧ Below W.heap.size W w')) (h1 : -9223372036854775808 ≤ m) (h2 : m ≤ 9223372036854775807) (h3 : -2000 ≤ e) (h4 : e ≤ 2000) :
    Calls Tryd.prog 66 #[.func (.func G) caps #[]] w fun r w' => r = .returned (oV m e) ∧ Below w.heap.size w w' := by
  unfold oV roM roE roX
  cases h : rOk m e
  · exact evm_over G caps m e w HE HG h1 h2 h3 h4 h
  · exact evm_ok G caps m e w HE HG h1 h2 h3 h4 h

def quS (m : Int) : Int := 62 - (Lib.bitLen (ab m).toNat : Int)

def quP (m : Int) : Int := ab m * 2 ^ (quS m).toNat

def quM (m k : Int) : Int := qsg m k (stk ((quP m).tdiv (ab k)) ((quP m).tmod (ab k) != 0))

def quE (m e f : Int) : Int := e - quS m - f - 1

theorem quS_bd (m : Int) (m1 : -16777216 ≤ m) (m2 : m ≤ 16777216) : 37 ≤ quS m ∧ quS m ≤ 62 ∧ 0 ≤ quP m ∧ quP m ≤ 4611686018427387903 := by
  have a1 : 0 ≤ ab m ∧ ab m ≤ 16777216 := by unfold ab; split <;> omega
  unfold quP quS
  generalize ab m = a at *
  by_cases hz : a = 0
  · subst hz
    have : Lib.bitLen (0 : Int).toNat = 0 := rfl
    rw [this]
    simp
  · obtain ⟨k1, k2, k3, k4⟩ := bl_bd a (by omega) (by omega)
    have hL := Lib.bitLen_le a.toNat 25 (by omega) (by omega)
    generalize Lib.bitLen a.toNat = L at *
    refine ⟨by omega, by omega, Int.mul_nonneg (by omega) (Int.le_of_lt (pow_pos _)), ?_⟩
    have h : a * 2 ^ (62 - (L : Int)).toNat < 2 ^ L * 2 ^ (62 - (L : Int)).toNat := Int.mul_lt_mul_of_pos_right k4 (pow_pos _)
    rw [← Int.pow_add] at h
    have e : L + (62 - (L : Int)).toNat = 62 := by omega
    rw [e] at h
    omega

theorem quM_bd (m k : Int) (m1 : -16777216 ≤ m) (m2 : m ≤ 16777216) (k1 : -16777216 ≤ k) (k2 : k ≤ 16777216) (k0 : k ≠ 0) :
    0 ≤ (quP m).tdiv (ab k) ∧ (quP m).tdiv (ab k) ≤ 4611686018427387903 ∧ -9223372036854775807 ≤ quM m k ∧ quM m k ≤ 9223372036854775807 := by
  obtain ⟨s1, s2, s3, s4⟩ := quS_bd m m1 m2
  have a1 : 0 < ab k := by unfold ab; split <;> omega
  have q0 : 0 ≤ (quP m).tdiv (ab k) := Int.tdiv_nonneg s3 (by omega)
  have q1 : (quP m).tdiv (ab k) ≤ quP m := by
    rw [Int.tdiv_eq_ediv_of_nonneg s3]
    exact Int.ediv_le_self _ s3
  have h := stk_bd ((quP m).tdiv (ab k)) ((quP m).tmod (ab k) != 0)
  refine ⟨q0, by omega, ?_⟩
  unfold quM
  generalize stk _ _ = t at *
  unfold qsg
  split <;> omega

end Go.Proofs.YtnmifeiokhpcfaaDoor.re

namespace Go.Proofs.YtnmifeiokhpcfaaDoor.re
open Go.RowKit
set_option linter.unusedVariables false

theorem mulr_bd (m k : Int) (h1 : -16777216 ≤ m) (h2 : m ≤ 16777216) (h3 : -16777216 ≤ k) (h4 : k ≤ 16777216) : -281474976710656 ≤ m * k ∧ m * k ≤ 281474976710656 := by
  have a := Int.mul_le_mul (a := ab m) (b := ab k) (c := 16777216) (d := 16777216) (by unfold ab; split <;> omega) (by unfold ab; split <;> omega) (by unfold ab; split <;> omega) (by decide)
  have n := Int.mul_nonneg (a := ab m) (b := ab k) (by unfold ab; split <;> omega) (by unfold ab; split <;> omega)
  have e : ab m * ab k = m * k ∨ ab m * ab k = -(m * k) := by
    unfold ab
    split <;> split <;> simp [Int.neg_mul, Int.mul_neg]
  rcases e with e | e <;> rw [e] at a n <;> omega

theorem both_vr {m e k f : Int} (h : (vr m e && vr k f) = true) : vr m e = true ∧ vr k f = true := by simpa using h

end Go.Proofs.YtnmifeiokhpcfaaDoor.re
