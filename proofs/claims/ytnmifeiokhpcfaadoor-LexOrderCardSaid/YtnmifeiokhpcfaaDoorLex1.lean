/-
  PACKAGE lex: what a byte is; places in a text: done, sees, has.
-/
import Derived.Test.YtnmifeiokhpcfaaDoorLexN
import Derived.BigQuiet
import Derived.Deep.QuietTactic

namespace Go.Proofs.YtnmifeiokhpcfaaDoor
open Go.RowKit
set_option linter.unusedVariables false

theorem clsV_cases (b : Nat) : clsV b = 9 ∨ clsV b = 1 ∨ clsV b = 14 ∨ clsV b = 12 ∨ clsV b = 8 ∨ clsV b = 0 := by
  unfold clsV
  repeat' split
  all_goals simp

set_option maxHeartbeats 1000000 in
theorem classOf_any (b : Nat) (w : World) (hb : b < 256) :
    Calls Tryd.prog 45 #[.int .u8 (b : Int)] w fun e w' => e = .returned (.int .u8 (clsV b)) ∧ w = w' := by
  have hc : b = 32 ∨ (b = 9 ∨ b = 10 ∨ b = 13) ∨ (48 ≤ b ∧ b ≤ 57) ∨ (97 ≤ b ∧ b ≤ 122) ∨ (33 ≤ b ∧ b ≤ 126 ∧ b ≠ 34 ∧ ¬ (48 ≤ b ∧ b ≤ 57) ∧ ¬ (97 ≤ b ∧ b ≤ 122)) ∨ (¬ (32 ≤ b ∧ b ≤ 126 ∧ b ≠ 34) ∧ b ≠ 9 ∧ b ≠ 10 ∧ b ≠ 13) := by omega
  rcases hc with h | h | h | h | h | h
  · have HV := Lib.hid (show clsV b = 9 from by unfold clsV; repeat' split; all_goals omega)
    go_enter Tryd.func45, Tryd.ntmps45
    go_wp2_with fail
    all_goals first
      | (exfalso; omega)
      | (go_ret; exact ⟨by rw [HV.out]; rfl, rfl⟩)
      | (go_ret; simp_all; done)
      | (exfalso; simp_all; omega)
  · have HV := Lib.hid (show clsV b = 1 from by unfold clsV; repeat' split; all_goals omega)
    go_enter Tryd.func45, Tryd.ntmps45
    go_wp2_with fail
    all_goals first
      | (exfalso; omega)
      | (go_ret; exact ⟨by rw [HV.out]; rfl, rfl⟩)
      | (go_ret; simp_all; done)
      | (exfalso; simp_all; omega)
  · have HV := Lib.hid (show clsV b = 14 from by unfold clsV; repeat' split; all_goals omega)
    go_enter Tryd.func45, Tryd.ntmps45
    go_wp2_with fail
    all_goals first
      | (exfalso; omega)
      | (go_ret; exact ⟨by rw [HV.out]; rfl, rfl⟩)
      | (go_ret; simp_all; done)
      | (exfalso; simp_all; omega)
  · have HV := Lib.hid (show clsV b = 12 from by unfold clsV; repeat' split; all_goals omega)
    go_enter Tryd.func45, Tryd.ntmps45
    go_wp2_with fail
    all_goals first
      | (exfalso; omega)
      | (go_ret; exact ⟨by rw [HV.out]; rfl, rfl⟩)
      | (go_ret; simp_all; done)
      | (exfalso; simp_all; omega)
  · have HV := Lib.hid (show clsV b = 8 from by unfold clsV; repeat' split; all_goals omega)
    go_enter Tryd.func45, Tryd.ntmps45
    go_wp2_with fail
    all_goals first
      | (exfalso; omega)
      | (go_ret; exact ⟨by rw [HV.out]; rfl, rfl⟩)
      | (go_ret; simp_all; done)
      | (exfalso; simp_all; omega)
  · have HV := Lib.hid (show clsV b = 0 from by unfold clsV; repeat' split; all_goals omega)
    go_enter Tryd.func45, Tryd.ntmps45
    go_wp2_with fail
    all_goals first
      | (exfalso; omega)
      | (go_ret; exact ⟨by rw [HV.out]; rfl, rfl⟩)
      | (go_ret; simp_all; done)
      | (exfalso; simp_all; omega)

theorem done_any {w : World} {B : Nat} {T : TypeId} {s : ByteArray} {a : Int} {rest : List Value} (h : Pos w B T s a rest) :
    Calls Tryd.prog 24 #[.pointer (some ⟨B, 0, none⟩)] w fun e w' => e = .returned (.bool (a == (s.size : Int))) ∧ ∃ m, w' = w.drewN m := by
  have c0 := h.c0
  have c1 := h.c1
  clear h
  go_enter Tryd.func24, Tryd.ntmps24
  go_wp2_with fail
  go_quiet (fail)
  go_wp2_with fail
  go_ret
  exact ⟨rfl, _, rfl⟩

theorem done_is {w : World} {B : Nat} {T : TypeId} {s : ByteArray} {a : Int} {rest : List Value} (h : Pos w B T s a rest) {b : Bool} (hb : (a == (s.size : Int)) = b) :
    Calls Tryd.prog 24 #[.pointer (some ⟨B, 0, none⟩)] w fun e w' => e = .returned (.bool b) ∧ ∃ m, w' = w.drewN m := hb ▸ done_any h

/-- whether the byte here is of a class -/
def seesV (c : Int) (s : ByteArray) (a : Nat) : Bool := inCls c (byt s a)
def okCls (c : Int) : Prop := c = 1 ∨ c = 2 ∨ c = 4 ∨ c = 8
theorem and_cls (c : Int) (hc : okCls c) (b : Nat) : (bits BinOp.and IntKind.u8 (clsV b) c != 0) = inCls c b ∧ (bits BinOp.and IntKind.u8 (clsV b) c == 0) = !inCls c b := by
  have hb : b = 32 ∨ (b = 9 ∨ b = 10 ∨ b = 13) ∨ (48 ≤ b ∧ b ≤ 57) ∨ (97 ≤ b ∧ b ≤ 122) ∨ (33 ≤ b ∧ b ≤ 126 ∧ b ≠ 34 ∧ ¬ (48 ≤ b ∧ b ≤ 57) ∧ ¬ (97 ≤ b ∧ b ≤ 122)) ∨ (¬ (32 ≤ b ∧ b ≤ 126 ∧ b ≠ 34) ∧ b ≠ 9 ∧ b ≠ 10 ∧ b ≠ 13) := by omega
  have e : ∃ v, clsV b = v ∧ isBlank b = (v == 9 || v == 1) ∧ isDig b = (v == 14) ∧ isRun b = (v == 14 || v == 12) ∧ isStr b = (v == 9 || v == 14 || v == 12 || v == 8) ∧ (v = 9 ∨ v = 1 ∨ v = 14 ∨ v = 12 ∨ v = 8 ∨ v = 0) := by
    have B : ∀ (p : Prop) [Decidable p] (t : Bool), (p ↔ t = true) → decide p = t := fun p _ t h => by cases t <;> simp_all
    rcases hb with h | h | h | h | h | h
    · exact ⟨9, by unfold clsV; rw [if_pos h], by subst h; decide, by subst h; decide, by subst h; decide, by subst h; decide, by decide⟩
    · exact ⟨1, by unfold clsV; repeat' split; all_goals omega, by rcases h with rfl | rfl | rfl <;> decide, by rcases h with rfl | rfl | rfl <;> decide, by rcases h with rfl | rfl | rfl <;> decide, by rcases h with rfl | rfl | rfl <;> decide, by decide⟩
    · exact ⟨14, by unfold clsV; repeat' split; all_goals omega, by simp [isBlank]; omega, by simp [isDig]; omega, by simp [isRun, isDig]; omega, by simp [isStr]; omega, by decide⟩
    · exact ⟨12, by unfold clsV; repeat' split; all_goals omega, by simp [isBlank]; omega, by simp [isDig]; omega, by simp [isRun, isDig]; omega, by simp [isStr]; omega, by decide⟩
    · exact ⟨8, by unfold clsV; repeat' split; all_goals omega, by simp [isBlank]; omega, by simp [isDig]; omega, by simp [isRun, isDig]; omega, by simp [isStr]; omega, by decide⟩
    · exact ⟨0, by unfold clsV; repeat' split; all_goals omega, by simp [isBlank]; omega, by simp [isDig]; omega, by simp [isRun, isDig]; omega, by simp [isStr]; omega, by decide⟩
  obtain ⟨v, ev, e1, e2, e3, e4, hv⟩ := e
  rw [ev]
  rcases hc with rfl | rfl | rfl | rfl
  · rw [show inCls 1 b = isBlank b from rfl, e1]
    rcases hv with rfl | rfl | rfl | rfl | rfl | rfl <;> exact ⟨rfl, rfl⟩
  · rw [show inCls 2 b = isDig b from rfl, e2]
    rcases hv with rfl | rfl | rfl | rfl | rfl | rfl <;> exact ⟨rfl, rfl⟩
  · rw [show inCls 4 b = isRun b from rfl, e3]
    rcases hv with rfl | rfl | rfl | rfl | rfl | rfl <;> exact ⟨rfl, rfl⟩
  · rw [show inCls 8 b = isStr b from rfl, e4]
    rcases hv with rfl | rfl | rfl | rfl | rfl | rfl <;> exact ⟨rfl, rfl⟩

end Go.Proofs.YtnmifeiokhpcfaaDoor
