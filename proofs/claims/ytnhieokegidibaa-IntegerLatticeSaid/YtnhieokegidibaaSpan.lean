/-
  SPANS: what the functions on spans of package integer return that need no other function.
-/
import Derived.Test.YtnhieokegidibaaIs

namespace Go.Proofs.Ytnhieokegidibaa
open Go.RowKit

/-- a span as a value -/
abbrev spanV (l u : Int) : Value := .agg #[.int .i64 l, .int .i64 u]
/-- a valid span -/
def vsp (l u : Int) : Bool := bth l u && decide (l ≤ u)
theorem vsp_iff {l u : Int} : vsp l u = true ↔ (-2147483647 ≤ l ∧ l ≤ 2147483647) ∧ (-2147483647 ≤ u ∧ u ≤ 2147483647) ∧ l ≤ u := by
  rw [vsp, Bool.and_eq_true, bth_iff, decide_eq_true_eq, and_assoc]

theorem bcell {W w1 : World} (hb : Below W.heap.size W w1) : (∀ b o, b < W.heap.size → w1.cell? ⟨b, o, none⟩ = W.cell? ⟨b, o, none⟩) ∧ (∀ b o, b < W.heap.size → w1.frozen? ⟨b, o, none⟩ = W.frozen? ⟨b, o, none⟩) :=
  ⟨fun b o h => hb.cell (p := ⟨b, o, none⟩) h, fun b o h => hb.frozen (p := ⟨b, o, none⟩) h⟩

set_option maxHeartbeats 400000 in
theorem vspan_any (l u : Int) (w : World) :
    Calls Try.prog 9 #[spanV l u] w fun e w' => e = .returned (.bool (vsp l u)) ∧ Below w.heap.size w w' := by
  cases hb : bth l u
  · go_enter Try.func9, Try.ntmps9
    go_wp2_with (go_at_call 30; refine (both_any _ _ _).mono ?_; rintro e w' ⟨rfl, rfl⟩)
    go_ret
    exact ⟨by simp [vsp, hb], by repeat (first | exact Below.refl _ _ | refine Below.drew ?_ | refine Below.alloc ?_ (by simp) _)⟩
  · by_cases h : l ≤ u
    · go_enter Try.func9, Try.ntmps9
      go_wp2_with (go_at_call 30; refine (both_any _ _ _).mono ?_; rintro e w' ⟨rfl, rfl⟩)
      go_ret
      exact ⟨by simp [vsp, hb, h], by repeat (first | exact Below.refl _ _ | refine Below.drew ?_ | refine Below.alloc ?_ (by simp) _)⟩
    · go_enter Try.func9, Try.ntmps9
      go_wp2_with (go_at_call 30; refine (both_any _ _ _).mono ?_; rintro e w' ⟨rfl, rfl⟩)
      go_ret
      exact ⟨by simp [vsp, hb] <;> omega, by repeat (first | exact Below.refl _ _ | refine Below.drew ?_ | refine Below.alloc ?_ (by simp) _)⟩

set_option maxHeartbeats 400000 in
theorem bsp_any (la ua lb ub : Int) (w : World) :
    Calls Try.prog 37 #[spanV la ua, spanV lb ub] w fun e w' => e = .returned (.bool (vsp la ua && vsp lb ub)) ∧ Below w.heap.size w w' := by
  cases hv : vsp la ua
  · go_enter Try.func37, Try.ntmps37
    go_wp2_with fail
    refine (vspan_any _ _ _).mono ?_
    rintro e w1 ⟨rfl, hb1⟩
    go_wp2_with fail
    go_ret
    exact ⟨by simp [hv], (by repeat (first | exact Below.refl _ _ | refine Below.alloc ?_ (by simp) _) : Below w.heap.size w ((w.alloc _).alloc _)).trans (hb1.mono (by simp <;> omega))⟩
  · go_enter Try.func37, Try.ntmps37
    go_wp2_with fail
    refine (vspan_any _ _ _).mono ?_
    rintro e w1 ⟨rfl, hb1⟩
    obtain ⟨hc1, hf1⟩ := bcell hb1
    go_wp2_with fail
    refine (vspan_any _ _ _).mono ?_
    rintro e w2 ⟨rfl, hb2⟩
    go_wp2_with fail
    go_ret
    exact ⟨by simp [hv], ((by repeat (first | exact Below.refl _ _ | refine Below.alloc ?_ (by simp) _) : Below w.heap.size w ((w.alloc _).alloc _)).trans (hb1.mono (by simp <;> omega))).trans (hb2.mono (by have := hb1.size; simp at this; omega))⟩

end Go.Proofs.Ytnhieokegidibaa
