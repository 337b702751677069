/-
  THE DOCUMENT'S OWN ANSWERS ON SPANS: comparisons, meets and joins.
-/
import Derived.Test.YtnhieokegidibaaSpanOp

namespace Go.Proofs.Ytnhieokegidibaa
open Go.RowKit

theorem low4_cmp {la ua lb ub : Int} (h1 : la ≤ ua) (h2 : lb ≤ ub) : low4 (cmpF la ua lb ub) = cmp3 la ub ∧ high4 (cmpF la ua lb ub) = cmp3 ua lb := by
  unfold low4 high4 cmpF mn mx
  simp only [cond_true, cond_false]
  rcases cmp3_cases la lb with h | h | h <;> rcases cmp3_cases la ub with g | g | g <;> rcases cmp3_cases ua lb with k | k | k <;> rcases cmp3_cases ua ub with l | l | l <;> rw [h.2, g.2, k.2, l.2] <;> first | exact ⟨rfl, rfl⟩ | (exfalso; omega)

set_option maxRecDepth 100000 in
set_option maxHeartbeats 1600000 in
theorem rvspan_any (l u : Int) (w : World) :
    Calls Try.prog 10 #[spanV l u] w fun e w' => e = .returned (.bool (vsp l u)) ∧ Below w.heap.size w w' := by
  have B0 : ∀ o1 : Obj, Below w.heap.size w (w.alloc o1) := fun _ => (Below.refl _ _).alloc (Nat.le_refl _) _
  have HBB := Lib.hid B0
  clear B0
  cases h1 : vld l
  · go_enter Try.func10, Try.ntmps10
    go_wp2_with (go_at_call 31; refine (rvalid_any _ _).mono ?_; rintro e w' ⟨rfl, rfl⟩)
    go_ret
    exact ⟨by simp [vsp, bth, h1], HBB.out _⟩
  · cases h2 : vld u
    · go_enter Try.func10, Try.ntmps10
      go_wp2_with (go_at_call 31; refine (rvalid_any _ _).mono ?_; rintro e w' ⟨rfl, rfl⟩)
      go_ret
      exact ⟨by simp [vsp, bth, h2], HBB.out _⟩
    · go_enter Try.func10, Try.ntmps10
      go_wp2_with (go_at_call 31; refine (rvalid_any _ _).mono ?_; rintro e w' ⟨rfl, rfl⟩)
      go_ret
      exact ⟨by simp [vsp, bth, h1, h2], HBB.out _⟩

end Go.Proofs.Ytnhieokegidibaa
