/-
  PACKAGE real: sanity out of the tables.
-/
import Derived.Test.YtbfknapmhkpgcaaGreatDoorSan
import Derived.Test.YtbfknapmhkpgcaaGreatDoorDiv64b

namespace Go.Proofs.YtbfknapmhkpgcaaGreatDoor
open Go.RowKit
set_option linter.unusedVariables false

theorem tm_bd (a : Int) : -2533359615 ≤ a.tmod 2533359616 ∧ a.tmod 2533359616 ≤ 2533359615 := by
  rcases Int.le_total 0 a with h | h
  · have h1 := Int.tmod_nonneg (a := a) 2533359616 h
    have h2 := Int.tmod_lt_of_pos a (b := 2533359616) (by decide)
    omega
  · have h1 := Int.tmod_nonneg (a := -a) 2533359616 (by omega)
    have h2 := Int.tmod_lt_of_pos (-a) (b := 2533359616) (by decide)
    rw [Int.neg_tmod] at h1 h2
    omega

theorem hdiv : Hid (∀ s, s ≤ 19 → DivOk (10 ^ s)) := Lib.hid (fun s hs => divOk (10 ^ s) (Nat.pow_pos (by decide)) (p10_le s hs))

theorem hsan (w : World) (hP : P10 w) (hQ : TabQ w) : Hid (∀ W, Below w.heap.size w W → Calls Tryz.prog 20 #[] W fun r W' => r = .returned (.bool true) ∧ Below W.heap.size W W') :=
  Lib.hid (fun W hW => san_any W (hP.kept hW (Nat.le_refl _)) (hQ.kept hW) (hP.kept hW (Nat.le_refl _)).2 hdiv)

end Go.Proofs.YtbfknapmhkpgcaaGreatDoor
