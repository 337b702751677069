/-
  PACKAGE real: the exported functions that need no rounding.
-/
import Derived.Test.YticiabgnegbbmaaGreatDoorReal3

namespace Go.Proofs.YticiabgnegbbmaaGreatDoor
open Go.RowKit
set_option linter.unusedVariables false

abbrev rE (m e er : Int) : Value := .tuple #[realV m e, .int .i64 er]

abbrev iE (v er : Int) : Value := .tuple #[.int .i64 v, .int .i64 er]

theorem valid_is {m e : Int} {b : Bool} (h : vr m e = b) (w : World) (h1 : -9223372036854775808 ≤ m) (h2 : m ≤ 9223372036854775807) :
    Calls Tryz.prog 8 #[realV m e] w fun r w' => r = .returned (.bool b) ∧ Below w.heap.size w w' := by
  subst h
  exact valid_any m e w h1 h2

end Go.Proofs.YticiabgnegbbmaaGreatDoor
