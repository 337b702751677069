/- The walk of the statement IntegerCounts. -/
import Derived.Test.YtfklicofohaccaaProg
import Derived.Test.YtfklicofohaccaaSum
import Derived.Test.YtfklicofohaccaaTrip
import Derived.OpenShut
import Derived.WalkKit
import Derived.Below
import Derived.Lib.Hide

namespace Go.Proofs.Ytfklicofohaccaa.integerCounts
open Go.RowKit
set_option linter.unusedVariables false

/-- what is known of a slice of integers that came in -/
def IsRow (w : World) (a : Option Addr) (len cap : Nat) (zs : List Int) : Prop :=
  (a = none ∧ len = 0 ∧ cap = 0 ∧ zs = []) ∨
  ∃ x, a = some x ∧ len ≤ cap ∧ cap ≤ maxLen ∧ zs.length = cap ∧ (∀ i, i < zs.length → w.cell? (x.add i) = some (.int .i64 (zs.getD i 0))) ∧ ∀ n ∈ zs, (Lit.int .i64 n).wf = true
theorem IsRow.reads {w : World} {a : Option Addr} {len cap : Nat} {zs : List Int} (h : IsRow w a len cap zs) : ∃ l : List Int, l.length = len ∧ Reads w a l ∧ len ≤ maxLen := by
  rcases h with ⟨rfl, rfl, rfl, rfl⟩ | ⟨x, rfl, h1, h2, h3, h4, h5⟩
  · exact ⟨[], rfl, .inl rfl, by unfold maxLen; omega⟩
  · refine ⟨zs.take len, by rw [List.length_take]; omega, ?_, by omega⟩
    by_cases hl : len = 0
    · left; rw [hl]; rfl
    · right
      obtain ⟨b, off, rfl, hc⟩ := ints_at h4 (by omega)
      refine ⟨b, off, rfl, fun i hi => ?_⟩
      rw [List.length_take] at hi
      rw [List.getElem?_take_of_lt (by omega)]
      have := hc i (by omega)
      simpa using this

set_option maxRecDepth 100000 in
set_option maxHeartbeats 1600000 in
theorem run (a0 : Option Addr) (len0 cap0 : Nat) (z0 : List Int) (a1 : Int) (a2 : Int) (a3 : Int) (w : World) (w0 : IsRow w a0 len0 cap0 z0) (w1 : (Lit.int .i64 a1).wf = true) (w2 : (Lit.int .i64 a2).wf = true) (w3 : (Lit.int .i64 a3).wf = true) :
    Calls Try.prog 5 #[.slice a0 len0 cap0, .int .i64 a1, .int .i64 a2, .int .i64 a3] w fun e w' => e = .returned (.bool true) ∧ w = w' := by
  obtain ⟨l, rfl, hR, hm⟩ := w0.reads
  unfold maxLen at hm
  have HR := Lib.hid hR
  clear w0 hR w1 w2 w3
  go_enter Try.func5, Try.ntmps5
  go_wp2_with fail
  refine (sum_any a0 cap0 l _ HR.out (by omega)).mono ?_; rintro e w' ⟨rfl, rfl⟩
  go_wp2_with fail
  refine (rsum_any a0 cap0 l _ HR.out (by omega)).mono ?_; rintro e w' ⟨rfl, rfl⟩
  go_wp2_with fail
  refine (trips_any _ _ _ _).mono ?_; rintro e w' ⟨rfl, rfl⟩
  go_wp2_with fail
  refine (rtrips_any _ _ _ _).mono ?_; rintro e w' ⟨rfl, rfl⟩
  go_wp2_with fail
  refine (awake_any _).mono ?_; rintro e w' ⟨rfl, rfl⟩
  go_wp2_with fail
  go_ret
  exact ⟨rfl, rfl⟩

end Go.Proofs.Ytfklicofohaccaa.integerCounts
