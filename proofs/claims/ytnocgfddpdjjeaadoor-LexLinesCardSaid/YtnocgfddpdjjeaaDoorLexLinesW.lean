/-
  The walk of the statement LexLines.
-/
import Derived.Test.YtnocgfddpdjjeaaDoorLine
import Derived.Test.YtnocgfddpdjjeaaDoorLex17
import Derived.WalkKit

namespace Go.Proofs.YtnocgfddpdjjeaaDoor.lexLines
open Go.RowKit
set_option linter.unusedVariables false

set_option maxHeartbeats 800000 in
theorem run (a0 : ByteArray) (a1 : Int) (w : World) (w0 : a0.size ≤ maxLen) (w1 : (Lit.int .i64 a1).wf = true) (hb : a0.size < 4611686018427387904) (ht1 : TabAt w w.heap.size 1 wordL) (ht2 : TabAt w w.heap.size 2 signL) :
    Calls Tryd.prog 4 #[.string a0, .int .i64 a1] w fun e w' => e = .returned (.bool true) ∧ Below w.heap.size w w' := by
  have AW := Lib.hid (awake_any w ht1 ht2)
  clear ht1 ht2 w1
  by_cases h : a1 < 0 ∨ (a0.size : Int) < a1
  · have L1 := Lib.hid (line_out a0 a1 w h)
    have L2 := Lib.hid (rline_out a0 a1 w h)
    clear h
    go_enter Tryd.func4, Tryd.ntmps4
    go_wp2_with fail
    refine L1.out.mono ?_
    rintro e w' ⟨rfl, rfl⟩
    go_wp2_with fail
    refine L2.out.mono ?_
    rintro e w' ⟨rfl, rfl⟩
    go_wp2_with fail
    refine AW.out.mono ?_
    rintro e w' ⟨rfl, hb'⟩
    have HB := Lib.hid hb'
    clear hb'
    go_wp2_with fail
    go_ret
    exact ⟨rfl, HB.out⟩
  · obtain ⟨n, rfl⟩ : ∃ n : Nat, a1 = n := ⟨a1.toNat, by omega⟩
    have hn : n ≤ a0.size := by omega
    have L1 := Lib.hid (line_in a0 n w hn hb)
    have L2 := Lib.hid (rline_in a0 n w hn hb)
    generalize lc a0 n = p at *
    clear h
    go_enter Tryd.func4, Tryd.ntmps4
    go_wp2_with fail
    refine L1.out.mono ?_
    rintro e w' ⟨rfl, rfl⟩
    go_wp2_with fail
    refine L2.out.mono ?_
    rintro e w' ⟨rfl, rfl⟩
    go_wp2_with fail
    refine AW.out.mono ?_
    rintro e w' ⟨rfl, hb'⟩
    have HB := Lib.hid hb'
    clear hb'
    go_wp2_with fail
    go_ret
    exact ⟨rfl, HB.out⟩

end Go.Proofs.YtnocgfddpdjjeaaDoor.lexLines
