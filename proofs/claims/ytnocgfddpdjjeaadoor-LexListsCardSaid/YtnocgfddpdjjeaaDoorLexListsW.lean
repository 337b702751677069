/-
  The walk of the statement LexLists.
-/
import Derived.Test.YtnocgfddpdjjeaaDoorTok5
import Derived.Test.YtnocgfddpdjjeaaDoorLex17
import Derived.WalkKit

namespace Go.Proofs.YtnocgfddpdjjeaaDoor.lexLists
open Go.RowKit
set_option linter.unusedVariables false

set_option maxRecDepth 100000 in
set_option maxHeartbeats 1600000 in
theorem run (o0 o1 : Option Addr) (c0 c1 : Nat) (l0 l1 : List To) (a2 : Int) (w : World) (hr0 : Row w o0 l0) (hl0 : l0.length ≤ maxLen) (hr1 : Row w o1 l1) (hl1 : l1.length ≤ maxLen) (w2 : (Lit.int .i64 a2).wf = true) (ht1 : TabAt w w.heap.size 1 wordL) (ht2 : TabAt w w.heap.size 2 signL) :
    Calls Tryd.prog 3 #[.slice o0 l0.length c0, .slice o1 l1.length c1, .int .i64 a2] w fun e w' => e = .returned (.bool true) ∧ Below w.heap.size w w' := by
  have HX := Lib.hid (show ∀ w', Below w.heap.size w w' → Row w' o0 l0 ∧ Row w' o1 l1 ∧ TabAt w' w'.heap.size 1 wordL ∧ TabAt w' w'.heap.size 2 signL from
    fun w' h => ⟨hr0.kept h, hr1.kept h, (ht1.kept h (Nat.le_refl _)).mono h.size, (ht2.kept h (Nat.le_refl _)).mono h.size⟩)
  have HL0 := Lib.hid hl0
  have HL1 := Lib.hid hl1
  have L1 := Lib.hid (diff_any o0 o1 c0 c1 l0 l1 w hr0 hr1 hl0 hl1)
  clear hr0 hr1 ht1 ht2 w2 hl0 hl1
  have hp : ∃ x y, fndV l0 a2 0 = .tuple #[.int .i64 x, .int .i64 y] := by unfold fndV; split <;> exact ⟨_, _, rfl⟩
  obtain ⟨fx, fy, hf⟩ := hp
  have HF := Lib.hid hf
  clear hf
  go_enter Tryd.func3, Tryd.ntmps3
  go_wp2_with fail
  refine L1.out.mono ?_
  rintro e w1 ⟨rfl, h1⟩
  have H1 := Lib.hid h1
  clear h1
  go_wp2_with fail
  refine (rdiff_any o0 o1 c0 c1 l0 l1 w1 (HX.out _ H1.out).1 (HX.out _ H1.out).2.1 HL0.out HL1.out).mono ?_
  rintro e w2 ⟨rfl, h2⟩
  have H2 := Lib.hid (H1.out.trans (h2.mono H1.out.size))
  clear h2
  go_wp2_with fail
  refine (find_any o0 c0 l0 a2 w2 (HX.out _ H2.out).1 HL0.out).mono ?_
  rintro e w3 ⟨rfl, h3⟩
  have H3 := Lib.hid (H2.out.trans (h3.mono H2.out.size))
  clear h3
  rw [HF.out]
  go_wp2_with fail
  refine (rfind_any o0 c0 l0 a2 w3 (HX.out _ H3.out).1 HL0.out).mono ?_
  rintro e w4 ⟨rfl, h4⟩
  have H4 := Lib.hid (H3.out.trans (h4.mono H3.out.size))
  clear h4
  rw [HF.out]
  go_wp2_with fail
  refine (awake_any w4 (HX.out _ H4.out).2.2.1 (HX.out _ H4.out).2.2.2).mono ?_
  rintro e w5 ⟨rfl, h5⟩
  have H5 := Lib.hid (H4.out.trans (h5.mono H4.out.size))
  clear h5
  go_wp2_with fail
  refine (same_any o0 o1 c0 c1 l0 l1 w5 (HX.out _ H5.out).1 (HX.out _ H5.out).2.1 HL0.out).mono ?_
  rintro e w6 ⟨rfl, h6⟩
  have H6 := Lib.hid (H5.out.trans (h6.mono H5.out.size))
  clear h6
  go_wp2_with fail
  refine (rsame_any o0 o1 c0 c1 l0 l1 w6 (HX.out _ H6.out).1 (HX.out _ H6.out).2.1 HL0.out).mono ?_
  rintro e w7 ⟨rfl, h7⟩
  have H7 := Lib.hid (H6.out.trans (h7.mono H6.out.size))
  clear h7
  generalize sameT l0 l1 = b at *
  cases b
  all_goals
    go_wp2_with fail
    go_ret
    exact ⟨rfl, H7.out⟩

end Go.Proofs.YtnocgfddpdjjeaaDoor.lexLists
