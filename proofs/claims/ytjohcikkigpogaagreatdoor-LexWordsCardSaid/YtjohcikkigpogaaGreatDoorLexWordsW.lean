/-
  The walk of the statement LexWords.
-/
import Derived.Test.YtjohcikkigpogaaGreatDoorWordN
import Derived.WalkKit

namespace Go.Proofs.YtjohcikkigpogaaGreatDoor.lexWords
open Go.RowKit
set_option linter.unusedVariables false

set_option maxRecDepth 100000 in
set_option maxHeartbeats 1600000 in
theorem run (a0 : ByteArray) (w : World) (w0 : a0.size ≤ maxLen) (ht1 : TabAt w w.heap.size 0 wordL) (ht2 : TabAt w w.heap.size 1 signL) :
    Calls Tryz.prog 3 #[.string a0] w fun e w' => e = .returned (.bool true) ∧ Below w.heap.size w w' := by
  have hs : a0.size ≤ 9223372036854775807 := w0
  have HX := Lib.hid (show ∀ w', Below w.heap.size w w' → TabAt w' w'.heap.size 0 wordL ∧ TabAt w' w'.heap.size 1 signL from
    fun w' h => ⟨(ht1.kept h (Nat.le_refl _)).mono h.size, (ht2.kept h (Nat.le_refl _)).mono h.size⟩)
  have L1 := Lib.hid (words_any w ht1)
  have HS := Lib.hid hs
  clear ht1 ht2 w0 hs
  have e1 : wordL.length ≤ 1000 := by decide
  have e2 : signL.length ≤ 1000 := by decide
  have HE1 := Lib.hid e1
  have HE2 := Lib.hid e2
  clear e1 e2
  have HN := Lib.hid (fun w => rname_any a0 w HS.out)
  have HM := Lib.hid (fun w h => name_any (B := w.heap.size) a0 w HS.out h)
  have HI := Lib.hid (fun w h => isWord_any (w := w) (B := w.heap.size) a0 h)
  have HJ := Lib.hid (fun w => riw_any a0 w)
  generalize nmB a0 = p at *
  generalize Lib.containsS wordL a0 = q at *
  go_enter Tryz.func3, Tryz.ntmps3
  go_wp2_with fail
  refine L1.out.mono ?_
  rintro e w1 ⟨v, rfl, hv, h1⟩
  have V1 := Lib.hid hv
  have H1 := Lib.hid h1
  clear hv h1
  go_wp2_with fail
  refine (signs_any w1 (HX.out _ H1.out).2).mono ?_
  rintro e w2 ⟨u, rfl, hu, h2⟩
  have V2 := Lib.hid (V1.out.kept h2)
  have U2 := Lib.hid hu
  have H2 := Lib.hid (H1.out.trans (h2.mono H1.out.size))
  clear hu h2
  go_wp2_with fail
  refine (rwords_any w2).mono ?_
  rintro e w3 ⟨v2, rfl, hv, h3⟩
  have V3 := Lib.hid (V2.out.kept h3)
  have U3 := Lib.hid (U2.out.kept h3)
  have R3 := Lib.hid hv
  have H3 := Lib.hid (H2.out.trans (h3.mono H2.out.size))
  clear hv h3
  go_wp2_with fail
  refine (equal_rows w3 v v2 wordL V3.out R3.out HE1.out).mono ?_
  rintro e w4 ⟨rfl, m, h4⟩
  have U4 := Lib.hid (show SR w4 u signL from by rw [h4]; exact U3.out.kept (below_drewN (Below.refl _ _) m))
  have H4 := Lib.hid (show Below w.heap.size w w4 from by rw [h4]; exact below_drewN H3.out m)
  clear h4 m
  go_wp2_with fail
  refine (rsigns_any w4).mono ?_
  rintro e w5 ⟨u2, rfl, hv, h5⟩
  have U5 := Lib.hid (U4.out.kept h5)
  have R5 := Lib.hid hv
  have H5 := Lib.hid (H4.out.trans (h5.mono H4.out.size))
  clear hv h5
  go_wp2_with fail
  refine (equal_rows w5 u u2 signL U5.out R5.out HE2.out).mono ?_
  rintro e w6 ⟨rfl, m, h6⟩
  have H6 := Lib.hid (show Below w.heap.size w w6 from by rw [h6]; exact below_drewN H5.out m)
  clear h6 m
  go_wp2_with fail
  refine (awake_any w6 (HX.out _ H6.out).1 (HX.out _ H6.out).2).mono ?_
  rintro e w7 ⟨rfl, h7⟩
  have H7 := Lib.hid (H6.out.trans (h7.mono H6.out.size))
  clear h7
  go_wp2_with fail
  refine (HI.out w7 (HX.out _ H7.out).1).mono ?_
  rintro e w7' ⟨rfl, rfl⟩
  go_wp2_with fail
  refine (HJ.out w7).mono ?_
  rintro e w8 ⟨rfl, h8⟩
  have H8 := Lib.hid (H7.out.trans (h8.mono H7.out.size))
  clear h8
  cases q <;> cases p
  all_goals
    go_wp2_with fail
    refine (HM.out w8 (HX.out _ H8.out).1).mono ?_
    rintro e w9 ⟨rfl, rfl⟩
    go_wp2_with fail
    refine (HN.out w9).mono ?_
    rintro e w10 ⟨rfl, h10⟩
    have H10 := Lib.hid (H8.out.trans (h10.mono H8.out.size))
    clear h10
    go_wp2_with fail
    go_ret
    exact ⟨rfl, H10.out⟩

end Go.Proofs.YtjohcikkigpogaaGreatDoor.lexWords
