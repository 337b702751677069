/-
  LexStrips: the ways.
-/
import Derived.Test.YtnmifeiokhpcfaaDoorLexStp
import Derived.Test.YtnmifeiokhpcfaaDoorLex17
import Derived.Test.YtnmifeiokhpcfaaDoorTok4
import Derived.WalkKit

namespace Go.Proofs.YtnmifeiokhpcfaaDoor.lexStrips
open Go.RowKit
set_option linter.unusedVariables false

set_option maxRecDepth 100000 in
set_option maxHeartbeats 1600000 in
theorem run_err (s : ByteArray) (er at_ : Int) (he : (er != 0) = true) (w : World) (AW : Hid (Calls Tryd.prog 5 #[] w fun e w' => e = .returned (.bool true) ∧ Below w.heap.size w w')) (LX : Hid (∀ w1, Below w.heap.size w w1 → Calls Tryd.prog 6 #[.string s] w1 fun r w' => r = .returned (.tuple #[.slice none 0 0, .int .i64 er, .int .i64 at_]) ∧ Below w1.heap.size w1 w')) (ST : Hid (∀ w1, Below w.heap.size w w1 → Calls Tryd.prog 10 #[.string s] w1 fun r w' => r = .returned (.tuple #[.string ⟨#[]⟩, .int .i64 er, .int .i64 at_]) ∧ Below w1.heap.size w1 w')) :
    Calls Tryd.prog 4 #[.string s] w fun e w' => e = .returned (.bool true) ∧ Below w.heap.size w w' := by
  go_enter Tryd.func4, Tryd.ntmps4
  go_wp2_with fail
  refine AW.out.mono ?_
  rintro e w1 ⟨rfl, hb1⟩
  have B1 := Lib.hid hb1
  clear hb1
  go_wp2_with fail
  refine (LX.out w1 B1.out).mono ?_
  rintro e w2 ⟨rfl, hb2⟩
  have B2 := Lib.hid (B1.out.trans (hb2.mono B1.out.size))
  clear hb2
  go_wp2_with fail
  refine (ST.out w2 B2.out).mono ?_
  rintro e w3 ⟨rfl, hb3⟩
  have B3 := Lib.hid (B2.out.trans (hb3.mono B2.out.size))
  clear hb3
  go_wp2_with fail
  go_ret
  exact ⟨rfl, B3.out⟩

set_option maxRecDepth 100000 in
set_option maxHeartbeats 1600000 in
theorem run_ok (s S : ByteArray) (l m : List To) (hl : l.length ≤ 131072) (hm : m.length ≤ 131072) (hss : sameT l m = true) (hsz : (S.size : Int) ≤ (s.size : Int)) (w : World) (AW : Hid (Calls Tryd.prog 5 #[] w fun e w' => e = .returned (.bool true) ∧ Below w.heap.size w w')) (LX : Hid (∀ w1, Below w.heap.size w w1 → Calls Tryd.prog 6 #[.string s] w1 fun r w' => ∃ o q, r = .returned (.tuple #[.slice o l.length q, .int .i64 0, .int .i64 0]) ∧ Row w' o l ∧ (o = none → q = 0) ∧ l.length ≤ q ∧ Below w1.heap.size w1 w')) (ST : Hid (∀ w1, Below w.heap.size w w1 → Calls Tryd.prog 10 #[.string s] w1 fun r w' => r = .returned (.tuple #[.string S, .int .i64 0, .int .i64 0]) ∧ Below w1.heap.size w1 w')) (LM : Hid (∀ w1, Below w.heap.size w w1 → Calls Tryd.prog 6 #[.string S] w1 fun r w' => ∃ o q, r = .returned (.tuple #[.slice o m.length q, .int .i64 0, .int .i64 0]) ∧ Row w' o m ∧ (o = none → q = 0) ∧ m.length ≤ q ∧ Below w1.heap.size w1 w')) (CM : Hid (∀ w1, Below w.heap.size w w1 → Calls Tryd.prog 7 #[.string S] w1 fun r w' => ∃ o q, r = .returned (.tuple #[.slice o 0 q, .int .i64 0, .int .i64 0]) ∧ Below w1.heap.size w1 w')) :
    Calls Tryd.prog 4 #[.string s] w fun e w' => e = .returned (.bool true) ∧ Below w.heap.size w w' := by
  have HSS := Lib.hid hss
  clear hss
  go_enter Tryd.func4, Tryd.ntmps4
  go_wp2_with fail
  refine AW.out.mono ?_
  rintro e w1 ⟨rfl, hb1⟩
  have B1 := Lib.hid hb1
  clear hb1
  go_wp2_with fail
  refine (LX.out w1 B1.out).mono ?_
  rintro e w2 ⟨o, q, rfl, hrow2, hnone2, hcap2, hb2⟩
  have RW2 := Lib.hid hrow2
  have NN2 := Lib.hid (And.intro hnone2 hcap2)
  have hb2' := Lib.hid hb2
  have B2 := Lib.hid (B1.out.trans (hb2.mono B1.out.size))
  clear hb2 hrow2 hnone2 hcap2
  go_wp2_with fail
  refine (ST.out w2 B2.out).mono ?_
  rintro e w3 ⟨rfl, hb3⟩
  have B3 := Lib.hid (B2.out.trans (hb3.mono B2.out.size))
  have RW3 := Lib.hid (RW2.out.kept hb3)
  clear hb3
  go_wp2_with fail
  refine (LM.out w3 B3.out).mono ?_
  rintro e w4 ⟨o4, q4, rfl, hrow4, hnone4, hcap4, hb4⟩
  have RW4 := Lib.hid hrow4
  have NN4 := Lib.hid (And.intro hnone4 hcap4)
  have hb4' := Lib.hid hb4
  have B4 := Lib.hid (B3.out.trans (hb4.mono B3.out.size))
  clear hb4 hrow4 hnone4 hcap4
  have R4 := Lib.hid (RW3.out.kept hb4'.out)
  go_wp2_with fail
  refine (CM.out w4 B4.out).mono ?_
  rintro e w5 ⟨o5, q5, rfl, hb5⟩
  have R5 := Lib.hid (R4.out.kept hb5)
  have M5 := Lib.hid (RW4.out.kept hb5)
  have B5 := Lib.hid (B4.out.trans (hb5.mono B4.out.size))
  clear hb5
  go_wp2_with fail
  refine (same_any o o4 q q4 l m _ R5.out M5.out (by unfold maxLen; omega)).mono ?_
  rintro e w6 ⟨rfl, hb6⟩
  have B6 := Lib.hid (B5.out.trans (hb6.mono B5.out.size))
  clear hb6
  rw [HSS.out]
  go_wp2_with fail
  go_ret
  exact ⟨rfl, B6.out⟩

theorem run (a0 : ByteArray) (w : World) (w0 : a0.size ≤ maxLen) (hb0 : a0.size < 4611686018427387904) (ht1 : TabAt w w.heap.size 0 wordL) (ht2 : TabAt w w.heap.size 1 signL) (hP : re.P10 w) :
    Calls Tryd.prog 4 #[.string a0] w fun e w' => e = .returned (.bool true) ∧ Below w.heap.size w w' := by
  have AW := Lib.hid (awake_any w ht1 ht2)
  by_cases hs : a0.size ≤ 1048576
  · cases hr : scan (numN a0) a0 (a0.size + 1) 0 [] with
    | error x =>
      obtain ⟨e, i⟩ := x
      exact run_err a0 e i (by simpa using scan_err (fun a e h => numN_err h) _ _ _ _ _ hr) w AW (Lib.hid (lex_bad hs ht1 ht2 hP hr)) (Lib.hid (strip_bad hs ht1 ht2 hP hr))
    | ok l =>
      have hl := tk_len (numN_good a0) hr
      obtain ⟨xs, x1, x2, x3, x4, x5, x6, x7⟩ := coms_ok hs ht1 ht2 hP hr
      obtain ⟨S, hSe⟩ : ∃ S : ByteArray, S = ⟨(stripV a0 xs).toArray⟩ := ⟨_, rfl⟩
      have hSd : S.data.toList = stripV a0 xs := by rw [hSe]
      rw [← hSe] at x7
      obtain ⟨l', y1, y2, y3, y4⟩ := strip_scan (numN_good a0) (numN_good S) (fun a e t h => numN_kind a e t h) (fun a e t h => numN_may a e t h) (fun p q m E => numN_emb E) hr hl (fun u hu => (tk_bd hr u hu).1) x3 x1 hSd
      have hS : S.size ≤ 1048576 := by omega
      have hl' := tk_len (numN_good S) y1
      obtain ⟨ys, z1, z2, z3, z4, z5, z6, z7⟩ := coms_ok hS ht1 ht2 hP y1
      obtain rfl := y3 ys z1 z3
      have ll : (l.map Tk.to).length = l.length := List.length_map _
      have lm : (l'.map Tk.to).length = l'.length := List.length_map _
      refine run_ok a0 S (l.map Tk.to) (l'.map Tk.to) (by omega) (by omega) (same_key l l' y2) (by omega) w AW (Lib.hid (lex_row hs ht1 ht2 hP hr)) (Lib.hid x7) (Lib.hid (lex_row hS ht1 ht2 hP y1)) (Lib.hid fun w1 hb => ?_)
      refine (z6 w1 hb).mono ?_
      rintro r w' ⟨v, rfl, ho, hb'⟩
      rcases ho.2 with ⟨rfl, _⟩ | ⟨g, cap, cur, rfl, _⟩
      · exact ⟨_, _, rfl, hb'⟩
      · exact ⟨_, _, rfl, hb'⟩
  · exact run_err a0 2 0 (by decide) w AW (Lib.hid fun w1 _ => lex_long (by omega)) (Lib.hid fun w1 _ => strip_err (by decide) fun w2 _ => lex_long (by omega))

end Go.Proofs.YtnmifeiokhpcfaaDoor.lexStrips
