/-
  PACKAGE lex: slices.EqualFunc of tokens; Same.
-/
import Derived.Test.YtnmifeiokhpcfaaDoorTok3

namespace Go.Proofs.YtnmifeiokhpcfaaDoor
open Go.RowKit
set_option linter.unusedVariables false

set_option maxRecDepth 100000 in
set_option maxHeartbeats 1600000 in
theorem equalFunc_any (o o2 : Option Addr) (cap cap2 : Nat) (l l2 : List To) (w : World) (hr : Row w o l) (hr2 : Row w o2 l2) (hl : l.length ≤ maxLen) :
    Calls Tryd.prog 21 #[.slice o l.length cap, .slice o2 l2.length cap2, .func (.func 22) #[] #[]] w fun r w' => r = .returned (.bool (sameT l l2)) ∧ Below w.heap.size w w' := by
  have hl2 : l.length ≤ 9223372036854775807 := by have := hl; unfold maxLen at this; omega
  by_cases hle : l.length = l2.length
  · have HR := Lib.hid hr
    have HR2 := Lib.hid hr2
    have HS := Lib.hid (show sameT l l2 = sameT (l.drop 0) (l2.drop 0) from rfl)
    have HLE := Lib.hid hle
    clear hr hr2
    have hne : ((l.length : Int) != (l2.length : Int)) = false := by simp [hle]
    go_enter Tryd.func21, Tryd.ntmps21
    clear hle
    go_wp2_with fail
    go_loopw [7, 8, 9, 17] (fun _ _ _ i w' => ∃ k : Nat, k ≤ l.length ∧ i = .int .i64 k ∧ sameT l l2 = sameT (l.drop k) (l2.drop k) ∧ Below w.heap.size w w') (fun _ _ _ i _ => l.length - (intOf i).toNat)
    case atStart => exact ⟨0, Nat.zero_le _, rfl, HS.out, Below.refl _ _⟩
    case round =>
      obtain ⟨k, hk, rfl, hq, hbw⟩ := hrel
      have HQ := Lib.hid hq
      clear hq
      by_cases hlt : k < l.length
      · have hlt2 : k < l2.length := by rw [← HLE.out]; exact hlt
        obtain ⟨a, rfl, ha⟩ := HR.out.kept hbw k hlt
        obtain ⟨b, rfl, hb⟩ := HR2.out.kept hbw k hlt2
        have HBW := Lib.hid hbw
        clear hbw
        obtain ⟨lt, c0, c1, c2, c3, c4, c5, c6⟩ := ha
        have hbk : ∀ ob, At7 (wr.alloc ob) (b.add (k * 7)) l2[k] := fun ob => hb.kept ((Below.refl _ _).alloc (Nat.le_refl _) _)
        have hb2 := hbk (.cells #[.int .i64 l[k].kind, .string l[k].text, .int .i64 l[k].n, .int .i64 l[k].man, .int .i64 l[k].ex, .int .i64 l[k].ofs, .int .i64 l[k].en] 37)
        obtain ⟨qlt, q0, q1, q2, q3, q4, q5, q6⟩ := hb
        obtain ⟨plt, p0, p1, p2, p3, p4, p5, p6⟩ := hb2
        have HM := Lib.hid (HQ.out.trans (sameT_step l l2 k hlt hlt2))
        generalize l[k] = t at *
        generalize l2[k] = t2 at *
        clear hbk
        go_wp2_with fail
        refine (equal_any t t2 _).mono ?_
        rintro r w1 ⟨rfl, hb1⟩
        have HB1 := Lib.hid (((HBW.out.alloc HBW.out.size _).alloc (by have := HBW.out.size; simp; omega) _).trans (hb1.mono (by have := HBW.out.size; simp; omega)))
        clear hb1
        cases hx : alikeT t t2
        · rw [hx, Bool.false_and] at HM
          clear hx
          go_wp2_with fail
          go_ret
          exact ⟨by rw [HM.out]; rfl, HB1.out⟩
        · rw [hx, Bool.true_and] at HM
          clear hx
          go_wp2_with fail
          go_roundw
          case rel => exact ⟨k + 1, by omega, by go_num, HM.out, HB1.out⟩
          case measure => simp [intOf]; omega
      · have HE := Lib.hid (HQ.out.trans (sameT_end l l2 k (by omega) (by have := HLE.out; omega)))
        have hke : k = l.length := by omega
        subst hke
        go_wp2_with fail
        go_ret
        exact ⟨by rw [HE.out]; rfl, hbw⟩
  · have hne : ((l.length : Int) != (l2.length : Int)) = true := by simp; omega
    go_enter Tryd.func21, Tryd.ntmps21
    go_wp2_with fail
    go_ret
    exact ⟨by rw [sameT_ne l l2 hle]; rfl, Below.refl _ _⟩

theorem same_any (o o2 : Option Addr) (cap cap2 : Nat) (l l2 : List To) (w : World) (hr : Row w o l) (hr2 : Row w o2 l2) (hl : l.length ≤ maxLen) :
    Calls Tryd.prog 11 #[.slice o l.length cap, .slice o2 l2.length cap2] w fun r w' => r = .returned (.bool (sameT l l2)) ∧ Below w.heap.size w w' := by
  have HE := Lib.hid (equalFunc_any o o2 cap cap2 l l2 w hr hr2 hl)
  clear hr hr2
  go_enter Tryd.func11, Tryd.ntmps11
  go_wp2_with fail
  refine HE.out.mono ?_
  rintro r w1 ⟨rfl, hb1⟩
  have HB1 := Lib.hid hb1
  clear hb1
  go_wp2_with fail
  go_ret
  exact ⟨rfl, HB1.out⟩
end Go.Proofs.YtnmifeiokhpcfaaDoor
