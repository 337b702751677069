/-
  PACKAGE lex: lists of tokens that came in: Same.
-/
import Derived.Test.YtiekdgeopicceaaDoorTok2
import Derived.StillTailTactics

namespace Go.Proofs.YtiekdgeopicceaaDoor
open Go.RowKit
set_option linter.unusedVariables false

/-- two lists of tokens are the same but for offsets -/
def sameT : List To → List To → Bool
  | [], [] => true
  | x :: a, y :: b => alikeT x y && sameT a b
  | _, _ => false
theorem sameT_ne (a b : List To) (h : a.length ≠ b.length) : sameT a b = false := by
  induction a generalizing b with
  | nil => cases b with
    | nil => exact absurd rfl h
    | cons y b => rfl
  | cons x a ih => cases b with
    | nil => rfl
    | cons y b => simp only [sameT, ih b (by simpa using h), Bool.and_false]
theorem sameT_step (a b : List To) (k : Nat) (h : k < a.length) (h2 : k < b.length) : sameT (a.drop k) (b.drop k) = (alikeT a[k] b[k] && sameT (a.drop (k + 1)) (b.drop (k + 1))) := by
  rw [List.drop_eq_getElem_cons h, List.drop_eq_getElem_cons h2]
  rfl
theorem sameT_end (a b : List To) (k : Nat) (h : a.length ≤ k) (h2 : b.length ≤ k) : sameT (a.drop k) (b.drop k) = true := by
  rw [List.drop_eq_nil_of_le h, List.drop_eq_nil_of_le h2]
  rfl

set_option maxRecDepth 100000 in
set_option maxHeartbeats 1600000 in
theorem rsame_any (o o2 : Option Addr) (cap cap2 : Nat) (l l2 : List To) (w : World) (hr : Row w o l) (hr2 : Row w o2 l2) (hl : l.length ≤ maxLen) :
    Calls Tryd.prog 22 #[.slice o l.length cap, .slice o2 l2.length cap2] w fun r w' => r = .returned (.bool (sameT l l2)) ∧ Below w.heap.size w w' := by
  have hl2 : l.length ≤ 9223372036854775807 := by have := hl; unfold maxLen at this; omega
  by_cases hle : l.length = l2.length
  · have HR := Lib.hid hr
    have HR2 := Lib.hid hr2
    have HS := Lib.hid (show sameT l l2 = sameT (l.drop 0) (l2.drop 0) from rfl)
    have HLE := Lib.hid hle
    clear hr hr2
    have hne : ((l.length : Int) != (l2.length : Int)) = false := by simp [hle]
    go_enter Tryd.func22, Tryd.ntmps22
    clear hle
    go_wp2_with fail
    go_loopw [5] (fun i w' => ∃ k : Nat, k ≤ l.length ∧ i = .int .i64 k ∧ sameT l l2 = sameT (l.drop k) (l2.drop k) ∧ Below w.heap.size w w') (fun i _ => l.length - (intOf i).toNat)
    case atStart => exact ⟨0, Nat.zero_le _, rfl, HS.out, Below.refl _ _⟩
    case round =>
      obtain ⟨k, hk, rfl, hq, hbw⟩ := hrel
      have HQ := Lib.hid hq
      clear hq
      by_cases hlt : k < l.length
      · have hlt2 : k < l2.length := by rw [← HLE.out]; exact hlt
        obtain ⟨a, rfl, ha⟩ := HR.out.kept hbw k hlt
        obtain ⟨b, rfl, hb⟩ := HR2.out.kept hbw k hlt2
        have HBW := Lib.hid hbw
        clear hbw
        obtain ⟨lt, c0, c1, c2, c3, c4, c5, c6⟩ := ha
        obtain ⟨qlt, q0, q1, q2, q3, q4, q5, q6⟩ := hb
        have HM := Lib.hid (HQ.out.trans (sameT_step l l2 k hlt hlt2))
        generalize l[k] = t at *
        generalize l2[k] = t2 at *
        go_wp2_with fail
        go_still_tail 8, (by kernel_rfl)
        change wpList _ _ _ _ _ wr.drew
        go_wp2_with fail
        refine (alike_any t t2 _).mono ?_
        rintro r w1 ⟨rfl, hb1⟩
        have HB1 := Lib.hid (HBW.out.drew.trans (hb1.mono (by have := HBW.out.size; simpa using this)))
        clear hb1
        cases hx : alikeT t t2
        · rw [hx, Bool.false_and] at HM
          clear hx
          go_wp2_with fail
          go_ret
          exact ⟨by rw [HM.out]; rfl, HB1.out⟩
        · rw [hx, Bool.true_and] at HM
          clear hx
          go_wp2_with fail
          go_roundw
          case rel => exact ⟨k + 1, by omega, by go_num, HM.out, HB1.out⟩
          case measure => simp [intOf]; omega
      · have HE := Lib.hid (HQ.out.trans (sameT_end l l2 k (by omega) (by have := HLE.out; omega)))
        have hke : k = l.length := by omega
        subst hke
        go_wp2_with fail
        go_ret
        exact ⟨by rw [HE.out]; rfl, hbw⟩
  · have hne : ((l.length : Int) != (l2.length : Int)) = true := by simp; omega
    go_enter Tryd.func22, Tryd.ntmps22
    go_wp2_with fail
    go_ret
    exact ⟨by rw [sameT_ne l l2 hle]; rfl, Below.refl _ _⟩
end Go.Proofs.YtiekdgeopicceaaDoor
