/-
  PACKAGE lex: Diff; the document's own.
-/
import Derived.Test.YtnocgfddpdjjeaaDoorTok4

namespace Go.Proofs.YtnocgfddpdjjeaaDoor
open Go.RowKit
set_option linter.unusedVariables false

/-- how far f holds, from k on, n more at most -/
def cnt (f : Nat → Bool) : Nat → Nat → Nat
  | 0, k => k
  | n + 1, k => if f k = true then cnt f n (k + 1) else k
theorem cnt_le (f : Nat → Bool) (n k : Nat) : k ≤ cnt f n k ∧ cnt f n k ≤ k + n := by
  induction n generalizing k with
  | zero => simp [cnt]
  | succ n ih =>
    unfold cnt
    split
    · have := ih (k + 1); omega
    · omega
def fh (l l2 : List To) (k : Nat) : Bool := match l[k]?, l2[k]? with
  | some x, some y => alikeT x y
  | _, _ => false
def ft (l l2 : List To) (k : Nat) : Bool := match l[l.length - 1 - k]?, l2[l2.length - 1 - k]? with
  | some x, some y => alikeT x y
  | _, _ => false
def diffH (l l2 : List To) : Nat := cnt (fh l l2) (min l.length l2.length) 0
def diffT (l l2 : List To) : Nat := cnt (ft l l2) (min l.length l2.length - diffH l l2) 0
theorem diffH_le (l l2 : List To) : diffH l l2 ≤ min l.length l2.length := by have := (cnt_le (fh l l2) (min l.length l2.length) 0).2; unfold diffH; omega
theorem cnt_hit {f : Nat → Bool} {m k : Nat} (h : k < m) (hf : f k = true) : cnt f (m - k) k = cnt f (m - (k + 1)) (k + 1) := by
  obtain ⟨n, hn⟩ : ∃ n, m - k = n + 1 := ⟨m - k - 1, by omega⟩
  rw [hn, show m - (k + 1) = n from by omega]
  simp only [cnt, hf, if_true]
theorem cnt_miss {f : Nat → Bool} {m k : Nat} (h : k < m) (hf : f k = false) : cnt f (m - k) k = k := by
  obtain ⟨n, hn⟩ : ∃ n, m - k = n + 1 := ⟨m - k - 1, by omega⟩
  rw [hn]
  simp [cnt, hf]
theorem cnt_end {f : Nat → Bool} {m k : Nat} (h : m ≤ k) : cnt f (m - k) k = k := by
  rw [show m - k = 0 from by omega]
  rfl
theorem fh_is {l l2 : List To} {k : Nat} (h : k < l.length) (h2 : k < l2.length) : fh l l2 k = alikeT l[k] l2[k] := by
  simp only [fh, List.getElem?_eq_getElem h, List.getElem?_eq_getElem h2]
theorem ft_is {l l2 : List To} {k : Nat} (h : k < l.length) (h2 : k < l2.length) : ft l l2 k = alikeT (l[l.length - 1 - k]'(by omega)) (l2[l2.length - 1 - k]'(by omega)) := by
  simp only [ft, List.getElem?_eq_getElem (show l.length - 1 - k < l.length from by omega), List.getElem?_eq_getElem (show l2.length - 1 - k < l2.length from by omega)]

theorem below_drewN {b : Nat} {w w' : World} (h : Below b w w') (n : Nat) : Below b w (w'.drewN n) := ⟨h.os, h.tape, h.output, h.size, h.block⟩
theorem wrap64 (x : Int) (h1 : -9223372036854775808 ≤ x) (h2 : x ≤ 9223372036854775807) : IntKind.i64.wrap x = x := by
  rw [IntKind.wrap_i64]
  omega

set_option maxRecDepth 100000 in
set_option maxHeartbeats 3200000 in
theorem diff_any (o o2 : Option Addr) (cap cap2 : Nat) (l l2 : List To) (w : World) (hr : Row w o l) (hr2 : Row w o2 l2) (hl : l.length ≤ maxLen) (hl2 : l2.length ≤ maxLen) :
    Calls Tryd.prog 13 #[.slice o l.length cap, .slice o2 l2.length cap2] w fun r w' => r = .returned (.tuple #[.int .i64 (diffH l l2), .int .i64 (diffT l l2)]) ∧ Below w.heap.size w w' := by
  have hl3 : l.length ≤ 9223372036854775807 := by have := hl; unfold maxLen at this; omega
  have hl4 : l2.length ≤ 9223372036854775807 := by have := hl2; unfold maxLen at this; omega
  have HR := Lib.hid hr
  have HR2 := Lib.hid hr2
  clear hr hr2
  obtain ⟨m, hm⟩ : ∃ m, m = min l.length l2.length := ⟨_, rfl⟩
  have hmi : (min (l.length : Int) (l2.length : Int)) = (m : Int) := by omega
  have hm1 : m ≤ l.length := by omega
  have hm2 : m ≤ l2.length := by omega
  obtain ⟨H, hHe⟩ : ∃ H, H = diffH l l2 := ⟨_, rfl⟩
  have HH := Lib.hid (show H = cnt (fh l l2) (m - 0) 0 from by rw [hm, hHe]; rfl)
  have HT := Lib.hid (show diffT l l2 = cnt (ft l l2) (m - H - 0) 0 from by rw [hm, hHe]; rfl)
  have hH := diffH_le l l2
  rw [← hm, ← hHe] at hH
  have HHE := Lib.hid hHe
  have HMI := Lib.hid hmi
  clear hm hmi hHe
  go_enter Tryd.func13, Tryd.ntmps13
  go_wp2_with fail
  rw [HMI.out]
  go_loopw [4] (fun i w' => ∃ k : Nat, k ≤ m ∧ i = .int .i64 k ∧ H = cnt (fh l l2) (m - k) k ∧ Below w.heap.size w w') (fun i _ => m - (intOf i).toNat)
  case atStart => exact ⟨0, Nat.zero_le _, rfl, HH.out, Below.refl _ _⟩
  case round =>
    obtain ⟨k, hk, rfl, hq, hbw⟩ := hrel
    have HQ := Lib.hid hq
    clear hq
    by_cases hlt : k < m
    · have hk1 : k < l.length := by omega
      have hk2 : k < l2.length := by omega
      obtain ⟨a, ea, ha⟩ := HR.out.kept hbw k hk1
      obtain ⟨b, eb, hb⟩ := HR2.out.kept hbw k hk2
      subst ea
      subst eb
      have HBW := Lib.hid hbw
      clear hbw
      obtain ⟨lt, c0, c1, c2, c3, c4, c5, c6⟩ := ha
      obtain ⟨qlt, q0, q1, q2, q3, q4, q5, q6⟩ := hb
      have HM := Lib.hid (fh_is hk1 hk2)
      have HC1 := Lib.hid (cnt_hit (f := fh l l2) (m := m) (k := k) hlt)
      have HC0 := Lib.hid (cnt_miss (f := fh l l2) (m := m) (k := k) hlt)
      generalize l[k] = t at *
      generalize l2[k] = t2 at *
      go_wp2_with fail
      go_still_tail 12, (by kernel_rfl)
      change wpList _ _ _ _ _ wr.drew
      go_wp2_with fail
      refine (equal_any t t2 _).mono ?_
      rintro r w1 ⟨rfl, hb1⟩
      have HB1 := Lib.hid (HBW.out.drew.trans (hb1.mono (by have := HBW.out.size; simpa using this)))
      clear hb1
      cases hx : alikeT t t2
      · rw [hx] at HM
        have HE := Lib.hid (HQ.out.trans (HC0.out HM.out))
        clear hx
        obtain rfl : H = k := HE.out
        go_wp2_with fail
        have HBA := Lib.hid HB1.out
        clear HQ HH
        clear HM HC1 HC0 lt c0 c1 c2 c3 c4 c5 c6 qlt q0 q1 q2 q3 q4 q5 q6 HB1 HBW
        go_loopw [5] (fun i w' => ∃ j : Nat, j ≤ m - H ∧ i = .int .i64 j ∧ diffT l l2 = cnt (ft l l2) (m - H - j) j ∧ Below w.heap.size w w') (fun i _ => m - H - (intOf i).toNat)
        case atStart => exact ⟨0, Nat.zero_le _, rfl, HT.out, HBA.out⟩
        case round =>
          obtain ⟨j, hj, rfl, hq2, hbw2⟩ := hrel
          have HQ2 := Lib.hid hq2
          clear hq2
          have hbw := hbw2
          clear hbw2
          by_cases hlt3 : j < m - H
          · have hi1 : l.length - 1 - j < l.length := by omega
            have hi2 : l2.length - 1 - j < l2.length := by omega
            obtain ⟨a2, ea, ha⟩ := HR.out.kept hbw (l.length - 1 - j) hi1
            obtain ⟨b2, eb, hb⟩ := HR2.out.kept hbw (l2.length - 1 - j) hi2
            obtain rfl := Option.some.inj ea
            obtain rfl := Option.some.inj eb
            have HBW := Lib.hid hbw
            clear hbw
            obtain ⟨lt, c0, c1, c2, c3, c4, c5, c6⟩ := ha
            obtain ⟨qlt, q0, q1, q2, q3, q4, q5, q6⟩ := hb
            have HM := Lib.hid (ft_is (l := l) (l2 := l2) (k := j) (by omega) (by omega))
            have HC1 := Lib.hid (cnt_hit (f := ft l l2) (m := m - H) (k := j) hlt3)
            have HC0 := Lib.hid (cnt_miss (f := ft l l2) (m := m - H) (k := j) hlt3)
            generalize l[l.length - 1 - j] = t at *
            generalize l2[l2.length - 1 - j] = t2 at *
            have hd : ((j : Int) < (m : Int) - (H : Int)) := by omega
            have W1 : IntKind.i64.wrap ((m : Int) - H) = (m : Int) - H := wrap64 _ (by omega) (by omega)
            have W2 : IntKind.i64.wrap ((l.length : Int) - 1) = (l.length : Int) - 1 := wrap64 _ (by omega) (by omega)
            have W3 : IntKind.i64.wrap ((l.length : Int) - 1 - j) = ((l.length - 1 - j : Nat) : Int) := by rw [wrap64 _ (by omega) (by omega)]; omega
            have W4 : IntKind.i64.wrap ((l2.length : Int) - 1) = (l2.length : Int) - 1 := wrap64 _ (by omega) (by omega)
            have W5 : IntKind.i64.wrap ((l2.length : Int) - 1 - j) = ((l2.length - 1 - j : Nat) : Int) := by rw [wrap64 _ (by omega) (by omega)]; omega
            go_wp2_with fail
            go_still_tail 22, (by kernel_rfl)
            change wpList _ _ _ _ _ wr.drew
            go_wp2_with fail
            refine (equal_any t t2 _).mono ?_
            rintro r w3 ⟨rfl, hb3⟩
            have HB3 := Lib.hid (HBW.out.drew.trans (hb3.mono (by have := HBW.out.size; simpa using this)))
            clear hb3
            cases hx3 : alikeT t t2
            · rw [hx3] at HM
              have HE3 := Lib.hid (HQ2.out.trans (HC0.out HM.out))
              clear hx3
              go_wp2_with fail
              go_ret2
              exact ⟨by rw [HE3.out, ← HHE.out]; rfl, HB3.out⟩
            · rw [hx3] at HM
              clear hx3
              go_wp2_with fail
              go_roundw
              case rel => exact ⟨j + 1, by omega, by go_num, HQ2.out.trans (HC1.out HM.out), HB3.out⟩
              case measure => simp [intOf]; omega
          · have HE3 := Lib.hid (HQ2.out.trans (cnt_end (f := ft l l2) (by omega)))
            have W1 : IntKind.i64.wrap ((m : Int) - H) = (m : Int) - H := wrap64 _ (by omega) (by omega)
            have hd : decide ((j : Int) < (m : Int) - (H : Int)) = false := by simp; omega
            have HBW := Lib.hid hbw
            clear hbw
            go_wp2_with fail
            go_quiet (fail)
            go_wp2_with fail
            go_ret2
            exact ⟨by rw [HE3.out, ← HHE.out]; rfl, below_drewN HBW.out _⟩
      · rw [hx] at HM
        clear hx
        go_wp2_with fail
        go_roundw
        case rel => exact ⟨k + 1, by omega, by go_num, HQ.out.trans (HC1.out HM.out), HB1.out⟩
        case measure => simp [intOf]; omega
    · have HE := Lib.hid (HQ.out.trans (cnt_end (f := fh l l2) (by omega)))
      obtain rfl : H = k := HE.out
      have hdm : decide ((H : Int) < (m : Int)) = false := by simp; omega
      have HBW := Lib.hid hbw
      clear hbw
      go_wp2_with fail
      go_quiet (fail)
      go_wp2_with fail
      have HBA := Lib.hid (show ∀ n, Below w.heap.size w (wr.drewN n) from fun n => below_drewN HBW.out n)
      clear HQ HH
      skip
      go_loopw [5] (fun i w' => ∃ j : Nat, j ≤ m - H ∧ i = .int .i64 j ∧ diffT l l2 = cnt (ft l l2) (m - H - j) j ∧ Below w.heap.size w w') (fun i _ => m - H - (intOf i).toNat)
      case atStart => exact ⟨0, Nat.zero_le _, rfl, HT.out, HBA.out _⟩
      case round =>
        obtain ⟨j, hj, rfl, hq2, hbw2⟩ := hrel
        have HQ2 := Lib.hid hq2
        clear hq2
        have hbw := hbw2
        clear hbw2
        by_cases hlt3 : j < m - H
        · have hi1 : l.length - 1 - j < l.length := by omega
          have hi2 : l2.length - 1 - j < l2.length := by omega
          obtain ⟨a, ea, ha⟩ := HR.out.kept hbw (l.length - 1 - j) hi1
          obtain ⟨b, eb, hb⟩ := HR2.out.kept hbw (l2.length - 1 - j) hi2
          subst ea
          subst eb
          have HBW := Lib.hid hbw
          clear hbw
          obtain ⟨lt, c0, c1, c2, c3, c4, c5, c6⟩ := ha
          obtain ⟨qlt, q0, q1, q2, q3, q4, q5, q6⟩ := hb
          have HM := Lib.hid (ft_is (l := l) (l2 := l2) (k := j) (by omega) (by omega))
          have HC1 := Lib.hid (cnt_hit (f := ft l l2) (m := m - H) (k := j) hlt3)
          have HC0 := Lib.hid (cnt_miss (f := ft l l2) (m := m - H) (k := j) hlt3)
          generalize l[l.length - 1 - j] = t at *
          generalize l2[l2.length - 1 - j] = t2 at *
          have hd : ((j : Int) < (m : Int) - (H : Int)) := by omega
          have W1 : IntKind.i64.wrap ((m : Int) - H) = (m : Int) - H := wrap64 _ (by omega) (by omega)
          have W2 : IntKind.i64.wrap ((l.length : Int) - 1) = (l.length : Int) - 1 := wrap64 _ (by omega) (by omega)
          have W3 : IntKind.i64.wrap ((l.length : Int) - 1 - j) = ((l.length - 1 - j : Nat) : Int) := by rw [wrap64 _ (by omega) (by omega)]; omega
          have W4 : IntKind.i64.wrap ((l2.length : Int) - 1) = (l2.length : Int) - 1 := wrap64 _ (by omega) (by omega)
          have W5 : IntKind.i64.wrap ((l2.length : Int) - 1 - j) = ((l2.length - 1 - j : Nat) : Int) := by rw [wrap64 _ (by omega) (by omega)]; omega
          go_wp2_with fail
          go_still_tail 22, (by kernel_rfl)
          change wpList _ _ _ _ _ wr.drew
          go_wp2_with fail
          refine (equal_any t t2 _).mono ?_
          rintro r w3 ⟨rfl, hb3⟩
          have HB3 := Lib.hid (HBW.out.drew.trans (hb3.mono (by have := HBW.out.size; simpa using this)))
          clear hb3
          cases hx3 : alikeT t t2
          · rw [hx3] at HM
            have HE3 := Lib.hid (HQ2.out.trans (HC0.out HM.out))
            clear hx3
            go_wp2_with fail
            go_ret2
            exact ⟨by rw [HE3.out, ← HHE.out]; rfl, HB3.out⟩
          · rw [hx3] at HM
            clear hx3
            go_wp2_with fail
            go_roundw
            case rel => exact ⟨j + 1, by omega, by go_num, HQ2.out.trans (HC1.out HM.out), HB3.out⟩
            case measure => simp [intOf]; omega
        · have HE3 := Lib.hid (HQ2.out.trans (cnt_end (f := ft l l2) (by omega)))
          have W1 : IntKind.i64.wrap ((m : Int) - H) = (m : Int) - H := wrap64 _ (by omega) (by omega)
          have hd : decide ((j : Int) < (m : Int) - (H : Int)) = false := by simp; omega
          have HBW := Lib.hid hbw
          clear hbw
          go_wp2_with fail
          go_quiet (fail)
          go_wp2_with fail
          go_ret2
          exact ⟨by rw [HE3.out, ← HHE.out]; rfl, below_drewN HBW.out _⟩
set_option maxRecDepth 100000 in
set_option maxHeartbeats 3200000 in
theorem rdiff_any (o o2 : Option Addr) (cap cap2 : Nat) (l l2 : List To) (w : World) (hr : Row w o l) (hr2 : Row w o2 l2) (hl : l.length ≤ maxLen) (hl2 : l2.length ≤ maxLen) :
    Calls Tryd.prog 14 #[.slice o l.length cap, .slice o2 l2.length cap2] w fun r w' => r = .returned (.tuple #[.int .i64 (diffH l l2), .int .i64 (diffT l l2)]) ∧ Below w.heap.size w w' := by
  have hl3 : l.length ≤ 9223372036854775807 := by have := hl; unfold maxLen at this; omega
  have hl4 : l2.length ≤ 9223372036854775807 := by have := hl2; unfold maxLen at this; omega
  have HR := Lib.hid hr
  have HR2 := Lib.hid hr2
  clear hr hr2
  obtain ⟨m, hm⟩ : ∃ m, m = min l.length l2.length := ⟨_, rfl⟩
  have hmi : (min (l.length : Int) (l2.length : Int)) = (m : Int) := by omega
  have hm1 : m ≤ l.length := by omega
  have hm2 : m ≤ l2.length := by omega
  obtain ⟨H, hHe⟩ : ∃ H, H = diffH l l2 := ⟨_, rfl⟩
  have HH := Lib.hid (show H = cnt (fh l l2) (m - 0) 0 from by rw [hm, hHe]; rfl)
  have HT := Lib.hid (show diffT l l2 = cnt (ft l l2) (m - H - 0) 0 from by rw [hm, hHe]; rfl)
  have hH := diffH_le l l2
  rw [← hm, ← hHe] at hH
  have HHE := Lib.hid hHe
  have HMI := Lib.hid hmi
  clear hm hmi hHe
  go_enter Tryd.func14, Tryd.ntmps14
  go_wp2_with fail
  rw [HMI.out]
  go_loopw [7] (fun i w' => ∃ k : Nat, k ≤ m ∧ i = .int .i64 k ∧ H = cnt (fh l l2) (m - k) k ∧ Below w.heap.size w w') (fun i _ => m - (intOf i).toNat)
  case atStart => exact ⟨0, Nat.zero_le _, rfl, HH.out, Below.refl _ _⟩
  case round =>
    obtain ⟨k, hk, rfl, hq, hbw⟩ := hrel
    have HQ := Lib.hid hq
    clear hq
    by_cases hlt : k < m
    · have hk1 : k < l.length := by omega
      have hk2 : k < l2.length := by omega
      obtain ⟨a, ea, ha⟩ := HR.out.kept hbw k hk1
      obtain ⟨b, eb, hb⟩ := HR2.out.kept hbw k hk2
      subst ea
      subst eb
      have HBW := Lib.hid hbw
      clear hbw
      obtain ⟨lt, c0, c1, c2, c3, c4, c5, c6⟩ := ha
      obtain ⟨qlt, q0, q1, q2, q3, q4, q5, q6⟩ := hb
      have HM := Lib.hid (fh_is hk1 hk2)
      have HC1 := Lib.hid (cnt_hit (f := fh l l2) (m := m) (k := k) hlt)
      have HC0 := Lib.hid (cnt_miss (f := fh l l2) (m := m) (k := k) hlt)
      generalize l[k] = t at *
      generalize l2[k] = t2 at *
      go_wp2_with fail
      go_still_tail 12, (by kernel_rfl)
      change wpList _ _ _ _ _ wr.drew
      go_wp2_with fail
      refine (alike_any t t2 _).mono ?_
      rintro r w1 ⟨rfl, hb1⟩
      have HB1 := Lib.hid (HBW.out.drew.trans (hb1.mono (by have := HBW.out.size; simpa using this)))
      clear hb1
      cases hx : alikeT t t2
      · rw [hx] at HM
        have HE := Lib.hid (HQ.out.trans (HC0.out HM.out))
        clear hx
        obtain rfl : H = k := HE.out
        go_wp2_with fail
        have HBA := Lib.hid HB1.out
        clear HQ HH
        clear HM HC1 HC0 lt c0 c1 c2 c3 c4 c5 c6 qlt q0 q1 q2 q3 q4 q5 q6 HB1 HBW
        go_loopw [8] (fun i w' => ∃ j : Nat, j ≤ m - H ∧ i = .int .i64 j ∧ diffT l l2 = cnt (ft l l2) (m - H - j) j ∧ Below w.heap.size w w') (fun i _ => m - H - (intOf i).toNat)
        case atStart => exact ⟨0, Nat.zero_le _, rfl, HT.out, HBA.out⟩
        case round =>
          obtain ⟨j, hj, rfl, hq2, hbw2⟩ := hrel
          have HQ2 := Lib.hid hq2
          clear hq2
          have hbw := hbw2
          clear hbw2
          by_cases hlt3 : j < m - H
          · have hi1 : l.length - 1 - j < l.length := by omega
            have hi2 : l2.length - 1 - j < l2.length := by omega
            obtain ⟨a2, ea, ha⟩ := HR.out.kept hbw (l.length - 1 - j) hi1
            obtain ⟨b2, eb, hb⟩ := HR2.out.kept hbw (l2.length - 1 - j) hi2
            obtain rfl := Option.some.inj ea
            obtain rfl := Option.some.inj eb
            have HBW := Lib.hid hbw
            clear hbw
            obtain ⟨lt, c0, c1, c2, c3, c4, c5, c6⟩ := ha
            obtain ⟨qlt, q0, q1, q2, q3, q4, q5, q6⟩ := hb
            have HM := Lib.hid (ft_is (l := l) (l2 := l2) (k := j) (by omega) (by omega))
            have HC1 := Lib.hid (cnt_hit (f := ft l l2) (m := m - H) (k := j) hlt3)
            have HC0 := Lib.hid (cnt_miss (f := ft l l2) (m := m - H) (k := j) hlt3)
            generalize l[l.length - 1 - j] = t at *
            generalize l2[l2.length - 1 - j] = t2 at *
            have hd : ((H : Int) + (j : Int) < (m : Int)) := by omega
            have W1 : IntKind.i64.wrap ((H : Int) + j) = (H : Int) + j := wrap64 _ (by omega) (by omega)
            have W2 : IntKind.i64.wrap ((l.length : Int) - 1) = (l.length : Int) - 1 := wrap64 _ (by omega) (by omega)
            have W3 : IntKind.i64.wrap ((l.length : Int) - 1 - j) = ((l.length - 1 - j : Nat) : Int) := by rw [wrap64 _ (by omega) (by omega)]; omega
            have W4 : IntKind.i64.wrap ((l2.length : Int) - 1) = (l2.length : Int) - 1 := wrap64 _ (by omega) (by omega)
            have W5 : IntKind.i64.wrap ((l2.length : Int) - 1 - j) = ((l2.length - 1 - j : Nat) : Int) := by rw [wrap64 _ (by omega) (by omega)]; omega
            go_wp2_with fail
            go_still_tail 22, (by kernel_rfl)
            change wpList _ _ _ _ _ wr.drew
            go_wp2_with fail
            refine (alike_any t t2 _).mono ?_
            rintro r w3 ⟨rfl, hb3⟩
            have HB3 := Lib.hid (HBW.out.drew.trans (hb3.mono (by have := HBW.out.size; simpa using this)))
            clear hb3
            cases hx3 : alikeT t t2
            · rw [hx3] at HM
              have HE3 := Lib.hid (HQ2.out.trans (HC0.out HM.out))
              clear hx3
              go_wp2_with fail
              go_ret2
              exact ⟨by rw [HE3.out, ← HHE.out]; rfl, HB3.out⟩
            · rw [hx3] at HM
              clear hx3
              go_wp2_with fail
              go_roundw
              case rel => exact ⟨j + 1, by omega, by go_num, HQ2.out.trans (HC1.out HM.out), HB3.out⟩
              case measure => simp [intOf]; omega
          · have HE3 := Lib.hid (HQ2.out.trans (cnt_end (f := ft l l2) (by omega)))
            have W1 : IntKind.i64.wrap ((H : Int) + j) = (H : Int) + j := wrap64 _ (by omega) (by omega)
            have hd : decide ((H : Int) + (j : Int) < (m : Int)) = false := by simp; omega
            have HBW := Lib.hid hbw
            clear hbw
            go_wp2_with fail
            go_quiet (fail)
            go_wp2_with fail
            go_ret2
            exact ⟨by rw [HE3.out, ← HHE.out]; rfl, below_drewN HBW.out _⟩
      · rw [hx] at HM
        clear hx
        go_wp2_with fail
        go_roundw
        case rel => exact ⟨k + 1, by omega, by go_num, HQ.out.trans (HC1.out HM.out), HB1.out⟩
        case measure => simp [intOf]; omega
    · have HE := Lib.hid (HQ.out.trans (cnt_end (f := fh l l2) (by omega)))
      obtain rfl : H = k := HE.out
      have hdm : decide ((H : Int) < (m : Int)) = false := by simp; omega
      have HBW := Lib.hid hbw
      clear hbw
      go_wp2_with fail
      go_quiet (fail)
      go_wp2_with fail
      have HBA := Lib.hid (show ∀ n, Below w.heap.size w (wr.drewN n) from fun n => below_drewN HBW.out n)
      clear HQ HH
      skip
      go_loopw [8] (fun i w' => ∃ j : Nat, j ≤ m - H ∧ i = .int .i64 j ∧ diffT l l2 = cnt (ft l l2) (m - H - j) j ∧ Below w.heap.size w w') (fun i _ => m - H - (intOf i).toNat)
      case atStart => exact ⟨0, Nat.zero_le _, rfl, HT.out, HBA.out _⟩
      case round =>
        obtain ⟨j, hj, rfl, hq2, hbw2⟩ := hrel
        have HQ2 := Lib.hid hq2
        clear hq2
        have hbw := hbw2
        clear hbw2
        by_cases hlt3 : j < m - H
        · have hi1 : l.length - 1 - j < l.length := by omega
          have hi2 : l2.length - 1 - j < l2.length := by omega
          obtain ⟨a, ea, ha⟩ := HR.out.kept hbw (l.length - 1 - j) hi1
          obtain ⟨b, eb, hb⟩ := HR2.out.kept hbw (l2.length - 1 - j) hi2
          subst ea
          subst eb
          have HBW := Lib.hid hbw
          clear hbw
          obtain ⟨lt, c0, c1, c2, c3, c4, c5, c6⟩ := ha
          obtain ⟨qlt, q0, q1, q2, q3, q4, q5, q6⟩ := hb
          have HM := Lib.hid (ft_is (l := l) (l2 := l2) (k := j) (by omega) (by omega))
          have HC1 := Lib.hid (cnt_hit (f := ft l l2) (m := m - H) (k := j) hlt3)
          have HC0 := Lib.hid (cnt_miss (f := ft l l2) (m := m - H) (k := j) hlt3)
          generalize l[l.length - 1 - j] = t at *
          generalize l2[l2.length - 1 - j] = t2 at *
          have hd : ((H : Int) + (j : Int) < (m : Int)) := by omega
          have W1 : IntKind.i64.wrap ((H : Int) + j) = (H : Int) + j := wrap64 _ (by omega) (by omega)
          have W2 : IntKind.i64.wrap ((l.length : Int) - 1) = (l.length : Int) - 1 := wrap64 _ (by omega) (by omega)
          have W3 : IntKind.i64.wrap ((l.length : Int) - 1 - j) = ((l.length - 1 - j : Nat) : Int) := by rw [wrap64 _ (by omega) (by omega)]; omega
          have W4 : IntKind.i64.wrap ((l2.length : Int) - 1) = (l2.length : Int) - 1 := wrap64 _ (by omega) (by omega)
          have W5 : IntKind.i64.wrap ((l2.length : Int) - 1 - j) = ((l2.length - 1 - j : Nat) : Int) := by rw [wrap64 _ (by omega) (by omega)]; omega
          go_wp2_with fail
          go_still_tail 22, (by kernel_rfl)
          change wpList _ _ _ _ _ wr.drew
          go_wp2_with fail
          refine (alike_any t t2 _).mono ?_
          rintro r w3 ⟨rfl, hb3⟩
          have HB3 := Lib.hid (HBW.out.drew.trans (hb3.mono (by have := HBW.out.size; simpa using this)))
          clear hb3
          cases hx3 : alikeT t t2
          · rw [hx3] at HM
            have HE3 := Lib.hid (HQ2.out.trans (HC0.out HM.out))
            clear hx3
            go_wp2_with fail
            go_ret2
            exact ⟨by rw [HE3.out, ← HHE.out]; rfl, HB3.out⟩
          · rw [hx3] at HM
            clear hx3
            go_wp2_with fail
            go_roundw
            case rel => exact ⟨j + 1, by omega, by go_num, HQ2.out.trans (HC1.out HM.out), HB3.out⟩
            case measure => simp [intOf]; omega
        · have HE3 := Lib.hid (HQ2.out.trans (cnt_end (f := ft l l2) (by omega)))
          have W1 : IntKind.i64.wrap ((H : Int) + j) = (H : Int) + j := wrap64 _ (by omega) (by omega)
          have hd : decide ((H : Int) + (j : Int) < (m : Int)) = false := by simp; omega
          have HBW := Lib.hid hbw
          clear hbw
          go_wp2_with fail
          go_quiet (fail)
          go_wp2_with fail
          go_ret2
          exact ⟨by rw [HE3.out, ← HHE.out]; rfl, below_drewN HBW.out _⟩
end Go.Proofs.YtnocgfddpdjjeaaDoor
