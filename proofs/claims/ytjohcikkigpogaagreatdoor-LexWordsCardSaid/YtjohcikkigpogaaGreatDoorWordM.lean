/-
  PACKAGE lex: which strings are identifiers; the same in the document's words.
-/
import Derived.Test.YtjohcikkigpogaaGreatDoorWordL
import Derived.Test.YtjohcikkigpogaaGreatDoorLex17

namespace Go.Proofs.YtjohcikkigpogaaGreatDoor
open Go.RowKit
set_option linter.unusedVariables false

def allB (p : Nat → Bool) (s : ByteArray) : Bool := s.data.toList.all (fun b => p b.toNat)
theorem allB_iff (p : Nat → Bool) (s : ByteArray) : allB p s = true ↔ ∀ (k : Nat) (h : k < s.size), p s[k].toNat = true := by
  unfold allB
  rw [List.all_eq_true]
  constructor
  · intro h k hk
    exact h s[k] (by have : s[k] = s.data.toList[k]'(by rw [← Lib.size_eq]; exact hk) := rfl; rw [this]; exact List.getElem_mem _)
  · intro h b hb
    obtain ⟨k, hk, rfl⟩ := List.getElem_of_mem hb
    exact h k (by rw [Lib.size_eq]; exact hk)
theorem allB_no {p : Nat → Bool} {s : ByteArray} {k : Nat} (hk : k < s.size) (h : p s[k].toNat = false) : allB p s = false := by
  cases ha : allB p s
  · rfl
  · have := (allB_iff p s).1 ha k hk
    rw [h] at this
    cases this
theorem take_in {l : List ByteArray} {k : Nat} {s : ByteArray} (hk : k < l.length) (h : s ∉ l.take k) (hne : l.getD k ByteArray.empty ≠ s) : s ∉ l.take (k + 1) := by
  rw [List.take_succ_eq_append_getElem hk]
  intro q
  rcases List.mem_append.1 q with q | q
  · exact h q
  · simp [List.getD, hk] at q hne
    exact hne q.symm
def isLet (b : Nat) : Bool := decide (97 ≤ b ∧ b ≤ 122)

set_option maxRecDepth 100000 in
set_option maxHeartbeats 1600000 in
theorem areAll_any (s : ByteArray) (c : Int) (hc : okCls c) (w : World) (hs : s.size ≤ 9223372036854775807) :
    Calls Tryz.prog 19 #[.string s, .int .u8 c] w fun r w' => r = .returned (.bool (allB (inCls c) s)) ∧ w' = w := by
  have HC := Lib.hid hc
  clear hc
  go_enter Tryz.func19, Tryz.ntmps19
  go_wp2_with fail
  go_loopw [8] (fun i wr => ∃ k : Nat, k ≤ s.size ∧ i = .int .i64 k ∧ (∀ (j : Nat) (h : j < s.size), j < k → inCls c s[j].toNat = true) ∧ wr = w) (fun i _ => s.size - (intOf i).toNat)
  case atStart => exact ⟨0, Nat.zero_le _, rfl, fun j _ h => absurd h (Nat.not_lt_zero _), rfl⟩
  case round =>
    obtain ⟨k, hk, rfl, hal, rfl⟩ := hrel
    have HA := Lib.hid hal
    clear hal
    by_cases hlt : k < s.size
    · have hki : (k : Int) < (s.size : Int) := by omega
      have HCL := Lib.hid (fun w => classOf_any s[k].toNat w s[k].toNat_lt)
      have hand := (and_cls c HC.out s[k].toNat).2
      cases hx : inCls c s[k].toNat
      · have HX := Lib.hid (allB_no (p := inCls c) hlt hx)
        rw [hx] at hand
        go_wp2_with fail
        refine (HCL.out _).mono ?_
        rintro r w1 ⟨rfl, rfl⟩
        go_wp2_with fail
        go_ret
        exact ⟨by rw [HX.out]; rfl, rfl⟩
      · rw [hx] at hand
        have HX := Lib.hid hx
        clear hx
        go_wp2_with fail
        refine (HCL.out _).mono ?_
        rintro r w1 ⟨rfl, rfl⟩
        go_wp2_with fail
        exact ⟨⟨k + 1, by omega, by simp, fun j hj hlt2 => by
          by_cases e : j = k
          · subst e
            exact HX.out
          · exact HA.out j hj (by omega), by first | trivial | rfl⟩, by simp [intOf]; omega⟩
    · obtain rfl : k = s.size := by omega
      have HX := Lib.hid ((allB_iff (inCls c) s).2 (fun j hj => HA.out j hj hj))
      go_wp2_with fail
      go_ret
      exact ⟨by rw [HX.out]; rfl, rfl⟩

set_option maxRecDepth 100000 in
set_option maxHeartbeats 1600000 in
theorem rletter_any (b : Nat) (w : World) (hb : b < 256) :
    Calls Tryz.prog 20 #[.int .u8 (b : Int)] w fun r w' => r = .returned (.bool (isLet b)) ∧ w' = w := by
  have hP : isLet b = (decide (97 ≤ b) && decide (b ≤ 122)) := by unfold isLet; rw [Bool.decide_and]
  by_cases h1 : 97 ≤ b
  · by_cases h2 : b ≤ 122
    · have HP := Lib.hid (show isLet b = true from by rw [hP]; simp [h1, h2])
      have q1 : (97 : Int) ≤ (b : Int) := by omega
      have q2 : (b : Int) ≤ 122 := by omega
      clear hP h1 h2
      go_enter Tryz.func20, Tryz.ntmps20
      go_wp2_with fail
      go_ret
      exact ⟨by rw [HP.out]; simp, rfl⟩
    · have HP := Lib.hid (show isLet b = false from by rw [hP]; simp [h2])
      have q1 : (97 : Int) ≤ (b : Int) := by omega
      have q2 : ¬ (b : Int) ≤ 122 := by omega
      clear hP h1 h2
      go_enter Tryz.func20, Tryz.ntmps20
      go_wp2_with fail
      go_ret
      exact ⟨by rw [HP.out]; simp, rfl⟩
  · have HP := Lib.hid (show isLet b = false from by rw [hP]; simp [h1])
    have q1 : ¬ (97 : Int) ≤ (b : Int) := by omega
    clear hP h1
    go_enter Tryz.func20, Tryz.ntmps20
    go_wp2_with fail
    go_ret
    exact ⟨by rw [HP.out]; rfl, rfl⟩

set_option maxRecDepth 100000 in
set_option maxHeartbeats 1600000 in
theorem rdigit_any (b : Nat) (w : World) (hb : b < 256) :
    Calls Tryz.prog 30 #[.int .u8 (b : Int)] w fun r w' => r = .returned (.bool (isDig b)) ∧ w' = w := by
  have hP : isDig b = (decide (48 ≤ b) && decide (b ≤ 57)) := by unfold isDig; rw [Bool.decide_and]
  by_cases h1 : 48 ≤ b
  · by_cases h2 : b ≤ 57
    · have HP := Lib.hid (show isDig b = true from by rw [hP]; simp [h1, h2])
      have q1 : (48 : Int) ≤ (b : Int) := by omega
      have q2 : (b : Int) ≤ 57 := by omega
      clear hP h1 h2
      go_enter Tryz.func30, Tryz.ntmps30
      go_wp2_with fail
      go_ret
      exact ⟨by rw [HP.out]; simp, rfl⟩
    · have HP := Lib.hid (show isDig b = false from by rw [hP]; simp [h2])
      have q1 : (48 : Int) ≤ (b : Int) := by omega
      have q2 : ¬ (b : Int) ≤ 57 := by omega
      clear hP h1 h2
      go_enter Tryz.func30, Tryz.ntmps30
      go_wp2_with fail
      go_ret
      exact ⟨by rw [HP.out]; simp, rfl⟩
  · have HP := Lib.hid (show isDig b = false from by rw [hP]; simp [h1])
    have q1 : ¬ (48 : Int) ≤ (b : Int) := by omega
    clear hP h1
    go_enter Tryz.func30, Tryz.ntmps30
    go_wp2_with fail
    go_ret
    exact ⟨by rw [HP.out]; rfl, rfl⟩

set_option maxRecDepth 100000 in
set_option maxHeartbeats 1600000 in
theorem rin_any (s : ByteArray) (v : Value) (l : List ByteArray) (w : World) (h : SR w v l) (hl : l.length ≤ 1000) :
    Calls Tryz.prog 18 #[.string s, v] w fun r w' => r = .returned (.bool (Lib.containsS l s)) ∧ w' = w := by
  obtain ⟨g, o, c, rfl, hc, _⟩ := h
  have HC := Lib.hid hc
  clear hc
  have hli : (l.length : Int) ≤ 1000 := by omega
  go_enter Tryz.func18, Tryz.ntmps18
  go_wp2_with fail
  go_loopw [5] (fun i wr => ∃ k : Nat, k ≤ l.length ∧ i = .int .i64 k ∧ s ∉ l.take k ∧ wr = w) (fun i _ => l.length - (intOf i).toNat)
  case atStart => exact ⟨0, Nat.zero_le _, rfl, by simp, rfl⟩
  case round =>
    obtain ⟨k, hk, rfl, hn, rfl⟩ := hrel
    have HN := Lib.hid hn
    clear hn
    by_cases hlt : k < l.length
    · have h1 := HC.out k hlt
      have hki : (k : Int) < (l.length : Int) := by omega
      obtain ⟨t, ht⟩ : ∃ t, t = l.getD k ByteArray.empty := ⟨_, rfl⟩
      rw [← ht] at h1
      have HT := Lib.hid ht
      clear ht
      by_cases he : t = s
      · subst he
        have HX := Lib.hid (show Lib.containsS l t = true from by rw [Lib.containsS_iff, HT.out]; simp [List.getD, hlt])
        have hb : (t.toList == t.toList) = true := by simp
        go_wp2_with fail
        go_ret
        exact ⟨by rw [HX.out]; rfl, rfl⟩
      · have hb : (t.toList == s.toList) = false := by
          cases hq : (t.toList == s.toList)
          · rfl
          · exact absurd (ByteArray.ext (Array.toList_inj.1 (by have e := eq_of_beq hq; rwa [Lib.toList_data, Lib.toList_data] at e))) he
        have HX := Lib.hid (take_in hlt HN.out (by rw [← HT.out]; exact he))
        go_wp2_with fail
        exact ⟨⟨k + 1, by omega, by simp, HX.out, by first | trivial | rfl⟩, by simp [intOf]; omega⟩
    · obtain rfl : k = l.length := by omega
      have HX := Lib.hid (show Lib.containsS l s = false from by
        cases hq : Lib.containsS l s
        · rfl
        · rw [Lib.containsS_iff] at hq
          exact absurd (by rw [List.take_length]; exact hq) HN.out)
      go_wp2_with fail
      go_ret
      exact ⟨by rw [HX.out]; rfl, rfl⟩

set_option maxRecDepth 100000 in
set_option maxHeartbeats 1600000 in
theorem riw_any (s : ByteArray) (w : World) :
    Calls Tryz.prog 11 #[.string s] w fun r w' => r = .returned (.bool (Lib.containsS wordL s)) ∧ Below w.heap.size w w' := by
  have HR := Lib.hid (fun w => rwords_any w)
  have HI := Lib.hid (fun v w h => rin_any s v wordL w h (by decide))
  generalize Lib.containsS wordL s = t at *
  go_enter Tryz.func11, Tryz.ntmps11
  go_wp2_with fail
  refine (HR.out _).mono ?_
  rintro r w1 ⟨v, rfl, hv, hb⟩
  have HV := Lib.hid hv
  have HB := Lib.hid hb
  clear hv hb
  go_wp2_with fail
  refine (HI.out _ _ HV.out).mono ?_
  rintro r w2 ⟨rfl, rfl⟩
  go_wp2_with fail
  go_ret
  exact ⟨rfl, HB.out⟩

set_option maxRecDepth 100000 in
set_option maxHeartbeats 1600000 in
theorem rrun_any (s : ByteArray) (w : World) (hs : s.size ≤ 1000) :
    Calls Tryz.prog 21 #[.string s, .int .i64 0] w fun r w' => ∃ k : Nat, r = .returned (.int .i64 (k : Int)) ∧ (decide (k = s.size) = allB isRun s) ∧ w' = w := by
  have hsi : (s.size : Int) ≤ 1000 := by omega
  go_enter Tryz.func21, Tryz.ntmps21
  go_wp2_with fail
  go_loopw [1] (fun i wr => ∃ k : Nat, k ≤ s.size ∧ i = .int .i64 k ∧ (∀ (j : Nat) (h : j < s.size), j < k → isRun s[j].toNat = true) ∧ wr = w) (fun i _ => s.size - (intOf i).toNat)
  case atStart => exact ⟨0, Nat.zero_le _, rfl, fun j _ h => absurd h (Nat.not_lt_zero _), rfl⟩
  case round =>
    obtain ⟨k, hk, rfl, hal, rfl⟩ := hrel
    have HA := Lib.hid hal
    clear hal
    by_cases hlt : k < s.size
    · have hki : (k : Int) < (s.size : Int) := by omega
      have HL := Lib.hid (fun w => rletter_any s[k].toNat w s[k].toNat_lt)
      have HD := Lib.hid (fun w => rdigit_any s[k].toNat w s[k].toNat_lt)
      have HRun := Lib.hid (show isRun s[k].toNat = (isDig s[k].toNat || isLet s[k].toNat) from rfl)
      cases hx : isLet s[k].toNat
      · rw [hx] at HL HRun
        cases hy : isDig s[k].toNat
        · rw [hy] at HD HRun
          have HX := Lib.hid (allB_no (p := isRun) hlt HRun.out)
          go_wp2_with fail
          refine (HL.out _).mono ?_
          rintro r w1 ⟨rfl, rfl⟩
          go_wp2_with fail
          refine (HD.out _).mono ?_
          rintro r w1 ⟨rfl, rfl⟩
          go_wp2_with fail
          go_ret
          exact ⟨k, rfl, by rw [HX.out]; simp; omega, rfl⟩
        · rw [hy] at HD HRun
          go_wp2_with fail
          refine (HL.out _).mono ?_
          rintro r w1 ⟨rfl, rfl⟩
          go_wp2_with fail
          refine (HD.out _).mono ?_
          rintro r w1 ⟨rfl, rfl⟩
          go_wp2_with fail
          exact ⟨⟨k + 1, by omega, by simp, fun j hj hlt2 => by
            by_cases e : j = k
            · subst e
              exact HRun.out
            · exact HA.out j hj (by omega), by first | trivial | rfl⟩, by simp [intOf]; omega⟩
      · rw [hx, Bool.or_true] at HRun
        rw [hx] at HL
        go_wp2_with fail
        refine (HL.out _).mono ?_
        rintro r w1 ⟨rfl, rfl⟩
        go_wp2_with fail
        exact ⟨⟨k + 1, by omega, by simp, fun j hj hlt2 => by
          by_cases e : j = k
          · subst e
            exact HRun.out
          · exact HA.out j hj (by omega), by first | trivial | rfl⟩, by simp [intOf]; omega⟩
    · obtain rfl : k = s.size := by omega
      have HX := Lib.hid ((allB_iff isRun s).2 (fun j hj => HA.out j hj hj))
      go_wp2_with fail
      go_ret
      exact ⟨s.size, rfl, by rw [HX.out]; simp, rfl⟩

end Go.Proofs.YtjohcikkigpogaaGreatDoor
