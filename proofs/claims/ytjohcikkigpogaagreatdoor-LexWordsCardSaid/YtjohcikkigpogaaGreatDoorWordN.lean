/-
  PACKAGE lex: identifiers, in the code and in the document's words.
-/
import Derived.Test.YtjohcikkigpogaaGreatDoorWordM
import Derived.Test.YtjohcikkigpogaaGreatDoorLex7

namespace Go.Proofs.YtjohcikkigpogaaGreatDoor
open Go.RowKit
set_option linter.unusedVariables false

theorem bytes_pos {s : ByteArray} (h : 0 < s.size) : ∃ a l, s.data.toList = a :: l ∧ s[0] = a := by
  rcases s with ⟨⟨l⟩⟩
  rcases l with _ | ⟨a, l⟩
  · simp [ByteArray.size] at h
  · exact ⟨a, l, rfl, rfl⟩
theorem allB_head (p : Nat → Bool) {s : ByteArray} (h : 0 < s.size) : allB p (s.extract 0 1) = p s[0].toNat := by
  obtain ⟨a, l, h1, h2⟩ := bytes_pos h
  unfold allB
  rw [Lib.extract_data, h1, h2]
  simp
theorem cls_one (b : Nat) : isRun b = (isDig b || isLet b) ∧ (isDig b && isLet b) = false := by
  refine ⟨rfl, ?_⟩
  unfold isDig isLet
  rw [← Bool.decide_and]
  exact decide_eq_false (by omega)

/-- What both name: not empty, not longer than 16, no digit first, letters and digits alone, no reserved word. -/
def nmB (s : ByteArray) : Bool := if h : 0 < s.size then decide (s.size ≤ 16) && !isDig s[0].toNat && allB isRun s && !Lib.containsS wordL s else false

theorem nm_none {s : ByteArray} (h : s.size = 0) : nmB s = false := by unfold nmB; rw [dif_neg (by omega)]
theorem nm_long {s : ByteArray} (h : 16 < s.size) : nmB s = false := by unfold nmB; rw [dif_pos (by omega)]; simp; omega
theorem nm_dig {s : ByteArray} (h : 0 < s.size) (h1 : isDig s[0].toNat = true) : nmB s = false := by unfold nmB; rw [dif_pos h, h1]; simp
theorem nm_run {s : ByteArray} (h1 : allB isRun s = false) : nmB s = false := by
  unfold nmB
  by_cases h : 0 < s.size
  · rw [dif_pos h, h1]; simp
  · rw [dif_neg h]
theorem nm_word {s : ByteArray} (h1 : Lib.containsS wordL s = true) : nmB s = false := by
  unfold nmB
  by_cases h : 0 < s.size
  · rw [dif_pos h, h1]; simp
  · rw [dif_neg h]
theorem nm_yes {s : ByteArray} (h : 0 < s.size) (h0 : s.size ≤ 16) (h1 : isDig s[0].toNat = false) (h2 : allB isRun s = true) (h3 : Lib.containsS wordL s = false) : nmB s = true := by
  unfold nmB
  rw [dif_pos h, h1, h2, h3]; simp [h0]
theorem nm_let {s : ByteArray} (h : 0 < s.size) (h1 : isLet s[0].toNat = false) : nmB s = false := by
  cases hd : isDig s[0].toNat
  · exact nm_run (allB_no h (by rw [(cls_one _).1, hd, h1]; rfl))
  · exact nm_dig h hd
theorem nm_last {s : ByteArray} (h : 0 < s.size) (h0 : s.size ≤ 16) (h1 : isLet s[0].toNat = true) (h3 : Lib.containsS wordL s = false) : nmB s = allB isRun s := by
  have hd : isDig s[0].toNat = false := by
    have := (cls_one s[0].toNat).2
    rw [h1, Bool.and_true] at this; exact this
  cases hr : allB isRun s
  · exact nm_run hr
  · exact nm_yes h h0 hd hr h3

set_option maxRecDepth 100000 in
set_option maxHeartbeats 1600000 in
theorem name_none (s : ByteArray) (w : World) (h : s.size = 0) :
    Calls Tryz.prog 12 #[.string s] w fun r w' => r = .returned (.bool (nmB s)) ∧ w' = w := by
  have HX := Lib.hid (nm_none h)
  have h1 := none_list h
  clear h
  go_enter Tryz.func12, Tryz.ntmps12
  go_wp2_with fail
  go_ret
  exact ⟨by rw [HX.out]; rfl, rfl⟩

set_option maxRecDepth 100000 in
set_option maxHeartbeats 1600000 in
theorem name_long (s : ByteArray) (w : World) (h : 16 < s.size) (hs : s.size ≤ 9223372036854775807) :
    Calls Tryz.prog 12 #[.string s] w fun r w' => r = .returned (.bool (nmB s)) ∧ w' = w := by
  have HX := Lib.hid (nm_long h)
  have h1 := full_list (s := s) (by omega)
  have h2 : ¬ (s.size : Int) ≤ 16 := by omega
  go_enter Tryz.func12, Tryz.ntmps12
  go_wp2_with fail
  go_ret
  exact ⟨by rw [HX.out]; rfl, rfl⟩

set_option maxRecDepth 100000 in
set_option maxHeartbeats 1600000 in
theorem name_dig (s : ByteArray) (w : World) (h : 0 < s.size) (h0 : s.size ≤ 16) (hd : isDig s[0].toNat = true) :
    Calls Tryz.prog 12 #[.string s] w fun r w' => r = .returned (.bool (nmB s)) ∧ w' = w := by
  have h1 := full_list (s := s) h
  have h2 : (s.size : Int) ≤ 16 := by omega
  have h3 : (1 : Int) ≤ (s.size : Int) := by omega
  have HA := Lib.hid (fun w => areAll_any (s.extract 0 1) 2 (Or.inr (Or.inl rfl)) w (by simp; omega))
  have HB := Lib.hid (fun w => areAll_any s 4 (Or.inr (Or.inr (Or.inl rfl))) w (by omega))
  rw [show inCls 2 = isDig from rfl, allB_head isDig h] at HA
  rw [show inCls 4 = isRun from rfl] at HB
  rw [hd] at HA
  have HX := Lib.hid (nm_dig h hd)
  clear hd
  go_enter Tryz.func12, Tryz.ntmps12
  go_wp2_with fail
  refine (HA.out _).mono ?_
  rintro r w1 ⟨rfl, rfl⟩
  go_wp2_with fail
  go_ret
  exact ⟨by rw [HX.out]; rfl, rfl⟩

set_option maxRecDepth 100000 in
set_option maxHeartbeats 1600000 in
theorem name_run (s : ByteArray) (w : World) (h : 0 < s.size) (h0 : s.size ≤ 16) (hd : isDig s[0].toNat = false) (hr : allB isRun s = false) :
    Calls Tryz.prog 12 #[.string s] w fun r w' => r = .returned (.bool (nmB s)) ∧ w' = w := by
  have h1 := full_list (s := s) h
  have h2 : (s.size : Int) ≤ 16 := by omega
  have h3 : (1 : Int) ≤ (s.size : Int) := by omega
  have HA := Lib.hid (fun w => areAll_any (s.extract 0 1) 2 (Or.inr (Or.inl rfl)) w (by simp; omega))
  have HB := Lib.hid (fun w => areAll_any s 4 (Or.inr (Or.inr (Or.inl rfl))) w (by omega))
  rw [show inCls 2 = isDig from rfl, allB_head isDig h] at HA
  rw [show inCls 4 = isRun from rfl] at HB
  rw [hd] at HA
  rw [hr] at HB
  have HX := Lib.hid (nm_run hr)
  clear hd hr
  go_enter Tryz.func12, Tryz.ntmps12
  go_wp2_with fail
  refine (HA.out _).mono ?_
  rintro r w1 ⟨rfl, rfl⟩
  go_wp2_with fail
  refine (HB.out _).mono ?_
  rintro r w1 ⟨rfl, rfl⟩
  go_wp2_with fail
  go_ret
  exact ⟨by rw [HX.out]; rfl, rfl⟩

set_option maxRecDepth 100000 in
set_option maxHeartbeats 1600000 in
theorem name_last (s : ByteArray) (w : World) {B : Nat} (h : 0 < s.size) (h0 : s.size ≤ 16) (hd : isDig s[0].toNat = false) (hr : allB isRun s = true) (ht : TabAt w B 0 wordL) :
    Calls Tryz.prog 12 #[.string s] w fun r w' => r = .returned (.bool (nmB s)) ∧ w' = w := by
  have h1 := full_list (s := s) h
  have h2 : (s.size : Int) ≤ 16 := by omega
  have h3 : (1 : Int) ≤ (s.size : Int) := by omega
  have HA := Lib.hid (fun w => areAll_any (s.extract 0 1) 2 (Or.inr (Or.inl rfl)) w (by simp; omega))
  have HB := Lib.hid (fun w => areAll_any s 4 (Or.inr (Or.inr (Or.inl rfl))) w (by omega))
  rw [show inCls 2 = isDig from rfl, allB_head isDig h] at HA
  rw [show inCls 4 = isRun from rfl] at HB
  rw [hd] at HA
  rw [hr] at HB
  have HW := Lib.hid (isWord_any s ht)
  have HX := Lib.hid (show nmB s = !Lib.containsS wordL s from by
    cases hc : Lib.containsS wordL s
    · exact nm_yes h h0 hd hr hc
    · exact nm_word hc)
  clear hd hr ht
  generalize Lib.containsS wordL s = t at *
  go_enter Tryz.func12, Tryz.ntmps12
  go_wp2_with fail
  refine (HA.out _).mono ?_
  rintro r w1 ⟨rfl, rfl⟩
  go_wp2_with fail
  refine (HB.out _).mono ?_
  rintro r w1 ⟨rfl, rfl⟩
  go_wp2_with fail
  refine (HW.out).mono ?_
  rintro r w1 ⟨rfl, rfl⟩
  go_wp2_with fail
  cases t
  · go_wp2_with fail
    go_ret
    exact ⟨by rw [HX.out]; rfl, rfl⟩
  · go_wp2_with fail
    go_ret
    exact ⟨by rw [HX.out]; rfl, rfl⟩

set_option maxRecDepth 100000 in
set_option maxHeartbeats 1600000 in
theorem name_any (s : ByteArray) (w : World) {B : Nat} (hs : s.size ≤ 9223372036854775807) (h : TabAt w B 0 wordL) :
    Calls Tryz.prog 12 #[.string s] w fun r w' => r = .returned (.bool (nmB s)) ∧ w' = w := by
  by_cases h0 : s.size = 0
  · exact name_none s w h0
  · by_cases h1 : s.size ≤ 16
    · cases hd : isDig (s[0]'(by omega)).toNat
      · cases hr : allB isRun s
        · exact name_run s w (by omega) h1 hd hr
        · exact name_last s w (by omega) h1 hd hr h
      · exact name_dig s w (by omega) h1 hd
    · exact name_long s w (by omega) hs

set_option maxRecDepth 100000 in
set_option maxHeartbeats 1600000 in
theorem rname_none (s : ByteArray) (w : World) (h : s.size = 0) :
    Calls Tryz.prog 13 #[.string s] w fun r w' => r = .returned (.bool (nmB s)) ∧ Below w.heap.size w w' := by
  have HX := Lib.hid (nm_none h)
  have h1 : (s.size : Int) < 1 := by omega
  clear h
  go_enter Tryz.func13, Tryz.ntmps13
  go_wp2_with fail
  go_ret
  exact ⟨by rw [HX.out]; rfl, .refl _ _⟩

set_option maxRecDepth 100000 in
set_option maxHeartbeats 1600000 in
theorem rname_long (s : ByteArray) (w : World) (h : 16 < s.size) (hs : s.size ≤ 9223372036854775807) :
    Calls Tryz.prog 13 #[.string s] w fun r w' => r = .returned (.bool (nmB s)) ∧ Below w.heap.size w w' := by
  have HX := Lib.hid (nm_long h)
  have h1 : ¬ (s.size : Int) < 1 := by omega
  have h2 : (16 : Int) < (s.size : Int) := by omega
  go_enter Tryz.func13, Tryz.ntmps13
  go_wp2_with fail
  go_ret
  exact ⟨by rw [HX.out]; rfl, .refl _ _⟩

set_option maxRecDepth 100000 in
set_option maxHeartbeats 1600000 in
theorem rname_let (s : ByteArray) (w : World) (h : 0 < s.size) (h0 : s.size ≤ 16) (hd : isLet s[0].toNat = false) :
    Calls Tryz.prog 13 #[.string s] w fun r w' => r = .returned (.bool (nmB s)) ∧ Below w.heap.size w w' := by
  have h1 : ¬ (s.size : Int) < 1 := by omega
  have h2 : ¬ (16 : Int) < (s.size : Int) := by omega
  have h3 : (0 : Int) < (s.size : Int) := by omega
  have HL := Lib.hid (fun w => rletter_any s[0].toNat w s[0].toNat_lt)
  have HW := Lib.hid (fun w => riw_any s w)
  rw [hd] at HL
  have HX := Lib.hid (nm_let h hd)
  clear hd
  go_enter Tryz.func13, Tryz.ntmps13
  go_wp2_with fail
  refine (HL.out _).mono ?_
  rintro r w1 ⟨rfl, rfl⟩
  go_wp2_with fail
  go_ret
  exact ⟨by rw [HX.out]; rfl, .refl _ _⟩

set_option maxRecDepth 100000 in
set_option maxHeartbeats 1600000 in
theorem rname_word (s : ByteArray) (w : World) (h : 0 < s.size) (h0 : s.size ≤ 16) (hd : isLet s[0].toNat = true) (hc : Lib.containsS wordL s = true) :
    Calls Tryz.prog 13 #[.string s] w fun r w' => r = .returned (.bool (nmB s)) ∧ Below w.heap.size w w' := by
  have h1 : ¬ (s.size : Int) < 1 := by omega
  have h2 : ¬ (16 : Int) < (s.size : Int) := by omega
  have h3 : (0 : Int) < (s.size : Int) := by omega
  have HL := Lib.hid (fun w => rletter_any s[0].toNat w s[0].toNat_lt)
  have HW := Lib.hid (fun w => riw_any s w)
  rw [hd] at HL
  rw [hc] at HW
  have HX := Lib.hid (nm_word hc)
  clear hd hc
  go_enter Tryz.func13, Tryz.ntmps13
  go_wp2_with fail
  refine (HL.out _).mono ?_
  rintro r w1 ⟨rfl, rfl⟩
  go_wp2_with fail
  refine (HW.out _).mono ?_
  rintro r w1 ⟨rfl, hb⟩
  have HB := Lib.hid hb
  clear hb
  go_wp2_with fail
  go_ret
  exact ⟨by rw [HX.out]; rfl, HB.out⟩

set_option maxRecDepth 100000 in
set_option maxHeartbeats 1600000 in
theorem rname_last (s : ByteArray) (w : World) (h : 0 < s.size) (h0 : s.size ≤ 16) (hd : isLet s[0].toNat = true) (hc : Lib.containsS wordL s = false) :
    Calls Tryz.prog 13 #[.string s] w fun r w' => r = .returned (.bool (nmB s)) ∧ Below w.heap.size w w' := by
  have h1 : ¬ (s.size : Int) < 1 := by omega
  have h2 : ¬ (16 : Int) < (s.size : Int) := by omega
  have h3 : (0 : Int) < (s.size : Int) := by omega
  have HL := Lib.hid (fun w => rletter_any s[0].toNat w s[0].toNat_lt)
  have HW := Lib.hid (fun w => riw_any s w)
  rw [hd] at HL
  rw [hc] at HW
  have HX := Lib.hid (nm_last h h0 hd hc)
  have HR := Lib.hid (fun w => rrun_any s w (by omega))
  clear hd hc
  go_enter Tryz.func13, Tryz.ntmps13
  go_wp2_with fail
  refine (HL.out _).mono ?_
  rintro r w1 ⟨rfl, rfl⟩
  go_wp2_with fail
  refine (HW.out _).mono ?_
  rintro r w1 ⟨rfl, hb⟩
  have HB := Lib.hid hb
  clear hb
  go_wp2_with fail
  refine (HR.out _).mono ?_
  rintro r w2 ⟨k, rfl, hk, rfl⟩
  have HK := Lib.hid hk
  clear hk
  by_cases hq : k = s.size
  · subst hq
    go_wp2_with fail
    go_ret
    exact ⟨by rw [HX.out, ← HK.out]; simp, HB.out⟩
  · have hq2 : ¬ (k : Int) = (s.size : Int) := by omega
    have hq3 : ((k : Int) == (s.size : Int)) = false := by simp; omega
    go_wp2_with fail
    go_ret
    exact ⟨by rw [HX.out, ← HK.out]; simp [hq], HB.out⟩

set_option maxRecDepth 100000 in
set_option maxHeartbeats 1600000 in
theorem rname_any (s : ByteArray) (w : World) (hs : s.size ≤ 9223372036854775807) :
    Calls Tryz.prog 13 #[.string s] w fun r w' => r = .returned (.bool (nmB s)) ∧ Below w.heap.size w w' := by
  by_cases h0 : s.size = 0
  · exact rname_none s w h0
  · by_cases h1 : s.size ≤ 16
    · cases hd : isLet (s[0]'(by omega)).toNat
      · exact rname_let s w (by omega) h1 hd
      · cases hr : Lib.containsS wordL s
        · exact rname_last s w (by omega) h1 hd hr
        · exact rname_word s w (by omega) h1 hd hr
    · exact rname_long s w (by omega) hs

end Go.Proofs.YtjohcikkigpogaaGreatDoor
