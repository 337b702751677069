/-
  Several texts in one (LexChk, WordL, WordM, WordN, LexValid, LexCheck, LexGood).
-/
import Derived.Test.YtnmifeiokhpcfaaDoorLex14
import Derived.Test.YtnmifeiokhpcfaaDoorLex7
import Derived.Test.YtnmifeiokhpcfaaDoorShelf
import Derived.LoopTactic
import Derived.Deep.QuietTactic
import Derived.Test.YtnmifeiokhpcfaaDoorLex17
import Derived.Test.YtnmifeiokhpcfaaDoorReA
import Derived.Test.YtnmifeiokhpcfaaDoorTok7
import Derived.Test.YtnmifeiokhpcfaaDoorLexEmb

namespace Go.Proofs.YtnmifeiokhpcfaaDoor
open Go.RowKit
set_option linter.unusedVariables false

def mayEndTk (t : Tk) : Bool := (t.kind == 6 && t.text.toList == [59]) || isEndTk t || (t.kind == 1 && t.text.toList == [101, 108, 115, 101])

set_option maxRecDepth 100000 in
set_option maxHeartbeats 2000000 in
theorem mayEnd_any (t : Tk) (w : World) :
    Calls Tryd.prog 17 #[t.val] w fun r w' => r = .returned (.bool (mayEndTk t)) ∧ Below w.heap.size w w' := by
  have HM := Lib.hid (show mayEndTk t = ((t.kind == 6 && t.text.toList == [59]) || (t.kind == 1 && t.text.toList == [101, 110, 100]) || (t.kind == 1 && t.text.toList == [101, 108, 115, 101])) from rfl)
  go_enter Tryd.func17, Tryd.ntmps17
  go_wp2_with fail
  refine (is_any t 6 ⟨#[59]⟩ _ (xl := [59]) (by rw [ByteArray.toList_eq])).mono ?_
  rintro r w1 ⟨rfl, hb1⟩
  have n0 : w1.cell? ⟨w.heap.size, 0, none⟩ = some (.int .i64 t.kind) := carry hb1 (by go_simp)
  have n1 : w1.cell? ⟨w.heap.size, 1, none⟩ = some (.string t.text) := carry hb1 (by go_simp)
  have n2 : w1.cell? ⟨w.heap.size, 2, none⟩ = some (.int .i64 t.n) := carry hb1 (by go_simp)
  have n3 : w1.cell? ⟨w.heap.size, 3, none⟩ = some (.int .i64 t.man) := carry hb1 (by go_simp)
  have n4 : w1.cell? ⟨w.heap.size, 4, none⟩ = some (.int .i64 t.ex) := carry hb1 (by go_simp)
  have n5 : w1.cell? ⟨w.heap.size, 5, none⟩ = some (.int .i64 t.ofs) := carry hb1 (by go_simp)
  have n6 : w1.cell? ⟨w.heap.size, 6, none⟩ = some (.int .i64 t.en) := carry hb1 (by go_simp)
  have hz : w.heap.size < w1.heap.size := by have := hb1.size; simp at this; omega
  have HB1 := Lib.hid (((Below.refl w.heap.size w).alloc (Nat.le_refl _) (.cells #[.int .i64 t.kind, .string t.text, .int .i64 t.n, .int .i64 t.man, .int .i64 t.ex, .int .i64 t.ofs, .int .i64 t.en] 37)).trans (hb1.mono (by simp)))
  clear hb1
  cases hx : (t.kind == 6 && t.text.toList == [59])
  · rw [hx, Bool.false_or] at HM
    clear hx
    go_wp2_with fail
    refine (is_any t 1 ⟨#[101, 110, 100]⟩ _ (xl := [101, 110, 100]) (by rw [ByteArray.toList_eq])).mono ?_
    rintro r w2 ⟨rfl, hb2⟩
    have m0 : w2.cell? ⟨w.heap.size, 0, none⟩ = some (.int .i64 t.kind) := carry hb2 n0
    have m1 : w2.cell? ⟨w.heap.size, 1, none⟩ = some (.string t.text) := carry hb2 n1
    have m2 : w2.cell? ⟨w.heap.size, 2, none⟩ = some (.int .i64 t.n) := carry hb2 n2
    have m3 : w2.cell? ⟨w.heap.size, 3, none⟩ = some (.int .i64 t.man) := carry hb2 n3
    have m4 : w2.cell? ⟨w.heap.size, 4, none⟩ = some (.int .i64 t.ex) := carry hb2 n4
    have m5 : w2.cell? ⟨w.heap.size, 5, none⟩ = some (.int .i64 t.ofs) := carry hb2 n5
    have m6 : w2.cell? ⟨w.heap.size, 6, none⟩ = some (.int .i64 t.en) := carry hb2 n6
    have HB2 := Lib.hid (HB1.out.trans (hb2.mono (by omega)))
    have hz2 := hb2.size
    clear hb2
    cases hx : (t.kind == 1 && t.text.toList == [101, 110, 100])
    · rw [hx, Bool.false_or] at HM
      clear hx
      go_wp2_with fail
      refine (is_any t 1 ⟨#[101, 108, 115, 101]⟩ _ (xl := [101, 108, 115, 101]) (by rw [ByteArray.toList_eq])).mono ?_
      rintro r w3 ⟨rfl, hb3⟩
      have HB3 := Lib.hid (HB2.out.trans (hb3.mono (by omega)))
      clear hb3
      go_wp2_with fail
      go_ret
      exact ⟨by rw [HM.out]; rfl, HB3.out⟩
    · rw [hx, Bool.true_or] at HM
      clear hx
      go_wp2_with fail
      go_ret
      exact ⟨by rw [HM.out]; rfl, HB2.out⟩
  · rw [hx, Bool.true_or, Bool.true_or] at HM
    clear hx
    go_wp2_with fail
    go_ret
    exact ⟨by rw [HM.out]; rfl, HB1.out⟩

set_option maxRecDepth 100000 in
set_option maxHeartbeats 2000000 in
theorem textAlone_any (t : Tk) (w : World) (h1 : t.n = 0) (h2 : t.man = 0) (h3 : t.ex = 0) :
    Calls Tryd.prog 31 #[t.val] w fun r w' => r = .returned (.bool true) ∧ Below w.heap.size w w' := by
  obtain ⟨k, x, n, m, e, o, g⟩ := t
  dsimp only at h1 h2 h3
  subst h1 h2 h3
  have B1 := Lib.hid (show ∀ o, Below w.heap.size w (w.alloc o) from fun o => (Below.refl _ _).alloc (Nat.le_refl _) _)
  go_enter Tryd.func31, Tryd.ntmps31
  go_wp2_with fail
  go_ret
  exact ⟨rfl, B1.out _⟩

end Go.Proofs.YtnmifeiokhpcfaaDoor

namespace Go.Proofs.YtnmifeiokhpcfaaDoor
open Go.RowKit
set_option linter.unusedVariables false

/-- a value that is a list of strings in memory -/
def SR (w : World) (v : Value) (l : List ByteArray) : Prop :=
  ∃ g o c, v = .slice (some ⟨g, o, none⟩) l.length c ∧ (∀ j, j < l.length → w.cell? ⟨g, o + j, none⟩ = some (.string (l.getD j ByteArray.empty))) ∧ g < w.heap.size
theorem SR.kept {w w' : World} {v : Value} {l : List ByteArray} (h : SR w v l) (hb : Below w.heap.size w w') : SR w' v l := by
  obtain ⟨g, o, c, h1, h2, h3⟩ := h
  exact ⟨g, o, c, h1, fun j hj => (hb.cell (p := ⟨g, o + j, none⟩) h3).trans (h2 j hj), Nat.lt_of_lt_of_le h3 hb.size⟩
theorem SR.own {w : World} {base : Nat} {e : TypeId} {v : Value} {n : Nat} {l : List ByteArray} (h : w.ownsRow base e 1 v n (l.map Value.string)) (hl : l.length = n) (h0 : 0 < n) : SR w v l := by
  obtain ⟨g, cap, hv, hg, _⟩ := h.form h0
  subst hl
  refine ⟨g, 0, cap, hv, fun j hj => ?_, ?_⟩
  · have := h.cells (g := g) (by rw [hv]; rfl) j (.string (l.getD j ByteArray.empty)) (by simp [List.getD, hj])
    rcases j with _ | j
    · simpa [Addr.add] using this
    · simpa [Addr.add] using this
  · have := h.cells (g := g) (by rw [hv]; rfl) 0 (.string (l.getD 0 ByteArray.empty)) (by simp [List.getD, h0])
    exact World.block_lt_of_cell? w _ this
theorem SR.new (w : World) (l : List ByteArray) (T : TypeId) : SR (w.alloc (.cells (l.map Value.string).toArray T)) (.slice (some ⟨w.heap.size, 0, none⟩) l.length l.length) l := by
  refine ⟨w.heap.size, 0, l.length, rfl, fun j hj => ?_, by simp⟩
  have h : (w.alloc (.cells (l.map Value.string).toArray T)).heap[w.heap.size]? = some (.cells (l.map Value.string).toArray T) := by
    show (w.heap.push _)[w.heap.size]? = _
    simp
  simp only [World.cell?, h, Nat.zero_add]
  simp [List.getD, hj]

end Go.Proofs.YtnmifeiokhpcfaaDoor

namespace Go.Proofs.YtnmifeiokhpcfaaDoor
open Go.RowKit
set_option linter.unusedVariables false

def allB (p : Nat → Bool) (s : ByteArray) : Bool := s.data.toList.all (fun b => p b.toNat)
theorem allB_iff (p : Nat → Bool) (s : ByteArray) : allB p s = true ↔ ∀ (k : Nat) (h : k < s.size), p s[k].toNat = true := by
  unfold allB
  rw [List.all_eq_true]
  constructor
  · intro h k hk
    exact h s[k] (by have : s[k] = s.data.toList[k]'(by rw [← Lib.size_eq]; exact hk) := rfl; rw [this]; exact List.getElem_mem _)
  · intro h b hb
    obtain ⟨k, hk, rfl⟩ := List.getElem_of_mem hb
    exact h k (by rw [Lib.size_eq]; exact hk)
theorem allB_no {p : Nat → Bool} {s : ByteArray} {k : Nat} (hk : k < s.size) (h : p s[k].toNat = false) : allB p s = false := by
  cases ha : allB p s
  · rfl
  · have := (allB_iff p s).1 ha k hk
    rw [h] at this
    cases this
theorem take_in {l : List ByteArray} {k : Nat} {s : ByteArray} (hk : k < l.length) (h : s ∉ l.take k) (hne : l.getD k ByteArray.empty ≠ s) : s ∉ l.take (k + 1) := by
  rw [List.take_succ_eq_append_getElem hk]
  intro q
  rcases List.mem_append.1 q with q | q
  · exact h q
  · simp [List.getD, hk] at q hne
    exact hne q.symm
def isLet (b : Nat) : Bool := decide (97 ≤ b ∧ b ≤ 122)

set_option maxRecDepth 100000 in
set_option maxHeartbeats 1600000 in
theorem areAll_any (s : ByteArray) (c : Int) (hc : okCls c) (w : World) (hs : s.size ≤ 9223372036854775807) :
    Calls Tryd.prog 35 #[.string s, .int .u8 c] w fun r w' => r = .returned (.bool (allB (inCls c) s)) ∧ w' = w := by
  have HC := Lib.hid hc
  clear hc
  go_enter Tryd.func35, Tryd.ntmps35
  go_wp2_with fail
  go_loopw [8] (fun i wr => ∃ k : Nat, k ≤ s.size ∧ i = .int .i64 k ∧ (∀ (j : Nat) (h : j < s.size), j < k → inCls c s[j].toNat = true) ∧ wr = w) (fun i _ => s.size - (intOf i).toNat)
  case atStart => exact ⟨0, Nat.zero_le _, rfl, fun j _ h => absurd h (Nat.not_lt_zero _), rfl⟩
  case round =>
    obtain ⟨k, hk, rfl, hal, rfl⟩ := hrel
    have HA := Lib.hid hal
    clear hal
    by_cases hlt : k < s.size
    · have hki : (k : Int) < (s.size : Int) := by omega
      have HCL := Lib.hid (fun w => classOf_any s[k].toNat w s[k].toNat_lt)
      have hand := (and_cls c HC.out s[k].toNat).2
      cases hx : inCls c s[k].toNat
      · have HX := Lib.hid (allB_no (p := inCls c) hlt hx)
        rw [hx] at hand
        go_wp2_with fail
        refine (HCL.out _).mono ?_
        rintro r w1 ⟨rfl, rfl⟩
        go_wp2_with fail
        go_ret
        exact ⟨by rw [HX.out]; rfl, rfl⟩
      · rw [hx] at hand
        have HX := Lib.hid hx
        clear hx
        go_wp2_with fail
        refine (HCL.out _).mono ?_
        rintro r w1 ⟨rfl, rfl⟩
        go_wp2_with fail
        exact ⟨⟨k + 1, by omega, by simp, fun j hj hlt2 => by
          by_cases e : j = k
          · subst e
            exact HX.out
          · exact HA.out j hj (by omega), by first | trivial | rfl⟩, by simp [intOf]; omega⟩
    · obtain rfl : k = s.size := by omega
      have HX := Lib.hid ((allB_iff (inCls c) s).2 (fun j hj => HA.out j hj hj))
      go_wp2_with fail
      go_ret
      exact ⟨by rw [HX.out]; rfl, rfl⟩

end Go.Proofs.YtnmifeiokhpcfaaDoor

namespace Go.Proofs.YtnmifeiokhpcfaaDoor
open Go.RowKit
set_option linter.unusedVariables false

theorem bytes_pos {s : ByteArray} (h : 0 < s.size) : ∃ a l, s.data.toList = a :: l ∧ s[0] = a := by
  rcases s with ⟨⟨l⟩⟩
  rcases l with _ | ⟨a, l⟩
  · simp [ByteArray.size] at h
  · exact ⟨a, l, rfl, rfl⟩
theorem allB_head (p : Nat → Bool) {s : ByteArray} (h : 0 < s.size) : allB p (s.extract 0 1) = p s[0].toNat := by
  obtain ⟨a, l, h1, h2⟩ := bytes_pos h
  unfold allB
  rw [Lib.extract_data, h1, h2]
  simp
theorem cls_one (b : Nat) : isRun b = (isDig b || isLet b) ∧ (isDig b && isLet b) = false := by
  refine ⟨rfl, ?_⟩
  unfold isDig isLet
  rw [← Bool.decide_and]
  exact decide_eq_false (by omega)

/-- What both name: not empty, not longer than 16, no digit first, letters and digits alone, no reserved word. -/
def nmB (s : ByteArray) : Bool := if h : 0 < s.size then decide (s.size ≤ 16) && !isDig s[0].toNat && allB isRun s && !Lib.containsS wordL s else false

theorem nm_none {s : ByteArray} (h : s.size = 0) : nmB s = false := by unfold nmB; rw [dif_neg (by omega)]
theorem nm_long {s : ByteArray} (h : 16 < s.size) : nmB s = false := by unfold nmB; rw [dif_pos (by omega)]; simp; omega
theorem nm_dig {s : ByteArray} (h : 0 < s.size) (h1 : isDig s[0].toNat = true) : nmB s = false := by unfold nmB; rw [dif_pos h, h1]; simp
theorem nm_run {s : ByteArray} (h1 : allB isRun s = false) : nmB s = false := by
  unfold nmB
  by_cases h : 0 < s.size
  · rw [dif_pos h, h1]; simp
  · rw [dif_neg h]
theorem nm_word {s : ByteArray} (h1 : Lib.containsS wordL s = true) : nmB s = false := by
  unfold nmB
  by_cases h : 0 < s.size
  · rw [dif_pos h, h1]; simp
  · rw [dif_neg h]
theorem nm_yes {s : ByteArray} (h : 0 < s.size) (h0 : s.size ≤ 16) (h1 : isDig s[0].toNat = false) (h2 : allB isRun s = true) (h3 : Lib.containsS wordL s = false) : nmB s = true := by
  unfold nmB
  rw [dif_pos h, h1, h2, h3]; simp [h0]
theorem nm_let {s : ByteArray} (h : 0 < s.size) (h1 : isLet s[0].toNat = false) : nmB s = false := by
  cases hd : isDig s[0].toNat
  · exact nm_run (allB_no h (by rw [(cls_one _).1, hd, h1]; rfl))
  · exact nm_dig h hd
theorem nm_last {s : ByteArray} (h : 0 < s.size) (h0 : s.size ≤ 16) (h1 : isLet s[0].toNat = true) (h3 : Lib.containsS wordL s = false) : nmB s = allB isRun s := by
  have hd : isDig s[0].toNat = false := by
    have := (cls_one s[0].toNat).2
    rw [h1, Bool.and_true] at this; exact this
  cases hr : allB isRun s
  · exact nm_run hr
  · exact nm_yes h h0 hd hr h3

set_option maxRecDepth 100000 in
set_option maxHeartbeats 1600000 in
theorem name_none (s : ByteArray) (w : World) (h : s.size = 0) :
    Calls Tryd.prog 33 #[.string s] w fun r w' => r = .returned (.bool (nmB s)) ∧ w' = w := by
  have HX := Lib.hid (nm_none h)
  have h1 := none_list h
  clear h
  go_enter Tryd.func33, Tryd.ntmps33
  go_wp2_with fail
  go_ret
  exact ⟨by rw [HX.out]; rfl, rfl⟩

set_option maxRecDepth 100000 in
set_option maxHeartbeats 1600000 in
theorem name_long (s : ByteArray) (w : World) (h : 16 < s.size) (hs : s.size ≤ 9223372036854775807) :
    Calls Tryd.prog 33 #[.string s] w fun r w' => r = .returned (.bool (nmB s)) ∧ w' = w := by
  have HX := Lib.hid (nm_long h)
  have h1 := full_list (s := s) (by omega)
  have h2 : ¬ (s.size : Int) ≤ 16 := by omega
  go_enter Tryd.func33, Tryd.ntmps33
  go_wp2_with fail
  go_ret
  exact ⟨by rw [HX.out]; rfl, rfl⟩

set_option maxRecDepth 100000 in
set_option maxHeartbeats 1600000 in
theorem name_dig (s : ByteArray) (w : World) (h : 0 < s.size) (h0 : s.size ≤ 16) (hd : isDig s[0].toNat = true) :
    Calls Tryd.prog 33 #[.string s] w fun r w' => r = .returned (.bool (nmB s)) ∧ w' = w := by
  have h1 := full_list (s := s) h
  have h2 : (s.size : Int) ≤ 16 := by omega
  have h3 : (1 : Int) ≤ (s.size : Int) := by omega
  have HA := Lib.hid (fun w => areAll_any (s.extract 0 1) 2 (Or.inr (Or.inl rfl)) w (by simp; omega))
  have HB := Lib.hid (fun w => areAll_any s 4 (Or.inr (Or.inr (Or.inl rfl))) w (by omega))
  rw [show inCls 2 = isDig from rfl, allB_head isDig h] at HA
  rw [show inCls 4 = isRun from rfl] at HB
  rw [hd] at HA
  have HX := Lib.hid (nm_dig h hd)
  clear hd
  go_enter Tryd.func33, Tryd.ntmps33
  go_wp2_with fail
  refine (HA.out _).mono ?_
  rintro r w1 ⟨rfl, rfl⟩
  go_wp2_with fail
  go_ret
  exact ⟨by rw [HX.out]; rfl, rfl⟩

set_option maxRecDepth 100000 in
set_option maxHeartbeats 1600000 in
theorem name_run (s : ByteArray) (w : World) (h : 0 < s.size) (h0 : s.size ≤ 16) (hd : isDig s[0].toNat = false) (hr : allB isRun s = false) :
    Calls Tryd.prog 33 #[.string s] w fun r w' => r = .returned (.bool (nmB s)) ∧ w' = w := by
  have h1 := full_list (s := s) h
  have h2 : (s.size : Int) ≤ 16 := by omega
  have h3 : (1 : Int) ≤ (s.size : Int) := by omega
  have HA := Lib.hid (fun w => areAll_any (s.extract 0 1) 2 (Or.inr (Or.inl rfl)) w (by simp; omega))
  have HB := Lib.hid (fun w => areAll_any s 4 (Or.inr (Or.inr (Or.inl rfl))) w (by omega))
  rw [show inCls 2 = isDig from rfl, allB_head isDig h] at HA
  rw [show inCls 4 = isRun from rfl] at HB
  rw [hd] at HA
  rw [hr] at HB
  have HX := Lib.hid (nm_run hr)
  clear hd hr
  go_enter Tryd.func33, Tryd.ntmps33
  go_wp2_with fail
  refine (HA.out _).mono ?_
  rintro r w1 ⟨rfl, rfl⟩
  go_wp2_with fail
  refine (HB.out _).mono ?_
  rintro r w1 ⟨rfl, rfl⟩
  go_wp2_with fail
  go_ret
  exact ⟨by rw [HX.out]; rfl, rfl⟩

set_option maxRecDepth 100000 in
set_option maxHeartbeats 1600000 in
theorem name_last (s : ByteArray) (w : World) {B : Nat} (h : 0 < s.size) (h0 : s.size ≤ 16) (hd : isDig s[0].toNat = false) (hr : allB isRun s = true) (ht : TabAt w B 0 wordL) :
    Calls Tryd.prog 33 #[.string s] w fun r w' => r = .returned (.bool (nmB s)) ∧ w' = w := by
  have h1 := full_list (s := s) h
  have h2 : (s.size : Int) ≤ 16 := by omega
  have h3 : (1 : Int) ≤ (s.size : Int) := by omega
  have HA := Lib.hid (fun w => areAll_any (s.extract 0 1) 2 (Or.inr (Or.inl rfl)) w (by simp; omega))
  have HB := Lib.hid (fun w => areAll_any s 4 (Or.inr (Or.inr (Or.inl rfl))) w (by omega))
  rw [show inCls 2 = isDig from rfl, allB_head isDig h] at HA
  rw [show inCls 4 = isRun from rfl] at HB
  rw [hd] at HA
  rw [hr] at HB
  have HW := Lib.hid (isWord_any s ht)
  have HX := Lib.hid (show nmB s = !Lib.containsS wordL s from by
    cases hc : Lib.containsS wordL s
    · exact nm_yes h h0 hd hr hc
    · exact nm_word hc)
  clear hd hr ht
  generalize Lib.containsS wordL s = t at *
  go_enter Tryd.func33, Tryd.ntmps33
  go_wp2_with fail
  refine (HA.out _).mono ?_
  rintro r w1 ⟨rfl, rfl⟩
  go_wp2_with fail
  refine (HB.out _).mono ?_
  rintro r w1 ⟨rfl, rfl⟩
  go_wp2_with fail
  refine (HW.out).mono ?_
  rintro r w1 ⟨rfl, rfl⟩
  go_wp2_with fail
  cases t
  · go_wp2_with fail
    go_ret
    exact ⟨by rw [HX.out]; rfl, rfl⟩
  · go_wp2_with fail
    go_ret
    exact ⟨by rw [HX.out]; rfl, rfl⟩

set_option maxRecDepth 100000 in
set_option maxHeartbeats 1600000 in
theorem name_any (s : ByteArray) (w : World) {B : Nat} (hs : s.size ≤ 9223372036854775807) (h : TabAt w B 0 wordL) :
    Calls Tryd.prog 33 #[.string s] w fun r w' => r = .returned (.bool (nmB s)) ∧ w' = w := by
  by_cases h0 : s.size = 0
  · exact name_none s w h0
  · by_cases h1 : s.size ≤ 16
    · cases hd : isDig (s[0]'(by omega)).toNat
      · cases hr : allB isRun s
        · exact name_run s w (by omega) h1 hd hr
        · exact name_last s w (by omega) h1 hd hr h
      · exact name_dig s w (by omega) h1 hd
    · exact name_long s w (by omega) hs

end Go.Proofs.YtnmifeiokhpcfaaDoor

namespace Go.Proofs.YtnmifeiokhpcfaaDoor
open Go.RowKit
set_option linter.unusedVariables false

theorem isSign_any {w : World} {B : Nat} (x : ByteArray) (h : TabAt w B 1 signL) :
    Calls Tryd.prog 36 #[.string x] w fun r w' => r = .returned (.bool (Lib.containsS signL x)) ∧ w = w' := by
  obtain ⟨g, o, c, h1, h2, h3, h4⟩ := h
  have hc : Lib.containsS (signL.take signL.length) x = Lib.containsS signL x := by rw [List.take_length]
  have HC := Lib.hid (Tryd.slices_Contains_string g o signL.length c signL x w (Nat.le_refl _) (by decide) h2)
  rw [hc] at HC
  clear hc h2
  generalize signL.length = n at *
  generalize Lib.containsS signL x = b at *
  go_enter Tryd.func36, Tryd.ntmps36
  go_wp2_with fail
  refine HC.out.mono ?_
  rintro r w' ⟨rfl, rfl⟩
  go_wp2_with fail
  go_ret
  exact ⟨rfl, rfl⟩

set_option maxRecDepth 100000 in
set_option maxHeartbeats 2000000 in
theorem valid_word (x : ByteArray) (o g : Nat) (w : World) (hT : TabAt w w.heap.size 0 wordL) (hx : Lib.containsS wordL x = true) (hne : (x.toList == ([99, 111, 109, 109, 101, 110, 116] : List UInt8)) = false) :
    Calls Tryd.prog 16 #[Tk.val ⟨1, x, 0, 0, 0, o, g⟩] w fun r w' => r = .returned (.bool true) ∧ Below w.heap.size w w' := by
  go_enter Tryd.func16, Tryd.ntmps16
  go_wp2_with fail
  refine (textAlone_any ⟨1, x, 0, 0, 0, o, g⟩ _ rfl rfl rfl).mono ?_
  rintro r w1 ⟨rfl, hb1⟩
  have n0 : w1.cell? ⟨w.heap.size, 0, none⟩ = some (.int .i64 1) := carry hb1 (by go_simp)
  have n1 : w1.cell? ⟨w.heap.size, 1, none⟩ = some (.string x) := carry hb1 (by go_simp)
  have n2 : w1.cell? ⟨w.heap.size, 2, none⟩ = some (.int .i64 0) := carry hb1 (by go_simp)
  have n3 : w1.cell? ⟨w.heap.size, 3, none⟩ = some (.int .i64 0) := carry hb1 (by go_simp)
  have n4 : w1.cell? ⟨w.heap.size, 4, none⟩ = some (.int .i64 0) := carry hb1 (by go_simp)
  have n5 : w1.cell? ⟨w.heap.size, 5, none⟩ = some (.int .i64 o) := carry hb1 (by go_simp)
  have n6 : w1.cell? ⟨w.heap.size, 6, none⟩ = some (.int .i64 g) := carry hb1 (by go_simp)
  have hz : w.heap.size < w1.heap.size := by have := hb1.size; simp at this; omega
  have HB1 := Lib.hid (((Below.refl w.heap.size w).alloc (Nat.le_refl _) (.cells #[.int .i64 1, .string x, .int .i64 0, .int .i64 0, .int .i64 0, .int .i64 o, .int .i64 g] 37)).trans (hb1.mono (by simp)))
  have HT := Lib.hid (hT.kept HB1.out (Nat.le_refl _))
  clear hb1 hT
  go_wp2_with fail
  refine (isWord_any x HT.out).mono ?_
  rw [hx]
  rintro r w2 ⟨rfl, rfl⟩
  go_wp2_with fail
  go_ret
  exact ⟨by simp_all, HB1.out⟩

set_option maxRecDepth 100000 in
set_option maxHeartbeats 2000000 in
theorem valid_name (x : ByteArray) (o g : Nat) (w : World) (hT : TabAt w w.heap.size 0 wordL) (hs : x.size ≤ 9223372036854775807) (hx : nmB x = true) :
    Calls Tryd.prog 16 #[Tk.val ⟨2, x, 0, 0, 0, o, g⟩] w fun r w' => r = .returned (.bool true) ∧ Below w.heap.size w w' := by
  go_enter Tryd.func16, Tryd.ntmps16
  go_wp2_with fail
  refine (textAlone_any ⟨2, x, 0, 0, 0, o, g⟩ _ rfl rfl rfl).mono ?_
  rintro r w1 ⟨rfl, hb1⟩
  have n0 : w1.cell? ⟨w.heap.size, 0, none⟩ = some (.int .i64 2) := carry hb1 (by go_simp)
  have n1 : w1.cell? ⟨w.heap.size, 1, none⟩ = some (.string x) := carry hb1 (by go_simp)
  have n2 : w1.cell? ⟨w.heap.size, 2, none⟩ = some (.int .i64 0) := carry hb1 (by go_simp)
  have n3 : w1.cell? ⟨w.heap.size, 3, none⟩ = some (.int .i64 0) := carry hb1 (by go_simp)
  have n4 : w1.cell? ⟨w.heap.size, 4, none⟩ = some (.int .i64 0) := carry hb1 (by go_simp)
  have n5 : w1.cell? ⟨w.heap.size, 5, none⟩ = some (.int .i64 o) := carry hb1 (by go_simp)
  have n6 : w1.cell? ⟨w.heap.size, 6, none⟩ = some (.int .i64 g) := carry hb1 (by go_simp)
  have hz : w.heap.size < w1.heap.size := by have := hb1.size; simp at this; omega
  have HB1 := Lib.hid (((Below.refl w.heap.size w).alloc (Nat.le_refl _) (.cells #[.int .i64 2, .string x, .int .i64 0, .int .i64 0, .int .i64 0, .int .i64 o, .int .i64 g] 37)).trans (hb1.mono (by simp)))
  have HT := Lib.hid (hT.kept HB1.out (Nat.le_refl _))
  clear hb1 hT
  go_wp2_with fail
  refine (name_any x _ hs HT.out).mono ?_
  rw [hx]
  rintro r w2 ⟨rfl, rfl⟩
  go_wp2_with fail
  go_ret
  exact ⟨rfl, HB1.out⟩

set_option maxRecDepth 100000 in
set_option maxHeartbeats 2000000 in
theorem valid_sign (x : ByteArray) (o g : Nat) (w : World) (hT : TabAt w w.heap.size 1 signL) (hx : Lib.containsS signL x = true) :
    Calls Tryd.prog 16 #[Tk.val ⟨6, x, 0, 0, 0, o, g⟩] w fun r w' => r = .returned (.bool true) ∧ Below w.heap.size w w' := by
  go_enter Tryd.func16, Tryd.ntmps16
  go_wp2_with fail
  refine (textAlone_any ⟨6, x, 0, 0, 0, o, g⟩ _ rfl rfl rfl).mono ?_
  rintro r w1 ⟨rfl, hb1⟩
  have n0 : w1.cell? ⟨w.heap.size, 0, none⟩ = some (.int .i64 6) := carry hb1 (by go_simp)
  have n1 : w1.cell? ⟨w.heap.size, 1, none⟩ = some (.string x) := carry hb1 (by go_simp)
  have n2 : w1.cell? ⟨w.heap.size, 2, none⟩ = some (.int .i64 0) := carry hb1 (by go_simp)
  have n3 : w1.cell? ⟨w.heap.size, 3, none⟩ = some (.int .i64 0) := carry hb1 (by go_simp)
  have n4 : w1.cell? ⟨w.heap.size, 4, none⟩ = some (.int .i64 0) := carry hb1 (by go_simp)
  have n5 : w1.cell? ⟨w.heap.size, 5, none⟩ = some (.int .i64 o) := carry hb1 (by go_simp)
  have n6 : w1.cell? ⟨w.heap.size, 6, none⟩ = some (.int .i64 g) := carry hb1 (by go_simp)
  have hz : w.heap.size < w1.heap.size := by have := hb1.size; simp at this; omega
  have HB1 := Lib.hid (((Below.refl w.heap.size w).alloc (Nat.le_refl _) (.cells #[.int .i64 6, .string x, .int .i64 0, .int .i64 0, .int .i64 0, .int .i64 o, .int .i64 g] 37)).trans (hb1.mono (by simp)))
  have HT := Lib.hid (hT.kept HB1.out (Nat.le_refl _))
  clear hb1 hT
  go_wp2_with fail
  refine (isSign_any x HT.out).mono ?_
  rw [hx]
  rintro r w2 ⟨rfl, rfl⟩
  go_wp2_with fail
  go_ret
  exact ⟨rfl, HB1.out⟩

set_option maxRecDepth 100000 in
set_option maxHeartbeats 2000000 in
theorem valid_str (x : ByteArray) (o g : Nat) (w : World) (hT : TabAt w w.heap.size 1 signL) (hs : x.size ≤ 80) (hx : allB (inCls 8) x = true) :
    Calls Tryd.prog 16 #[Tk.val ⟨5, x, 0, 0, 0, o, g⟩] w fun r w' => r = .returned (.bool true) ∧ Below w.heap.size w w' := by
  have hsz : (x.size : Int) ≤ 80 := by omega
  go_enter Tryd.func16, Tryd.ntmps16
  go_wp2_with fail
  refine (textAlone_any ⟨5, x, 0, 0, 0, o, g⟩ _ rfl rfl rfl).mono ?_
  rintro r w1 ⟨rfl, hb1⟩
  have n0 : w1.cell? ⟨w.heap.size, 0, none⟩ = some (.int .i64 5) := carry hb1 (by go_simp)
  have n1 : w1.cell? ⟨w.heap.size, 1, none⟩ = some (.string x) := carry hb1 (by go_simp)
  have n2 : w1.cell? ⟨w.heap.size, 2, none⟩ = some (.int .i64 0) := carry hb1 (by go_simp)
  have n3 : w1.cell? ⟨w.heap.size, 3, none⟩ = some (.int .i64 0) := carry hb1 (by go_simp)
  have n4 : w1.cell? ⟨w.heap.size, 4, none⟩ = some (.int .i64 0) := carry hb1 (by go_simp)
  have n5 : w1.cell? ⟨w.heap.size, 5, none⟩ = some (.int .i64 o) := carry hb1 (by go_simp)
  have n6 : w1.cell? ⟨w.heap.size, 6, none⟩ = some (.int .i64 g) := carry hb1 (by go_simp)
  have hz : w.heap.size < w1.heap.size := by have := hb1.size; simp at this; omega
  have HB1 := Lib.hid (((Below.refl w.heap.size w).alloc (Nat.le_refl _) (.cells #[.int .i64 5, .string x, .int .i64 0, .int .i64 0, .int .i64 0, .int .i64 o, .int .i64 g] 37)).trans (hb1.mono (by simp)))
  have HT := Lib.hid (hT.kept HB1.out (Nat.le_refl _))
  clear hb1 hT
  go_wp2_with fail
  refine (areAll_any x 8 (by unfold okCls; simp) _ (by omega)).mono ?_
  rw [hx]
  rintro r w2 ⟨rfl, rfl⟩
  go_wp2_with fail
  go_ret
  exact ⟨rfl, HB1.out⟩

set_option maxRecDepth 100000 in
set_option maxHeartbeats 2000000 in
theorem valid_int (n : Int) (o g : Nat) (w : World) (h0 : 0 ≤ n) (h1 : n ≤ 2147483647) :
    Calls Tryd.prog 16 #[Tk.val ⟨3, ⟨#[]⟩, n, 0, 0, o, g⟩] w fun r w' => r = .returned (.bool true) ∧ Below w.heap.size w w' := by
  have B1 := Lib.hid (show ∀ o, Below w.heap.size w (w.alloc o) from fun o => (Below.refl _ _).alloc (Nat.le_refl _) _)
  go_enter Tryd.func16, Tryd.ntmps16
  go_wp2_with fail
  go_ret
  exact ⟨rfl, B1.out _⟩

end Go.Proofs.YtnmifeiokhpcfaaDoor

namespace Go.Proofs.YtnmifeiokhpcfaaDoor
open Go.RowKit
set_option linter.unusedVariables false

set_option maxRecDepth 100000 in
set_option maxHeartbeats 2000000 in
theorem valid_real (m e : Int) (o g : Nat) (w : World) (h0 : 0 ≤ m)
    (HV : ∀ w1, Below w.heap.size w w1 → Calls Tryd.prog 34 #[.agg #[.int .i64 m, .int .i64 e]] w1 fun r w' => r = .returned (.bool true) ∧ Below w1.heap.size w1 w') :
    Calls Tryd.prog 16 #[Tk.val ⟨4, ⟨#[]⟩, 0, m, e, o, g⟩] w fun r w' => r = .returned (.bool true) ∧ Below w.heap.size w w' := by
  have HH := Lib.hid HV
  clear HV
  go_enter Tryd.func16, Tryd.ntmps16
  go_wp2_with fail
  have b1 : Below w.heap.size w (w.alloc (.cells #[.int .i64 4, .string ⟨#[]⟩, .int .i64 0, .int .i64 m, .int .i64 e, .int .i64 o, .int .i64 g] 37)) := (Below.refl _ _).alloc (Nat.le_refl _) _
  refine (HH.out _ b1).mono ?_
  rintro r w1 ⟨rfl, hb1⟩
  have n3 : w1.cell? ⟨w.heap.size, 3, none⟩ = some (.int .i64 m) := carry hb1 (by go_simp)
  have n4 : w1.cell? ⟨w.heap.size, 4, none⟩ = some (.int .i64 e) := carry hb1 (by go_simp)
  have HB1 := Lib.hid (b1.trans (hb1.mono (by simp)))
  clear hb1 b1
  go_wp2_with fail
  go_ret
  exact ⟨rfl, HB1.out⟩

/-- what follows the word end may follow it -/
def endOk : List Tk → Prop
  | [] => True
  | t :: r => (isEndTk t = true → ∀ u, r.head? = some u → mayEndTk u = true) ∧ endOk r

set_option maxRecDepth 100000 in
set_option maxHeartbeats 4000000 in
theorem check_any (l : List Tk) (w : World) {A : Option Addr} {c : Nat} (hl : l.length ≤ 131072) (hcp : l.length ≤ c) (hr : TokAt w (.slice A l.length c) l)
    (HV : ∀ t ∈ l, ∀ w1, Below w.heap.size w w1 → Calls Tryd.prog 16 #[t.val] w1 fun r w' => r = .returned (.bool true) ∧ Below w1.heap.size w1 w') (he : endOk l) :
    Calls Tryd.prog 8 #[.slice A l.length c] w fun r w' => r = .returned (.tuple #[.int .i64 0, .int .i64 0]) ∧ Below w.heap.size w w' := by
  have HVV := Lib.hid HV
  have HE := Lib.hid he
  have HR := Lib.hid hr

  clear HV he hr
  have hli : ¬ (131072 : Int) < (l.length : Int) := by omega
  have hEnd : ∀ k : Nat, k + 1 < l.length → ∀ t u, l[k]? = some t → l[k + 1]? = some u → isEndTk t = true → mayEndTk u = true := by
    intro k
    have he := HE.out
    clear HE HR HVV hl hcp hli
    induction l generalizing k with
    | nil => intro h; simp at h
    | cons x r ih =>
      intro h t u ht hu hi
      cases k with
      | zero => cases ht; exact he.1 hi u (by cases r <;> simp_all)
      | succ k => exact ih k he.2 (by simpa using h) t u (by simpa using ht) (by simpa using hu) hi
  have HEND := Lib.hid hEnd
  clear hEnd
  rcases HR.out with ⟨h1, rfl⟩ | ⟨g, c', cur, h1, hgb, hcell⟩
  · cases h1
    have B0 := Lib.hid (Below.refl w.heap.size w)
    go_enter Tryd.func8, Tryd.ntmps8
    go_wp2_with fail
    go_loopw [12] (fun i wr => i = .int .i64 0 ∧ wr = w) (fun i _ => 0)
    case atStart => exact ⟨rfl, rfl⟩
    case round =>
      obtain ⟨rfl, rfl⟩ := hrel
      go_wp2_with fail
      go_ret2
      exact ⟨rfl, B0.out⟩
  · cases h1
    go_enter Tryd.func8, Tryd.ntmps8
    go_wp2_with fail
    go_loopw [12] (fun i wr => ∃ k : Nat, k ≤ l.length ∧ i = .int .i64 k ∧ Below w.heap.size w wr) (fun i _ => l.length - (intOf i).toNat)
    case atStart => exact ⟨0, Nat.zero_le _, rfl, Below.refl _ _⟩
    case round =>
      obtain ⟨k, hk, rfl, hbw⟩ := hrel
      have HB := Lib.hid hbw
      by_cases hlt : k < l.length
      · obtain ⟨tk, htk⟩ : ∃ tk, l[k]? = some tk := ⟨l[k], List.getElem?_eq_getElem hlt⟩
        have hcl : ∀ q t, l[q]? = some t → ∀ j, j < 7 → wr.cell? ⟨g, q * 7 + j, none⟩ = t.cells[j]? := fun q t hq j hj => by
          rw [← hcell q t hq j hj]
          exact cell_of_row wr g (q * 7 + j) cur 37 (0, 0) ((hbw.block g (cells_lt hgb)).trans hgb)
        have j0 := hcl k tk htk 0 (by decide)
        have j1 := hcl k tk htk 1 (by decide)
        have j2 := hcl k tk htk 2 (by decide)
        have j3 := hcl k tk htk 3 (by decide)
        have j4 := hcl k tk htk 4 (by decide)
        have j5 := hcl k tk htk 5 (by decide)
        have j6 := hcl k tk htk 6 (by decide)
        simp only [Tk.cells, List.getElem?_cons_zero, List.getElem?_cons_succ] at j0 j1 j2 j3 j4 j5 j6
        simp only [Nat.add_zero] at j0
        have hg1 : g < wr.heap.size := Nat.lt_of_lt_of_le (cells_lt hgb) hbw.size
        have hwz := hbw.size
        have HV := Lib.hid (HVV.out tk (List.mem_of_getElem? htk))
        have hz1 : (0 : Int) ≤ (k : Int) := by omega
        have hz2 : (k : Int) < (l.length : Int) := by omega
        have hz3 : (l.length : Int) ≤ 131072 := by omega
        have HN := Lib.hid (HB.out.alloc hwz (.cells #[.int .i64 tk.kind, .string tk.text, .int .i64 tk.n, .int .i64 tk.man, .int .i64 tk.ex, .int .i64 tk.ofs, .int .i64 tk.en] 37))
        rcases k with _ | p
        · clear hcl hbw
          simp only [Nat.zero_mul, Nat.zero_add] at j0 j1 j2 j3 j4 j5 j6
          go_wp2_with fail
          refine (HV.out _ HN.out).mono ?_
          rintro r w1 ⟨rfl, hb1⟩
          have n0 : w1.cell? ⟨wr.heap.size, 0, none⟩ = some (.int .i64 tk.kind) := carry hb1 (by go_simp)
          have n1 : w1.cell? ⟨wr.heap.size, 1, none⟩ = some (.string tk.text) := carry hb1 (by go_simp)
          have n2 : w1.cell? ⟨wr.heap.size, 2, none⟩ = some (.int .i64 tk.n) := carry hb1 (by go_simp)
          have n3 : w1.cell? ⟨wr.heap.size, 3, none⟩ = some (.int .i64 tk.man) := carry hb1 (by go_simp)
          have n4 : w1.cell? ⟨wr.heap.size, 4, none⟩ = some (.int .i64 tk.ex) := carry hb1 (by go_simp)
          have n5 : w1.cell? ⟨wr.heap.size, 5, none⟩ = some (.int .i64 tk.ofs) := carry hb1 (by go_simp)
          have n6 : w1.cell? ⟨wr.heap.size, 6, none⟩ = some (.int .i64 tk.en) := carry hb1 (by go_simp)
          have HB1 := Lib.hid (HN.out.trans (hb1.mono (by simp; omega)))
          clear hb1
          go_wp2_with fail
          refine ⟨⟨1, by omega, by rfl, HB1.out⟩, by simp only [intOf]; omega⟩
        · obtain ⟨tp, htp⟩ : ∃ tp, l[p]? = some tp := ⟨l[p], List.getElem?_eq_getElem (by omega)⟩
          have i0 := hcl p tp htp 0 (by decide)
          have i1 := hcl p tp htp 1 (by decide)
          have i2 := hcl p tp htp 2 (by decide)
          have i3 := hcl p tp htp 3 (by decide)
          have i4 := hcl p tp htp 4 (by decide)
          have i5 := hcl p tp htp 5 (by decide)
          have i6 := hcl p tp htp 6 (by decide)
          simp only [Tk.cells, List.getElem?_cons_zero, List.getElem?_cons_succ] at i0 i1 i2 i3 i4 i5 i6
          simp only [Nat.add_zero] at i0
          have HM := Lib.hid (HEND.out p hlt tp tk htp htk)
          have hz4 : (0 : Int) ≤ (p : Int) := by omega
          have hz5 : (p : Int) < (l.length : Int) := by omega
          clear hcl hbw
          go_wp2_with fail
          refine (is_any tp 1 ⟨#[101, 110, 100]⟩ _ (xl := [101, 110, 100]) (by rw [ByteArray.toList_eq])).mono ?_
          rintro r w1 ⟨rfl, hb1⟩
          have n0 : w1.cell? ⟨wr.heap.size, 0, none⟩ = some (.int .i64 tk.kind) := carry hb1 (by go_simp)
          have n1 : w1.cell? ⟨wr.heap.size, 1, none⟩ = some (.string tk.text) := carry hb1 (by go_simp)
          have n2 : w1.cell? ⟨wr.heap.size, 2, none⟩ = some (.int .i64 tk.n) := carry hb1 (by go_simp)
          have n3 : w1.cell? ⟨wr.heap.size, 3, none⟩ = some (.int .i64 tk.man) := carry hb1 (by go_simp)
          have n4 : w1.cell? ⟨wr.heap.size, 4, none⟩ = some (.int .i64 tk.ex) := carry hb1 (by go_simp)
          have n5 : w1.cell? ⟨wr.heap.size, 5, none⟩ = some (.int .i64 tk.ofs) := carry hb1 (by go_simp)
          have n6 : w1.cell? ⟨wr.heap.size, 6, none⟩ = some (.int .i64 tk.en) := carry hb1 (by go_simp)
          have HB1 := Lib.hid (HN.out.trans (hb1.mono (by simp; omega)))
          clear hb1
          cases hx : (tp.kind == 1 && tp.text.toList == [101, 110, 100])
          · clear hx
            go_wp2_with fail
            refine (HV.out _ HB1.out).mono ?_
            rintro r w2 ⟨rfl, hb2⟩
            have HB2 := Lib.hid (HB1.out.trans (hb2.mono HB1.out.size))
            clear hb2
            go_wp2_with fail
            refine ⟨⟨p + 2, by omega, by first | rfl | (push_cast; rfl) | (congr 1; omega), HB2.out⟩, by simp only [intOf]; omega⟩
          · have HX := Lib.hid (HM.out hx)
            clear hx
            go_wp2_with fail
            refine (HV.out _ HB1.out).mono ?_
            rintro r w2 ⟨rfl, hb2⟩
            have m0 : w2.cell? ⟨wr.heap.size, 0, none⟩ = some (.int .i64 tk.kind) := carry hb2 n0
            have m1 : w2.cell? ⟨wr.heap.size, 1, none⟩ = some (.string tk.text) := carry hb2 n1
            have m2 : w2.cell? ⟨wr.heap.size, 2, none⟩ = some (.int .i64 tk.n) := carry hb2 n2
            have m3 : w2.cell? ⟨wr.heap.size, 3, none⟩ = some (.int .i64 tk.man) := carry hb2 n3
            have m4 : w2.cell? ⟨wr.heap.size, 4, none⟩ = some (.int .i64 tk.ex) := carry hb2 n4
            have m5 : w2.cell? ⟨wr.heap.size, 5, none⟩ = some (.int .i64 tk.ofs) := carry hb2 n5
            have m6 : w2.cell? ⟨wr.heap.size, 6, none⟩ = some (.int .i64 tk.en) := carry hb2 n6
            have HB2 := Lib.hid (HB1.out.trans (hb2.mono HB1.out.size))
            clear hb2
            go_wp2_with fail
            refine (mayEnd_any tk _).mono ?_
            rw [HX.out]
            rintro r w3 ⟨rfl, hb3⟩
            have HB3 := Lib.hid (HB2.out.trans (hb3.mono HB2.out.size))
            clear hb3
            go_wp2_with fail
            refine ⟨⟨p + 2, by omega, by first | rfl | (push_cast; rfl) | (congr 1; omega), HB3.out⟩, by simp only [intOf]; omega⟩
      · have hz2 : ¬ (k : Int) < (l.length : Int) := by omega
        go_wp2_with fail
        go_ret2
        exact ⟨rfl, HB.out⟩

end Go.Proofs.YtnmifeiokhpcfaaDoor

namespace Go.Proofs.YtnmifeiokhpcfaaDoor
open Go.RowKit
set_option linter.unusedVariables false

theorem lgs_mem (r : List UInt8) : ∀ (l : List ByteArray) (b : ByteArray), lgs r l b = b ∨ lgs r l b ∈ l := by
  intro l
  induction l with
  | nil => intro b; exact .inl rfl
  | cons x l ih =>
    intro b
    unfold lgs
    split
    · rcases ih x with h | h
      · exact .inr (by rw [h]; simp)
      · exact .inr (by simp [h])
    · rcases ih b with h | h
      · exact .inl h
      · exact .inr (by simp [h])
theorem sign_mem {s : ByteArray} {a : Nat} (h : (signAt s a).toList.isEmpty = false) : Lib.containsS signL (signAt s a) = true := by
  rw [Lib.containsS_iff]
  rcases lgs_mem (s.data.toList.drop a) signL ⟨#[]⟩ with h1 | h1
  · unfold signAt at h
    rw [h1] at h
    rw [ByteArray.toList_eq] at h
    cases h
  · exact h1
theorem ext_byt {s : ByteArray} {a b k : Nat} (hb : b ≤ s.size) (hk : k < (s.extract a b).size) : (s.extract a b)[k].toNat = byt s (a + k) := by
  have hz : (s.extract a b).size = b - a := by rw [ByteArray.size_extract]; omega
  rw [byt_in (by omega)]
  congr 1
  simp [ByteArray.getElem_extract]
theorem ext_all {f : Nat → Bool} {s : ByteArray} {a b : Nat} (hb : b ≤ s.size) (h : ∀ k, a ≤ k → k < b → f (byt s k) = true) : allB f (s.extract a b) = true := by
  rw [allB_iff]
  intro k hk
  have hz : (s.extract a b).size = b - a := by rw [ByteArray.size_extract]; omega
  rw [ext_byt hb hk]
  exact h (a + k) (by omega) (by omega)

/-- a token of a text, by its kind -/
inductive GoodTk (P : Tk → Prop) : Tk → Prop
  | word (x : ByteArray) (o g : Nat) (h : Lib.containsS wordL x = true) (h1 : (x.toList == comL) = false) : GoodTk P ⟨1, x, 0, 0, 0, o, g⟩
  | name (x : ByteArray) (o g : Nat) (h0 : x.size ≤ 16) (h : nmB x = true) : GoodTk P ⟨2, x, 0, 0, 0, o, g⟩
  | str (x : ByteArray) (o g : Nat) (h0 : x.size ≤ 80) (h : allB (inCls 8) x = true) : GoodTk P ⟨5, x, 0, 0, 0, o, g⟩
  | sign (x : ByteArray) (o g : Nat) (h : Lib.containsS signL x = true) : GoodTk P ⟨6, x, 0, 0, 0, o, g⟩
  | num (t : Tk) (h : P t) : GoodTk P t

theorem tokOut_good {nf : Num} {P : Tk → Prop} {s : ByteArray} {a b : Nat} {l l' : List Tk} (ha : a < s.size) (hnf : ∀ a e t, isDig (byt s a) = true → nf a = .ok (e, t) → P t) (hc : ((s.extract a (upTo isRun s a)).toList == comL) = false) (h : tokOut nf s a l = .ok (b, l')) :
    ∃ u, l' = l ++ [u] ∧ GoodTk P u := by
  have hu := upTo_le (f := isRun) (Nat.le_of_lt ha)
  have hg := upTo_ge isRun s a
  unfold tokOut at h
  split at h
  · rename_i hdg
    unfold numOut at h
    cases hn : nf a with
    | error e => rw [hn] at h; cases h
    | ok p =>
      obtain ⟨e, t⟩ := p
      rw [hn] at h
      cases h
      exact ⟨t, rfl, .num t (hnf _ _ _ hdg hn)⟩
  · rename_i hd
    split at h
    · rename_i hr
      have hlt : a < upTo isRun s a := by
        rw [upTo_step ha hr]
        have := upTo_ge isRun s (a + 1)
        omega
      unfold wordOut at h
      split at h
      · rename_i hw
        split at h
        · cases h; exact ⟨_, rfl, .word _ _ _ hw hc⟩
        · cases h; exact ⟨_, rfl, .word _ _ _ hw hc⟩
      · rename_i hw
        split at h
        · cases h
        · rename_i hz
          cases h
          have hsz : (s.extract a (upTo isRun s a)).size = upTo isRun s a - a := by rw [ByteArray.size_extract]; omega
          refine ⟨_, rfl, .name _ _ _ (by omega) (nm_yes (by omega) (by omega) ?_ (ext_all hu fun k h1 h2 => upTo_all (k - a) a k (by omega) h2) (by simpa using hw))⟩
          rw [ext_byt hu]
          simpa using hd
    · split at h
      · unfold strOut at h
        split at h
        · split at h
          · cases h
          · rename_i hz
            cases h
            have h1 : strEnd s a ≤ s.size := upTo_le (f := isStr) ha
            have hsz : (s.extract (a + 1) (strEnd s a)).size = strEnd s a - (a + 1) := by rw [ByteArray.size_extract]; omega
            exact ⟨_, rfl, .str _ _ _ (by omega) (ext_all h1 fun k h2 h3 => upTo_all (k - (a + 1)) (a + 1) k (by omega) h3)⟩
        · cases h
      · unfold signOut at h
        split at h
        · cases h
        · rename_i hz
          simp only [Except.ok.injEq, Prod.mk.injEq] at h
          obtain ⟨_, rfl⟩ := h
          have hq : (signAt s a).toList.isEmpty = false := by
            cases hq : (signAt s a).toList.isEmpty
            · rfl
            · exact absurd hq hz
          exact ⟨_, rfl, .sign _ _ _ (sign_mem hq)⟩

theorem scan_good {nf : Num} {P : Tk → Prop} {s : ByteArray} (N : NumOk nf s) (hnf : ∀ a e t, isDig (byt s a) = true → nf a = .ok (e, t) → P t) : ∀ (n a : Nat) (l l' : List Tk), a ≤ s.size → (∀ t ∈ l, GoodTk P t) → scan nf s n a l = .ok l' → ∀ t ∈ l', GoodTk P t := by
  intro n
  induction n with
  | zero => intro a l l' _ hl h; simp only [scan, Except.ok.injEq] at h; subst h; exact hl
  | succ n ih =>
    intro a l l' hal hl h
    have hu := upTo_le (f := isBlank) hal
    unfold scan at h
    split at h
    · simp only [Except.ok.injEq] at h
      subst h
      exact hl
    · rename_i hne
      cases hs : stepOut nf s (upTo isBlank s a) l with
      | error e' => rw [hs] at h; cases h
      | ok p =>
        obtain ⟨b, l1⟩ := p
        rw [hs] at h
        rcases stepOut_len hs with ⟨rfl, _, _, h3, h4⟩ | ⟨u, rfl, _, hc, hk⟩
        · exact ih _ _ _ (by omega) hl h
        · obtain ⟨v, hv, hgv⟩ := tokOut_good (l := []) (by omega) hnf hc (hk [])
          obtain rfl : u = v := by simpa using hv
          have hb := (tokOut_tok (l := []) N.en (by omega) (hk [])).1
          refine ih _ _ _ hb (fun t ht => ?_) h
          rcases List.mem_append.1 ht with h1 | h1
          · exact hl t h1
          · obtain rfl : t = u := by simpa using h1
            exact hgv

end Go.Proofs.YtnmifeiokhpcfaaDoor
