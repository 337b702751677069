/-
  LexErrors: the ways.
-/
import Derived.Test.YtjohcikkigpogaaDoorLexOrd
import Derived.Test.YtjohcikkigpogaaDoorLex17
import Derived.WalkKit
import Derived.Test.YtjohcikkigpogaaDoorLexCut3

namespace Go.Proofs.YtjohcikkigpogaaDoor.lexErrors
open Go.RowKit
set_option linter.unusedVariables false

theorem numN_run (s : ByteArray) (a e : Nat) (t : Tk) (h : numN s a = .ok (e, t)) : isRun (byt s e) = false ∧ byt s e ≠ 46 ∧ e = numEnd s a := by
  unfold numN at h
  split at h
  · split at h
    · cases h
    · rename_i hx
      have k : isRun (byt s (numEnd s a)) = false ∧ byt s (numEnd s a) ≠ 46 := by
        refine ⟨?_, fun q => hx (.inr q)⟩
        cases hr : isRun (byt s (numEnd s a))
        · rfl
        · exact absurd (.inl hr) hx
      split at h
      · split at h
        · cases h; exact ⟨k.1, k.2, rfl⟩
        · cases h
      · split at h
        · cases h; exact ⟨k.1, k.2, rfl⟩
        · cases h
  · cases h

theorem numN_cut {s t : ByteArray} {m : Nat} (hc : Cut s t m) (a e : Nat) (u : Tk) (h : numN s a = .ok (e, u)) (he : e ≤ m) : numN t a = .ok (e, u) := by
  have h1 := numN_ok s a e u h
  obtain ⟨r1, r2, rfl⟩ := numN_run s a e u h
  have hsz := hc.size
  have ha : a ≤ m := by omega
  have hn := hc.num ha he
  have hd : upTo isDig s a ≤ numEnd s a := by
    have g1 := fracEnd_ge s (upTo isDig s a)
    have g2 := expEnd_ge s (fracEnd s (upTo isDig s a))
    unfold numEnd
    omega
  have hu := hc.upTo' (f := isDig) (by decide) ha (Nat.le_trans hd he)
  have hb : ¬ (isRun (byt t (numEnd s a)) = true ∨ byt t (numEnd s a) = 46) := by
    by_cases hlt : numEnd s a < m
    · rw [hc.byt hlt, r1]
      rintro (q | q)
      · cases q
      · exact r2 q
    · rw [hc.out (by omega)]
      decide
  have hb' : ¬ (isRun (byt s (numEnd s a)) = true ∨ byt s (numEnd s a) = 46) := by
    rintro (q | q)
    · rw [r1] at q; cases q
    · exact r2 q
  unfold numN at h ⊢
  rw [if_pos ⟨h1.1, h1.2.1⟩, if_neg hb'] at h
  rw [hn, hu, if_pos ⟨h1.1, by omega⟩, if_neg hb, hc.ext a (Nat.le_trans hd he), hc.ext a he]
  exact h

set_option maxRecDepth 100000 in
set_option maxHeartbeats 1600000 in
theorem run_long (s : ByteArray) (w : World) (AW : Hid (Calls Tryd.prog 10 #[] w fun e w' => e = .returned (.bool true) ∧ Below w.heap.size w w')) (LX : Hid (∀ w1, Below w.heap.size w w1 → Calls Tryd.prog 11 #[.string s] w1 fun r w' => r = .returned (.tuple #[.slice none 0 0, .int .i64 2, .int .i64 0]) ∧ Below w1.heap.size w1 w')) (hl : (1048576 : Int) < (s.size : Int)) :
    Calls Tryd.prog 3 #[.string s] w fun e w' => e = .returned (.bool true) ∧ Below w.heap.size w w' := by
  go_enter Tryd.func3, Tryd.ntmps3
  go_wp2_with fail
  refine AW.out.mono ?_
  rintro e w1 ⟨rfl, hb1⟩
  have B1 := Lib.hid hb1
  clear hb1
  go_wp2_with fail
  refine (LX.out w1 B1.out).mono ?_
  rintro e w2 ⟨rfl, hb2⟩
  have B2 := Lib.hid (B1.out.trans (hb2.mono B1.out.size))
  clear hb2
  go_wp2_with fail
  go_ret
  exact ⟨rfl, B2.out⟩

set_option maxRecDepth 100000 in
set_option maxHeartbeats 1600000 in
theorem run_ok (s : ByteArray) (w : World) (AW : Hid (Calls Tryd.prog 10 #[] w fun e w' => e = .returned (.bool true) ∧ Below w.heap.size w w')) (LX : Hid (∀ w1, Below w.heap.size w w1 → Calls Tryd.prog 11 #[.string s] w1 fun r w' => ∃ (o : Option Addr) (n q : Nat), r = .returned (.tuple #[.slice o n q, .int .i64 0, .int .i64 0]) ∧ Below w1.heap.size w1 w')) (hl : ¬ (1048576 : Int) < (s.size : Int)) :
    Calls Tryd.prog 3 #[.string s] w fun e w' => e = .returned (.bool true) ∧ Below w.heap.size w w' := by
  go_enter Tryd.func3, Tryd.ntmps3
  go_wp2_with fail
  refine AW.out.mono ?_
  rintro e w1 ⟨rfl, hb1⟩
  have B1 := Lib.hid hb1
  clear hb1
  go_wp2_with fail
  refine (LX.out w1 B1.out).mono ?_
  rintro e w2 ⟨o, n, q, rfl, hb2⟩
  have B2 := Lib.hid (B1.out.trans (hb2.mono B1.out.size))
  clear hb2
  go_wp2_with fail
  go_ret
  exact ⟨rfl, B2.out⟩

set_option maxRecDepth 100000 in
set_option maxHeartbeats 1600000 in
theorem run_err (s : ByteArray) (er : Int) (i : Nat) (he : (er == 0) = false) (hi : i < s.size) (w : World) (AW : Hid (Calls Tryd.prog 10 #[] w fun e w' => e = .returned (.bool true) ∧ Below w.heap.size w w')) (LX : Hid (∀ w1, Below w.heap.size w w1 → Calls Tryd.prog 11 #[.string s] w1 fun r w' => r = .returned (.tuple #[.slice none 0 0, .int .i64 er, .int .i64 i]) ∧ Below w1.heap.size w1 w')) (LY : Hid (∀ w1, Below w.heap.size w w1 → Calls Tryd.prog 11 #[.string (s.extract 0 i)] w1 fun r w' => ∃ (o : Option Addr) (n q : Nat), r = .returned (.tuple #[.slice o n q, .int .i64 0, .int .i64 0]) ∧ Below w1.heap.size w1 w')) (hl : ¬ (1048576 : Int) < (s.size : Int)) :
    Calls Tryd.prog 3 #[.string s] w fun e w' => e = .returned (.bool true) ∧ Below w.heap.size w w' := by
  have h1 : ¬ ((i : Int) < 0) := by omega
  have h2 : ¬ ((s.size : Int) ≤ (i : Int)) := by omega
  have h3 : (i : Int) ≤ (s.size : Int) := by omega
  have h4 : (0 : Int) ≤ (i : Int) := by omega
  go_enter Tryd.func3, Tryd.ntmps3
  go_wp2_with fail
  refine AW.out.mono ?_
  rintro e w1 ⟨rfl, hb1⟩
  have B1 := Lib.hid hb1
  clear hb1
  go_wp2_with fail
  refine (LX.out w1 B1.out).mono ?_
  rintro e w2 ⟨rfl, hb2⟩
  have B2 := Lib.hid (B1.out.trans (hb2.mono B1.out.size))
  clear hb2
  go_wp2_with fail
  refine (LY.out w2 B2.out).mono ?_
  rintro e w3 ⟨o, n, q, rfl, hb3⟩
  have B3 := Lib.hid (B2.out.trans (hb3.mono B2.out.size))
  clear hb3
  go_wp2_with fail
  go_ret
  exact ⟨rfl, B3.out⟩

theorem lex_ok {s : ByteArray} {w : World} {l : List Tk} (hs : s.size ≤ 1048576) (ht1 : TabAt w w.heap.size 0 wordL) (ht2 : TabAt w w.heap.size 1 signL) (hP : re.P10 w) (hr : scan (numN s) s (s.size + 1) 0 [] = .ok l) :
    ∀ w1, Below w.heap.size w w1 → Calls Tryd.prog 11 #[.string s] w1 fun r w' => ∃ (o : Option Addr) (n q : Nat), r = .returned (.tuple #[.slice o n q, .int .i64 0, .int .i64 0]) ∧ Below w1.heap.size w1 w' := fun w1 h => by
  have := lex_all (w := w1) hs ((ht1.kept h (Nat.le_refl _)).mono h.size) ((ht2.kept h (Nat.le_refl _)).mono h.size) (hP.kept h (Nat.le_refl _))
  rw [hr] at this
  refine this.mono fun r w' ⟨hb, v, hv, hw⟩ => ?_
  rcases hw.2 with ⟨h1, h0⟩ | ⟨g, cap, cur, h1, _⟩
  · subst h1
    exact ⟨none, 0, 0, hv, hb⟩
  · subst h1
    exact ⟨_, _, _, hv, hb⟩

set_option maxHeartbeats 800000 in
theorem run (a0 : ByteArray) (w : World) (w0 : a0.size ≤ maxLen) (hb : a0.size < 4611686018427387904) (ht1 : TabAt w w.heap.size 0 wordL) (ht2 : TabAt w w.heap.size 1 signL) (hP : re.P10 w) :
    Calls Tryd.prog 3 #[.string a0] w fun e w' => e = .returned (.bool true) ∧ Below w.heap.size w w' := by
  have AW := Lib.hid (awake_any w ht1 ht2)
  by_cases hs : a0.size ≤ 1048576
  · cases hr : scan (numN a0) a0 (a0.size + 1) 0 [] with
    | ok l => exact run_ok a0 w AW (Lib.hid (lex_ok hs ht1 ht2 hP hr)) (by omega)
    | error x =>
      obtain ⟨e, i⟩ := x
      have hne := scan_err (fun a e h => numN_err h) _ _ _ _ _ hr
      have hnf : ∀ a e t, numN a0 a = .ok (e, t) → a < e ∧ e ≤ a0.size := fun a e t h => ⟨(numN_ok a0 a e t h).1, (numN_ok a0 a e t h).2.1⟩
      have hnr : ∀ a e t, numN a0 a = .ok (e, t) → isRun (byt a0 e) = false := fun a e t h => (numN_run a0 a e t h).1
      have b0 : Bd a0 0 := fun _ => .inl rfl
      have ha := scan_at hnf hnr _ _ _ _ _ (Nat.zero_le _) b0 hr
      have hc : Cut a0 (a0.extract 0 i) i := ⟨rfl, by omega⟩
      obtain ⟨l', hl'⟩ := scan_cut hc ha.2.2 hnf hnr (fun a e u h he => numN_cut hc a e u h he) e ((a0.extract 0 i).size + 1) _ _ _ (Nat.zero_le _) b0 hr
      refine run_err a0 e i (by simpa using hne) ha.2.1 w AW (Lib.hid fun w1 h => ?_) (Lib.hid (lex_ok (by rw [hc.size]; omega) ht1 ht2 hP hl')) (by omega)
      have := lex_all (w := w1) hs ((ht1.kept h (Nat.le_refl _)).mono h.size) ((ht2.kept h (Nat.le_refl _)).mono h.size) (hP.kept h (Nat.le_refl _))
      rw [hr] at this
      exact this.mono fun r w' ⟨hb, hv⟩ => ⟨hv, hb⟩
  · exact run_long a0 w AW (Lib.hid fun w1 _ => lex_long (by omega)) (by omega)

end Go.Proofs.YtjohcikkigpogaaDoor.lexErrors
