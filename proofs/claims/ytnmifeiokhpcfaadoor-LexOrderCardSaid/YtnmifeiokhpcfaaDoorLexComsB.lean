/-
  PACKAGE lex: Comments, Strip at any text.
-/
import Derived.Test.YtnmifeiokhpcfaaDoorLexComs
import Derived.Test.YtnmifeiokhpcfaaDoorLexShift

namespace Go.Proofs.YtnmifeiokhpcfaaDoor
open Go.RowKit Go.Shelf
set_option linter.unusedVariables false
attribute [local go_sem] Oper.semAt_some

set_option maxRecDepth 100000 in
set_option maxHeartbeats 2000000 in
theorem coms_err {w : World} {s : ByteArray} {e : Int} {i : Nat} (he : e ≠ 0)
    (HLEX : Calls Tryd.prog 6 #[.string s] w fun r w' => r = .returned (.tuple #[.slice none 0 0, .int .i64 e, .int .i64 i]) ∧ Below w.heap.size w w') :
    Calls Tryd.prog 7 #[.string s] w fun r w' => r = .returned (.tuple #[.slice none 0 0, .int .i64 e, .int .i64 i]) ∧ Below w.heap.size w w' := by
  have HL := Lib.hid HLEX
  clear HLEX
  refine (callsIn_wide (n := 5)).1 ?_
  refine callsIn_of_wp_marks Tryd.func7 rfl trivial ?_ rfl
  simp only [Tryd.ntmps7, List.size_toArray, List.length_cons, List.length_nil, Nat.reduceAdd, Nat.reduceSub, Array.replicate_succ, Array.replicate_zero, List.push_toArray, List.append_toArray, List.nil_append, List.cons_append]
  gi_wp2
  refine ⟨trivial, callsIn_wide.2 (HL.out.mono ?_)⟩
  rintro r w5 ⟨rfl, hb5⟩
  have B5 := Lib.hid hb5
  clear hb5
  gi_wp2
  refine ⟨_, ?_, rfl, B5.out⟩
  simp [results, Tryd.results7]

set_option maxRecDepth 100000 in
set_option maxHeartbeats 2000000 in
theorem strip_err {w : World} {s : ByteArray} {e : Int} {i : Nat} (he : e ≠ 0)
    (HLEX : ∀ w', Below w.heap.size w w' → Calls Tryd.prog 6 #[.string s] w' fun r w2 => r = .returned (.tuple #[.slice none 0 0, .int .i64 e, .int .i64 i]) ∧ Below w'.heap.size w' w2) :
    Calls Tryd.prog 10 #[.string s] w fun r w' => r = .returned (.tuple #[.string ⟨#[]⟩, .int .i64 e, .int .i64 i]) ∧ Below w.heap.size w w' := by
  have HL := Lib.hid HLEX
  clear HLEX
  refine (callsIn_wide (n := 5)).1 ?_
  refine callsIn_of_wp_marks Tryd.func10 rfl trivial ?_ rfl
  simp only [Tryd.ntmps10, List.size_toArray, List.length_cons, List.length_nil, Nat.reduceAdd, Nat.reduceSub, Array.replicate_succ, Array.replicate_zero, List.push_toArray, List.append_toArray, List.nil_append, List.cons_append]
  gi_wp2
  have b1 : Below w.heap.size w (w.alloc (.cells #[.string s] 9)) := (Below.refl _ _).alloc (Nat.le_refl _) _
  refine ⟨trivial, callsIn_wide.2 ((HL.out _ b1).mono ?_)⟩
  rintro r w5 ⟨rfl, hb5⟩
  have B5 := Lib.hid (b1.trans (hb5.mono (by simp)))
  clear hb5 b1
  gi_wp2
  refine ⟨_, ?_, rfl, B5.out⟩
  simp [results, Tryd.results10]

/-- Comments at any text -/
theorem coms_all {s : ByteArray} {w : World} {l : List Tk} (hs : s.size ≤ 1048576) (ht1 : TabAt w w.heap.size 0 wordL) (ht2 : TabAt w w.heap.size 1 signL) (hP : re.P10 w) (hr : scan (numN s) s (s.size + 1) 0 [] = .ok l) :
    ∃ xs, comsL s l = some xs ∧ okC s 0 xs ∧ (xs.length ≤ 10000000 → ∀ w1, Below w.heap.size w w1 → Calls Tryd.prog 7 #[.string s] w1 fun e w' => ∃ v, e = .returned (.tuple #[v, .int .i64 0, .int .i64 0]) ∧ w'.ownsRow w1.heap.size 33 2 v xs.length (cellsP xs) ∧ Below w1.heap.size w1 w') := by
  obtain ⟨xs, h1, h2, h3⟩ := coms_any (numN_good s) hr
  refine ⟨xs, h1, h2, fun hx w1 hb => ?_⟩
  refine coms_walk l xs hs (tk_len (numN_good s) hr) hx (fun w' hb' => ?_) h3 h1
  have hbw := hb.trans (hb'.mono hb.size)
  have := lex_all (w := w') hs ((ht1.kept hbw (Nat.le_refl _)).mono hbw.size) ((ht2.kept hbw (Nat.le_refl _)).mono hbw.size) (hP.kept hbw (Nat.le_refl _))
  rw [hr] at this
  exact this
theorem coms_bad {s : ByteArray} {w : World} {e : Int} {i : Nat} (hs : s.size ≤ 1048576) (ht1 : TabAt w w.heap.size 0 wordL) (ht2 : TabAt w w.heap.size 1 signL) (hP : re.P10 w) (hr : scan (numN s) s (s.size + 1) 0 [] = .error (e, i)) :
    ∀ w1, Below w.heap.size w w1 → Calls Tryd.prog 7 #[.string s] w1 fun r w' => r = .returned (.tuple #[.slice none 0 0, .int .i64 e, .int .i64 i]) ∧ Below w1.heap.size w1 w' := fun w1 h =>
  coms_err (scan_err (fun a e h => numN_err h) _ _ _ _ _ hr) (lex_bad hs ht1 ht2 hP hr w1 h)
theorem strip_bad {s : ByteArray} {w : World} {e : Int} {i : Nat} (hs : s.size ≤ 1048576) (ht1 : TabAt w w.heap.size 0 wordL) (ht2 : TabAt w w.heap.size 1 signL) (hP : re.P10 w) (hr : scan (numN s) s (s.size + 1) 0 [] = .error (e, i)) :
    ∀ w1, Below w.heap.size w w1 → Calls Tryd.prog 10 #[.string s] w1 fun r w' => r = .returned (.tuple #[.string ⟨#[]⟩, .int .i64 e, .int .i64 i]) ∧ Below w1.heap.size w1 w' := fun w1 h =>
  strip_err (scan_err (fun a e h => numN_err h) _ _ _ _ _ hr) (fun w2 h2 => lex_bad hs ht1 ht2 hP hr w2 (h.trans (h2.mono h.size)))
/-- no more comments than bytes, when each has a byte -/
theorem okC_sum {s : ByteArray} : ∀ (xs : List (Nat × Nat)) (f : Nat), okC s f xs → (∀ x ∈ xs, x.1 < x.2) → f + xs.length ≤ s.size := by
  intro xs
  induction xs with
  | nil => intro f h _; exact h
  | cons x r ih =>
    intro f h hp
    obtain ⟨h1, h2, h3, h4⟩ := h
    have := ih x.2 h4 (fun y hy => hp y (by simp [hy]))
    have := hp x (by simp)
    simp only [List.length_cons]
    omega

theorem gapN_pos {e : Bool} {t : ByteArray} : ∀ (n a : Nat) (x : List (Nat × Nat)), a ≤ t.size → gapN e t n a = some x → ∀ p ∈ x, p.1 < p.2 := by
  intro n
  induction n with
  | zero => intro a x _ h; simp [gapN] at h
  | succ n ih =>
    intro a x ha h
    have hu := upTo_ge isBlank t a
    have hu2 := upTo_le (f := isBlank) ha
    unfold gapN at h
    split at h
    · cases h; simp
    · rename_i hne
      split at h
      · have hb := backTo_gt (upTo_false (by decide) t a) t.size (by omega)
        obtain ⟨r, hr, hx⟩ := Option.map_eq_some_iff.1 h
        subst hx
        intro p hp
        simp only [List.mem_cons] at hp
        rcases hp with rfl | hp
        · exact hb.1
        · exact ih _ r hb.2 hr p hp
      · split at h
        · rename_i hs
          obtain ⟨r, hr, hx⟩ := Option.map_eq_some_iff.1 h
          subst hx
          intro p hp
          simp only [List.mem_cons] at hp
          rcases hp with rfl | hp
          · exact Nat.lt_succ_of_le (toSemi_ge _ _)
          · exact ih _ r (by omega) hr p hp
        · cases h

theorem comsL_pos {s : ByteArray} : ∀ (l : List Tk) (xs : List (Nat × Nat)), okL s l → comsL s l = some xs → ∀ p ∈ xs, p.1 < p.2 := by
  intro l
  induction l with
  | nil => intro xs _ h; simp only [comsL, Option.some.injEq] at h; subst h; simp
  | cons t r ih =>
    intro xs ho h
    obtain ⟨h1, h2, h3⟩ := ho
    simp only [comsL] at h
    split at h
    · rename_i x y hx hy
      cases h
      intro p hp
      rcases List.mem_append.1 hp with hp | hp
      · exact gapN_pos _ _ x (by rw [ByteArray.size_extract]; omega) hx p hp
      · exact ih y h3 hy p hp
    · cases h
/-- Comments at any text: no bound on their number is asked, for each has a byte -/
theorem coms_ok {s : ByteArray} {w : World} {l : List Tk} (hs : s.size ≤ 1048576) (ht1 : TabAt w w.heap.size 0 wordL) (ht2 : TabAt w w.heap.size 1 signL) (hP : re.P10 w) (hr : scan (numN s) s (s.size + 1) 0 [] = .ok l) :
    ∃ xs, comsL s l = some xs ∧ okC s 0 xs ∧ okL s l ∧ (∀ p ∈ xs, p.1 < p.2) ∧ xs.length ≤ s.size ∧
      (∀ w1, Below w.heap.size w w1 → Calls Tryd.prog 7 #[.string s] w1 fun e w' => ∃ v, e = .returned (.tuple #[v, .int .i64 0, .int .i64 0]) ∧ w'.ownsRow w1.heap.size 33 2 v xs.length (cellsP xs) ∧ Below w1.heap.size w1 w') ∧
      (∀ w1, Below w.heap.size w w1 → Calls Tryd.prog 10 #[.string s] w1 fun e w' => e = .returned (.tuple #[.string ⟨(stripV s xs).toArray⟩, .int .i64 0, .int .i64 0]) ∧ Below w1.heap.size w1 w') := by
  obtain ⟨ys, k1, k2, k3⟩ := coms_any (numN_good s) hr
  obtain ⟨xs, h1, h2, h3⟩ := coms_all hs ht1 ht2 hP hr
  obtain ⟨zs, g1, g2, g3⟩ := strip_all hs ht1 ht2 hP hr
  have e1 : ys = xs := by rw [h1] at k1; exact (Option.some.inj k1).symm
  have e2 : zs = xs := by rw [h1] at g1; exact (Option.some.inj g1).symm
  subst e1
  subst e2
  have hp := comsL_pos l zs k3 h1
  have hn := okC_sum zs 0 h2 hp
  exact ⟨zs, h1, h2, k3, hp, by omega, h3 (by omega), g3 (by omega)⟩

end Go.Proofs.YtnmifeiokhpcfaaDoor
