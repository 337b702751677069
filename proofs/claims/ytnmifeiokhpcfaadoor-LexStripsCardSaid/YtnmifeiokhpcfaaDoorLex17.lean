/-
  THE STATEMENTS' EXAMPLES: awake returns true.
-/
import Derived.Test.YtnmifeiokhpcfaaDoorLex16

namespace Go.Proofs.YtnmifeiokhpcfaaDoor
open Go.RowKit
set_option linter.unusedVariables false

def ex1 : ByteArray := ⟨#[98, 101, 103, 105, 110, 32, 99, 111, 109, 109, 101, 110, 116, 32, 97, 59, 32, 98, 32, 101, 110, 100, 32, 99, 44, 32, 34, 100, 32, 101, 108, 115, 101]⟩
def ex2 : ByteArray := ⟨#[59, 32, 49, 50, 97]⟩
def tk1 : List Tk := [⟨1, ⟨#[98, 101, 103, 105, 110]⟩, 0, 0, 0, 0, 5⟩, ⟨2, ⟨#[98]⟩, 0, 0, 0, 17, 18⟩, ⟨1, ⟨#[101, 110, 100]⟩, 0, 0, 0, 19, 22⟩, ⟨1, ⟨#[101, 108, 115, 101]⟩, 0, 0, 0, 29, 33⟩]
def nf0 : Num := fun _ => .error 7
theorem scan1 : scan nf0 ex1 (ex1.size + 1) 0 [] = .ok tk1 := by kernel_rfl
theorem scan2 : scan nf0 ex2 (ex2.size + 1) 0 [] = .error (7, 2) := by kernel_rfl
theorem coms1 : comsL ex1 tk1 = some [(6, 16), (23, 28)] := by kernel_rfl
theorem strip1 : stripV ex1 [(6, 16), (23, 28)] = [98, 101, 103, 105, 110, 32, 32, 32, 98, 32, 101, 110, 100, 32, 32, 32, 101, 108, 115, 101] := by kernel_rfl
theorem ok1 : okL ex1 tk1 := by
  refine ⟨by decide, by decide, by decide, by decide, by decide, by decide, by decide, by decide, trivial⟩
theorem okc1 : okC ex1 0 [(6, 16), (23, 28)] := by
  refine ⟨by decide, by decide, by decide, by decide, by decide, by decide, (by show (28 : Nat) ≤ ex1.size; decide)⟩
theorem nodig1 (a : Nat) (h : a < ex1.size) : isDig (byt ex1 a) = false := by
  have h2 : (List.range ex1.size).all (fun a => !isDig (byt ex1 a)) = true := by kernel_rfl
  have := List.all_eq_true.1 h2 a (List.mem_range.2 h)
  simpa using this
theorem baddig2 (a : Nat) (h : a < ex2.size) (hd : isDig (byt ex2 a) = true) : isRun (byt ex2 (numEnd ex2 a)) = true := by
  have h2 : (List.range ex2.size).all (fun a => !isDig (byt ex2 a) || isRun (byt ex2 (numEnd ex2 a))) = true := by kernel_rfl
  have := List.all_eq_true.1 h2 a (List.mem_range.2 h)
  rw [hd] at this
  simpa using this

theorem lex1 {w : World} (ht1 : TabAt w w.heap.size 0 wordL) (ht2 : TabAt w w.heap.size 1 signL) : Calls Tryd.prog 6 #[.string ex1] w (LexP w (.ok tk1)) := by
  have h := lex_any (w := w) (s := ex1) nf0 (by decide) ht1 ht2 (fun a e t h => by cases h) (fun B a l _ ha _ hd => by rw [nodig1 a ha] at hd; cases hd)
  rw [scan1] at h
  exact h
theorem lex2 {w : World} (ht1 : TabAt w w.heap.size 0 wordL) (ht2 : TabAt w w.heap.size 1 signL) : Calls Tryd.prog 6 #[.string ex2] w (LexP w (.error (7, 2))) := by
  have h := lex_any (w := w) (s := ex2) nf0 (by decide) ht1 ht2 (fun a e t h => by cases h) (fun B a l _ ha _ hd w' _ hs _ => readNumber_bad hs (Nat.le_of_lt ha) (by decide) (.inl (baddig2 a ha hd)))
  rw [scan2] at h
  exact h
theorem strip_ex {w : World} (ht1 : TabAt w w.heap.size 0 wordL) (ht2 : TabAt w w.heap.size 1 signL) : Calls Tryd.prog 10 #[.string ex1] w fun e w' => e = .returned (.tuple #[.string ⟨#[98, 101, 103, 105, 110, 32, 32, 32, 98, 32, 101, 110, 100, 32, 32, 32, 101, 108, 115, 101]⟩, .int .i64 0, .int .i64 0]) ∧ Below w.heap.size w w' := by
  have h := strip_any (w := w) (s := ex1) tk1 [(6, 16), (23, 28)] (by decide) (by decide) (by decide) (fun w' hb => lex1 ((ht1.kept hb (Nat.le_refl _)).mono hb.size) ((ht2.kept hb (Nat.le_refl _)).mono hb.size)) ok1 coms1 okc1
  rw [strip1] at h
  exact h

set_option maxRecDepth 100000 in
set_option maxHeartbeats 2000000 in
theorem awake_any (w : World) (ht1 : TabAt w w.heap.size 0 wordL) (ht2 : TabAt w w.heap.size 1 signL) :
    Calls Tryd.prog 5 #[] w fun e w' => e = .returned (.bool true) ∧ Below w.heap.size w w' := by
  have HT1 := Lib.hid ht1
  have HT2 := Lib.hid ht2
  have L1 := Lib.hid (lex1 ht1 ht2)
  clear ht1 ht2
  go_enter Tryd.func5, Tryd.ntmps5
  go_wp2_with fail
  refine L1.out.mono ?_
  rintro e w1 ⟨hb1, v, rfl, ho1⟩
  have HB1 := Lib.hid hb1
  have T1 := Lib.hid (TokAt.of ho1)
  have L2 := Lib.hid (lex2 ((HT1.out.kept hb1 (Nat.le_refl _)).mono hb1.size) ((HT2.out.kept hb1 (Nat.le_refl _)).mono hb1.size))
  clear hb1 ho1
  go_wp2_with fail
  refine L2.out.mono ?_
  rintro e w2 ⟨hb2, rfl⟩
  have HB2 := Lib.hid (HB1.out.trans (hb2.mono HB1.out.size))
  have T2 := Lib.hid (T1.out.kept (Kq.of_below hb2))
  have S3 := Lib.hid (strip_ex ((HT1.out.kept HB2.out (Nat.le_refl _)).mono HB2.out.size) ((HT2.out.kept HB2.out (Nat.le_refl _)).mono HB2.out.size))
  clear hb2
  go_wp2_with fail
  refine S3.out.mono ?_
  rintro e w3 ⟨rfl, hb3⟩
  have HB3 := Lib.hid (HB2.out.trans (hb3.mono HB2.out.size))
  have T3 := T2.out.kept (Kq.of_below hb3)
  rcases T3 with ⟨_, h⟩ | ⟨g, c, cur, rfl, hg, hc⟩
  · cases h
  have cells : ∀ k t, tk1[k]? = some t → ∀ j, j < 7 → w3.cell? ⟨g, k * 7 + j, none⟩ = t.cells[j]? := fun k t hk j hj => by
    rw [← hc k t hk j hj]
    simp [World.cell?, hg]
  have c1 : w3.cell? ⟨g, 7, none⟩ = some (.int .i64 2) := cells 1 _ rfl 0 (by decide)
  have c2 : w3.cell? ⟨g, 8, none⟩ = some (.string ⟨#[98]⟩) := cells 1 _ rfl 1 (by decide)
  have c3 : w3.cell? ⟨g, 12, none⟩ = some (.int .i64 17) := cells 1 _ rfl 5 (by decide)
  have c4 : w3.cell? ⟨g, 22, none⟩ = some (.string ⟨#[101, 108, 115, 101]⟩) := cells 3 _ rfl 1 (by decide)
  have c5 : w3.cell? ⟨g, 27, none⟩ = some (.int .i64 33) := cells 3 _ rfl 6 (by decide)
  have hl : tk1.length = 4 := rfl
  rw [hl]
  clear hb3 cells hc hg hl
  go_wp2_with fail
  go_ret
  exact ⟨rfl, HB3.out⟩

end Go.Proofs.YtnmifeiokhpcfaaDoor
