/-
  A slice of tokens that came in, opened: with its capacity, and what bounds its size.
-/
import Derived.Test.YtnocgfddpdjjeaaDoorToks
import Derived.SizedLaws

namespace Go.Proofs.YtnocgfddpdjjeaaDoor
open Go.ChangeShapes Go.WideShapes Go.RowKit
set_option linter.unusedVariables false
variable {H : Type} {enc : TypeId × Value → H} {W : World} {base : Nat} {spare : Nat → Bool} {held : Bool}

set_option maxRecDepth 100000 in
/-- a list of tokens that came in -/
theorem open_toks2 {r : Reach} {b0 : Nat} {v : Value} {d : DataW H} {p : List MemPlace} (hv : Value.okWide Tryd.prog W r b0 22 v) (h : DataW.Trod enc Tryd.prog W base spare held 22 v d p) :
    ∃ (o : Option Addr) (cap : Nat) (l : List To), v = .slice o l.length cap ∧ Row W o l ∧ l.length ≤ cap ∧ cap ≤ maxLen ∧ (o = none → cap = 0) ∧ (l.length = 0 ∨ ∃ es sp, d = .slice es sp ∧ es.length = l.length) := by
  obtain ⟨a, len, cap, rfl⟩ := okWide_slice Tryd.underlying22 hv
  obtain ⟨fuel, hf⟩ := h
  rcases Go.Deep.open_slice Tryd.underlying22 hf with ⟨hcs, _⟩ | ⟨x, ln, cp, m, n, D, Pl, hcs, hb, hl, hm, hmm, hx, hi⟩
  · simp [Value.cells] at hcs
    obtain ⟨rfl, rfl, rfl⟩ := hcs
    exact ⟨none, 0, [], rfl, fun i h => absurd h (Nat.not_lt_zero _), Nat.le_refl _, Nat.zero_le _, fun _ => rfl, .inl rfl⟩
  · simp [Value.cells] at hcs
    obtain ⟨rfl, rfl, rfl⟩ := hcs
    have hlm : len ≤ m := by rw [hmm]; split <;> omega
    obtain ⟨T, hT⟩ := Go.Deep.choose_lt (α := To) (n := len) (p := fun i t => At7 W (x.add (i * 7)) t) (fun i hi' => by
      obtain ⟨cs', hc, ht⟩ := hi i (by omega)
      rw [cToken] at hc
      exact read_at hc ht)
    simp only [Prod.mk.injEq] at hx
    refine ⟨some x, cap, (List.range len).map T, by simp, fun i h => ⟨x, rfl, ?_⟩, by simpa using hl, hm, (fun e => by cases e), .inr ⟨_, _, hx.1, by simp⟩⟩
    have hi' : i < len := by simpa using h
    have := hT i hi'
    simpa using this
theorem bToken : Tryd.prog.bytesOf 47 = 64 := by kernel_rfl
end Go.Proofs.YtnocgfddpdjjeaaDoor
