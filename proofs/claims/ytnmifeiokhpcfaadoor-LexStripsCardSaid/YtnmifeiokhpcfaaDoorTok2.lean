/-
  PACKAGE lex: lists of tokens that came in: Find.
-/
import Derived.Test.YtnmifeiokhpcfaaDoorTok

namespace Go.Proofs.YtnmifeiokhpcfaaDoor
open Go.RowKit
set_option linter.unusedVariables false

/-- the cells of a token at a place -/
structure At7 (w : World) (a : Addr) (t : To) : Prop where
  lt : a.block < w.heap.size
  c0 : w.cell? a = some (.int .i64 t.kind)
  c1 : w.cell? ⟨a.block, a.off + 1, none⟩ = some (.string t.text)
  c2 : w.cell? ⟨a.block, a.off + 2, none⟩ = some (.int .i64 t.n)
  c3 : w.cell? ⟨a.block, a.off + 3, none⟩ = some (.int .i64 t.man)
  c4 : w.cell? ⟨a.block, a.off + 4, none⟩ = some (.int .i64 t.ex)
  c5 : w.cell? ⟨a.block, a.off + 5, none⟩ = some (.int .i64 t.ofs)
  c6 : w.cell? ⟨a.block, a.off + 6, none⟩ = some (.int .i64 t.en)
/-- a slice that holds tokens -/
def Row (w : World) (o : Option Addr) (l : List To) : Prop := ∀ i (h : i < l.length), ∃ a, o = some a ∧ At7 w (a.add (i * 7)) l[i]
/-- the first token at an offset, from k on -/
def fnd (l : List To) (at_ : Int) (k : Nat) : Option Nat := match (l.drop k).findIdx? (fun t => decide (t.ofs ≤ at_) && decide (at_ < t.en)) with
  | some i => some (k + i)
  | none => none
theorem fnd_end (l : List To) (at_ : Int) (k : Nat) (h : l.length ≤ k) : fnd l at_ k = none := by
  simp [fnd, List.drop_eq_nil_of_le h]
theorem fnd_hit (l : List To) (at_ : Int) (k : Nat) (h : k < l.length) (h1 : l[k].ofs ≤ at_) (h2 : at_ < l[k].en) : fnd l at_ k = some k := by
  unfold fnd
  rw [List.drop_eq_getElem_cons h, List.findIdx?_cons]
  simp [h1, h2]
theorem fnd_miss (l : List To) (at_ : Int) (k : Nat) (h : k < l.length) (h1 : ¬ (l[k].ofs ≤ at_ ∧ at_ < l[k].en)) : fnd l at_ k = fnd l at_ (k + 1) := by
  unfold fnd
  rw [List.drop_eq_getElem_cons h, List.findIdx?_cons]
  have : (decide (l[k].ofs ≤ at_) && decide (at_ < l[k].en)) = false := by simpa using h1
  simp only [this]
  cases (l.drop (k + 1)).findIdx? _ <;> simp; omega
def fndV (l : List To) (at_ : Int) (k : Nat) : Value := match fnd l at_ k with
  | some i => .tuple #[.int .i64 i, .int .i64 0]
  | none => .tuple #[.int .i64 0, .int .i64 5]

/-- what a slice holds, over calls that make memory -/
theorem At7.kept {w w' : World} {a : Addr} {t : To} (h : At7 w a t) (hb : Below w.heap.size w w') : At7 w' a t :=
  ⟨Nat.lt_of_lt_of_le h.lt hb.size, carry hb h.c0, carry hb h.c1, carry hb h.c2, carry hb h.c3, carry hb h.c4, carry hb h.c5, carry hb h.c6⟩
theorem Row.kept {w w' : World} {o : Option Addr} {l : List To} (h : Row w o l) (hb : Below w.heap.size w w') : Row w' o l := fun i hi => by
  obtain ⟨a, ha, h7⟩ := h i hi
  exact ⟨a, ha, h7.kept hb⟩