/-
  PACKAGE lex: plain mathematics of bytes and places; a place in a text, in memory.
-/
import Derived.Test.YtnmifeiokhpcfaaDoorProg
import Derived.WalkKit
import Derived.Below
import Derived.Lib.Hide
import Derived.Deep.Draws
import Derived.Maps.AppendAt
import Derived.Deep.AppendLies

namespace Go.Proofs.YtnmifeiokhpcfaaDoor
open Go.RowKit
set_option linter.unusedVariables false

/-- the byte at an offset; 256 behind the end -/
def byt (s : ByteArray) (a : Nat) : Nat := if h : a < s.size then s[a].toNat else 256
def isBlank (b : Nat) : Bool := b == 32 || b == 9 || b == 10 || b == 13
def isDig (b : Nat) : Bool := decide (48 ≤ b ∧ b ≤ 57)
def isRun (b : Nat) : Bool := isDig b || decide (97 ≤ b ∧ b ≤ 122)
def isStr (b : Nat) : Bool := decide (32 ≤ b ∧ b ≤ 126 ∧ b ≠ 34)
/-- what a byte is, as the program writes it -/
def clsV (b : Nat) : Int := if b = 32 then 9 else if b = 9 ∨ b = 10 ∨ b = 13 then 1 else if 48 ≤ b ∧ b ≤ 57 then 14 else if 97 ≤ b ∧ b ≤ 122 then 12 else if 33 ≤ b ∧ b ≤ 126 ∧ b ≠ 34 then 8 else 0
/-- the test that a class stands for -/
def inCls (c : Int) : Nat → Bool := if c = 1 then isBlank else if c = 2 then isDig else if c = 4 then isRun else isStr

theorem byt_in {s : ByteArray} {a : Nat} (h : a < s.size) : byt s a = s[a].toNat := dif_pos h
theorem byt_out {s : ByteArray} {a : Nat} (h : s.size ≤ a) : byt s a = 256 := dif_neg (by omega)
theorem inCls_out (c : Int) : inCls c 256 = false := by
  unfold inCls
  split
  · decide
  · split
    · decide
    · split <;> decide
theorem isBlank_iff (b : Nat) : isBlank b = true ↔ b = 32 ∨ b = 9 ∨ b = 10 ∨ b = 13 := by simp [isBlank, or_assoc]

/-- the first offset from a on whose byte is not in f -/
def goUp (f : Nat → Bool) (s : ByteArray) : Nat → Nat → Nat
  | 0, a => a
  | n + 1, a => if f (byt s a) then goUp f s n (a + 1) else a
def upTo (f : Nat → Bool) (s : ByteArray) (a : Nat) : Nat := goUp f s (s.size - a) a
theorem goUp_ge (f : Nat → Bool) (s : ByteArray) (n a : Nat) : a ≤ goUp f s n a := by
  induction n generalizing a with
  | zero => exact Nat.le_refl _
  | succ n ih => unfold goUp; split; exact Nat.le_trans (Nat.le_succ a) (ih _); exact Nat.le_refl _
theorem goUp_le (f : Nat → Bool) (s : ByteArray) (n a : Nat) : goUp f s n a ≤ a + n := by
  induction n generalizing a with
  | zero => exact Nat.le_refl _
  | succ n ih => unfold goUp; split; exact Nat.le_trans (ih _) (by omega); omega
theorem upTo_ge (f : Nat → Bool) (s : ByteArray) (a : Nat) : a ≤ upTo f s a := goUp_ge f s _ a
theorem upTo_le {f : Nat → Bool} {s : ByteArray} {a : Nat} (h : a ≤ s.size) : upTo f s a ≤ s.size := by
  have := goUp_le f s (s.size - a) a; unfold upTo; omega
theorem upTo_step {f : Nat → Bool} {s : ByteArray} {a : Nat} (h : a < s.size) (hf : f (byt s a) = true) : upTo f s a = upTo f s (a + 1) := by
  unfold upTo
  rw [show s.size - a = (s.size - (a + 1)) + 1 from by omega, goUp, if_pos hf]
theorem upTo_stop {f : Nat → Bool} {s : ByteArray} {a : Nat} (hf : f (byt s a) = false) : upTo f s a = a := by
  unfold upTo
  cases s.size - a with
  | zero => rfl
  | succ n => rw [goUp, if_neg (by simp [hf])]
theorem upTo_end {f : Nat → Bool} {s : ByteArray} {a : Nat} (h : s.size ≤ a) : upTo f s a = a := by
  unfold upTo
  rw [show s.size - a = 0 from by omega]; rfl
theorem goUp_end (f : Nat → Bool) (s : ByteArray) (n a : Nat) (h : goUp f s n a < a + n) : f (byt s (goUp f s n a)) = false := by
  induction n generalizing a with
  | zero => unfold goUp at h; omega
  | succ n ih =>
    unfold goUp at h ⊢
    split at h
    · rename_i hf; rw [if_pos hf]; exact ih (a + 1) (by omega)
    · rename_i hf; rw [if_neg hf]; simpa using hf
theorem upTo_false {f : Nat → Bool} (h256 : f 256 = false) (s : ByteArray) (a : Nat) : f (byt s (upTo f s a)) = false := by
  by_cases h : upTo f s a < a + (s.size - a)
  · exact goUp_end f s _ a h
  · rw [byt_out (by omega)]; exact h256

/-- a place in a text, which lies at the head of block B; rest: what the block holds behind it -/
def Pos (w : World) (B : Nat) (T : TypeId) (s : ByteArray) (a : Int) (rest : List Value) : Prop := w.heap[B]? = some (.cells (Value.string s :: .int .i64 a :: rest).toArray T (0, 0))

theorem cells_get {w : World} {B k : Nat} {T : TypeId} {l : List Value} (h : w.heap[B]? = some (.cells l.toArray T (0, 0))) : w.cell? ⟨B, k, none⟩ = l[k]? := by
  simp [World.cell?, h]
theorem cells_free {w : World} {B k : Nat} {T : TypeId} {l : List Value} (h : w.heap[B]? = some (.cells l.toArray T (0, 0))) : w.frozen? ⟨B, k, none⟩ = false := by
  simp [World.frozen?, h]
theorem cells_lt {w : World} {B : Nat} {o : Obj} (h : w.heap[B]? = some o) : B < w.heap.size := by
  rcases Nat.lt_or_ge B w.heap.size with h' | h'
  · exact h'
  · simp [Array.getElem?_eq_none h'] at h
theorem cells_set {w : World} {B k : Nat} {T : TypeId} {l : List Value} (h : w.heap[B]? = some (.cells l.toArray T (0, 0))) (u : Value) : (w.setCell ⟨B, k, none⟩ u).heap[B]? = some (.cells (l.set k u).toArray T (0, 0)) := by
  have hlt := cells_lt h
  have h' : w.heap[B] = .cells l.toArray T (0, 0) := by simpa [Array.getElem?_eq_getElem hlt] using h
  show (w.heap.modify B _)[B]? = _
  rw [Array.getElem?_eq_getElem (by simpa using hlt), Array.getElem_modify_self, h']
  simp
theorem grown_setCell (w : World) (a : Addr) (u : Value) : w.grownBy (w.setCell a u) (some a.block) :=
  ⟨rfl, rfl, rfl, by simp [World.setCell], fun k hk hne => Below.heap_setCell _ _ _ _ (fun e => hne (by rw [e]))⟩
theorem grown_drew {w w' : World} {r : Option Nat} (h : w.grownBy w' r) : w.grownBy w'.drew r := ⟨h.os, h.tape, h.output, h.size, h.block⟩
theorem grown_drewN {w w' : World} {r : Option Nat} (h : w.grownBy w' r) (n : Nat) : w.grownBy (w'.drewN n) r := ⟨h.os, h.tape, h.output, h.size, h.block⟩
theorem grown_and {a b c : World} {row row' : Option Nat} (h : a.grownBy b row) (k : b.grownBy c row') (hr : ∀ j, row' = some j → a.heap.size ≤ j ∨ row = some j) : a.grownBy c row :=
  ⟨k.os.trans h.os, k.tape.trans h.tape, k.output.trans h.output, Nat.le_trans h.size k.size, fun i hi hne => by
    have hb : i < b.heap.size := Nat.lt_of_lt_of_le hi h.size
    rw [k.block i hb (fun e => by
      rcases hr i e.symm with h1 | h1
      · omega
      · exact hne h1.symm)]
    exact h.block i hi hne⟩
theorem grown_refl (w : World) (r : Option Nat) : w.grownBy w r := ⟨rfl, rfl, rfl, Nat.le_refl _, fun _ _ _ => rfl⟩

section
variable {w w' : World} {B : Nat} {T : TypeId} {s : ByteArray} {a : Int} {rest : List Value}
theorem Pos.c0 (h : Pos w B T s a rest) : w.cell? ⟨B, 0, none⟩ = some (.string s) := cells_get h
theorem Pos.c1 (h : Pos w B T s a rest) : w.cell? ⟨B, 1, none⟩ = some (.int .i64 a) := cells_get h
theorem Pos.f1 (h : Pos w B T s a rest) : w.frozen? ⟨B, 1, none⟩ = false := cells_free h
theorem Pos.lt (h : Pos w B T s a rest) : B < w.heap.size := cells_lt h
theorem Pos.set (h : Pos w B T s a rest) (b : Int) : Pos (w.setCell ⟨B, 1, none⟩ (.int .i64 b)) B T s b rest := cells_set h _
theorem Pos.kept (h : Pos w B T s a rest) {r : Option Nat} (hg : w.grownBy w' r) (hr : some B ≠ r) : Pos w' B T s a rest := (hg.block B h.lt hr).trans h
theorem Pos.drewN (h : Pos w B T s a rest) (n : Nat) : Pos (w.drewN n) B T s a rest := h
theorem Pos.drew (h : Pos w B T s a rest) : Pos w.drew B T s a rest := h
end

end Go.Proofs.YtnmifeiokhpcfaaDoor
