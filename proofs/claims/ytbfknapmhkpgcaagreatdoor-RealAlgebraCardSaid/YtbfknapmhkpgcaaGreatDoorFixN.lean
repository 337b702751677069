/-
  PACKAGE real, NUMBERS IN FIXED POINT: digits to the base 2^64; what changes where one block alone is written.
-/
import Derived.Test.YtbfknapmhkpgcaaGreatDoorReal8
import Derived.Lib.ItoaNum
import Derived.Lib.SmallJoins

namespace Go.Proofs.YtbfknapmhkpgcaaGreatDoor
open Go.RowKit
set_option linter.unusedVariables false

abbrev BB : Nat := 18446744073709551616

/-- the digit i of V to the base 2^64 -/
def dg (V i : Nat) : Nat := V / BB ^ i % BB

theorem dg_lt (V i : Nat) : dg V i < 18446744073709551616 := Nat.mod_lt _ (by decide)

theorem bbpos (k : Nat) : 0 < BB ^ k := Nat.pow_pos (by decide)

theorem mod_succ (V k : Nat) : V % BB ^ (k + 1) = V % BB ^ k + BB ^ k * dg V k := by
  rw [Nat.pow_succ, Nat.mod_mul]
  rfl

theorem mul_step (V f p k : Nat) : (V % BB ^ (k + 1) * f + p) / BB ^ (k + 1) = (dg V k * f + (V % BB ^ k * f + p) / BB ^ k) / BB := by
  rw [mod_succ, Nat.pow_succ, ← Nat.div_div_eq_div_mul]
  congr 1
  have : (V % BB ^ k + BB ^ k * dg V k) * f + p = (V % BB ^ k * f + p) + BB ^ k * (dg V k * f) := by
    rw [Nat.add_mul, Nat.mul_assoc]
    omega
  rw [this, Nat.add_mul_div_left _ _ (bbpos k)]
  omega

theorem mul_digit (V f p k : Nat) : dg (V * f + p) k = (dg V k * f + (V % BB ^ k * f + p) / BB ^ k) % BB := by
  have h : V * f + p = (V % BB ^ k * f + p) + BB ^ k * (V / BB ^ k * f) := by
    have := Nat.mod_add_div V (BB ^ k)
    calc V * f + p = (V % BB ^ k + BB ^ k * (V / BB ^ k)) * f + p := by rw [this]
      _ = _ := by
        rw [Nat.add_mul, Nat.mul_assoc]
        omega
  unfold dg
  rw [h, Nat.add_mul_div_left _ _ (bbpos k), Nat.add_comm]
  have e : V / BB ^ k = BB * (V / BB ^ k / BB) + V / BB ^ k % BB := (Nat.div_add_mod _ _).symm
  generalize V / BB ^ k / BB = q at e
  generalize V / BB ^ k % BB = d at *
  rw [e, Nat.add_mul, Nat.mul_assoc, Nat.add_assoc, Nat.mul_add_mod]

theorem carry_lt (V f p k : Nat) (hf : f < BB) (hp : p < BB) : (V % BB ^ k * f + p) / BB ^ k < BB := by
  rw [Nat.div_lt_iff_lt_mul (bbpos k)]
  have h1 : V % BB ^ k + 1 ≤ BB ^ k := Nat.mod_lt _ (bbpos k)
  have h2 : V % BB ^ k * f + p < (V % BB ^ k + 1) * BB := by
    rw [Nat.add_mul, Nat.one_mul]
    have : V % BB ^ k * f ≤ V % BB ^ k * BB := Nat.mul_le_mul_left _ (by omega)
    omega
  calc _ < (V % BB ^ k + 1) * BB := h2
    _ ≤ BB ^ k * BB := Nat.mul_le_mul_right _ h1
    _ = BB * BB ^ k := Nat.mul_comm _ _

/-- high and low of a product, and a sum: what stays and what goes on -/
theorem hl_sum (a f c : Nat) (ha : a < BB) (hf : f < BB) (hc : c < BB) : (a * f % BB + c) % BB = (a * f + c) % BB ∧ a * f / BB + (a * f % BB + c) / BB = (a * f + c) / BB ∧ (a * f + c) / BB < BB := by
  refine ⟨by rw [Nat.mod_add_mod], ?_, ?_⟩
  · generalize a * f = x
    simp only [BB]
    omega
  · rw [Nat.div_lt_iff_lt_mul (by decide)]
    have h1 : a * f ≤ (BB - 1) * (BB - 1) := Nat.mul_le_mul (by omega) (by omega)
    have h2 : (BB - 1) * (BB - 1) + BB ≤ BB * BB := by decide
    omega

/-- Block b alone was written: the other blocks, and the sizes, are as they were. -/
structure Only (b : Nat) (w w' : World) : Prop where
  os : w'.os = w.os
  tape : w'.tape = w.tape
  output : w'.output = w.output
  size : w'.heap.size = w.heap.size
  block : ∀ k, k ≠ b → w'.heap[k]? = w.heap[k]?
  frozen : ∀ o, w'.frozen? ⟨b, o, none⟩ = w.frozen? ⟨b, o, none⟩
  ty : ∀ (cur : Array Value) (T : TypeId) (fr : Nat × Nat), w.heap[b]? = some (.cells cur T fr) → ∃ cur', w'.heap[b]? = some (.cells cur' T fr)

theorem ty_setCell {w : World} {b o : Nat} (v : Value) {cur : Array Value} {T : TypeId} {fr : Nat × Nat} (h : w.heap[b]? = some (.cells cur T fr)) : ∃ cur', (w.setCell ⟨b, o, none⟩ v).heap[b]? = some (.cells cur' T fr) := by
  obtain ⟨hlt, hk⟩ := Array.getElem?_eq_some_iff.1 h
  refine ⟨cur.setIfInBounds o v, ?_⟩
  show (w.heap.modify b _)[b]? = some _
  rw [Array.getElem?_eq_getElem (by rw [Array.size_modify]; exact hlt), Array.getElem_modify_self, hk]
  rfl

theorem belowN {B : Nat} {a w : World} (h : Below B a w) (k : Nat) : Below B a (w.drewN k) := h.trans (Go.Joins.below_draws _ _ _)

theorem Only.refl (b : Nat) (w : World) : Only b w w := ⟨rfl, rfl, rfl, rfl, fun _ _ => rfl, fun _ => rfl, fun cur _ _ h => ⟨cur, h⟩⟩

theorem Only.trans {b : Nat} {u v w : World} (h : Only b u v) (k : Only b v w) : Only b u w :=
  ⟨k.os.trans h.os, k.tape.trans h.tape, k.output.trans h.output, k.size.trans h.size, fun i hi => (k.block i hi).trans (h.block i hi), fun o => (k.frozen o).trans (h.frozen o), fun cur T fr hc => by obtain ⟨c1, h1⟩ := h.ty cur T fr hc; exact k.ty c1 T fr h1⟩

theorem Only.drew {b : Nat} {u w : World} (h : Only b u w) : Only b u w.drew := ⟨h.os, h.tape, h.output, h.size, h.block, h.frozen, h.ty⟩

theorem Only.setCell {b o : Nat} {u w : World} (h : Only b u w) (v : Value) : Only b u (w.setCell ⟨b, o, none⟩ v) :=
  h.trans ⟨rfl, rfl, rfl, by simp [World.setCell], fun k hk => Below.heap_setCell _ _ _ _ hk, fun p => World.frozen?_setCell _ _ _ _, fun _ _ _ hc => ty_setCell v hc⟩

theorem Only.below {B b : Nat} {a w w' : World} (h : Below B a w) (k : Only b w w') (hb : B ≤ b) : Below B a w' :=
  h.trans ⟨k.os, k.tape, k.output, Nat.le_of_eq k.size.symm, fun i hi => k.block i (by omega)⟩

theorem Only.cell {b : Nat} {w w' : World} (h : Only b w w') {p : Addr} (hp : p.block ≠ b) : w'.cell? p = w.cell? p := World.cell?_of_block (w := w) (h.block p.block hp)

theorem Only.froz {b : Nat} {w w' : World} (h : Only b w w') {p : Addr} (hp : p.block ≠ b) : w'.frozen? p = w.frozen? p := World.frozen?_of_block (w := w) (h.block p.block hp)

/-- .. and in block b the cells o to o + n - 1 alone. -/
structure OnlyR (b o n : Nat) (w w' : World) : Prop extends Only b w w' where
  rest : ∀ i, i < o ∨ o + n ≤ i → w'.cell? ⟨b, i, none⟩ = w.cell? ⟨b, i, none⟩

theorem OnlyR.refl (b o n : Nat) (w : World) : OnlyR b o n w w := ⟨Only.refl _ _, fun _ _ => rfl⟩

theorem OnlyR.drewN {b o n : Nat} {u w : World} (h : OnlyR b o n u w) (m : Nat) : OnlyR b o n u (w.drewN m) :=
  ⟨h.toOnly.trans ⟨rfl, rfl, rfl, rfl, fun _ _ => rfl, fun _ => rfl, fun cur _ _ h => ⟨cur, h⟩⟩, fun i hi => by rw [← h.rest i hi]; simp⟩

theorem OnlyR.setCell {b o n k : Nat} {u w : World} (h : OnlyR b o n u w) (hk : k < n) (v : Value) : OnlyR b o n u (w.setCell ⟨b, o + k, none⟩ v) :=
  ⟨h.toOnly.setCell v, fun i hi => by
    rw [World.cell?_setCell_other _ _ _ _ (by intro q; have := congrArg Addr.off q; simp at this; omega)]
    exact h.rest i hi⟩

/-- the cells o to o + n - 1 of block b hold the digits of V, and may be written -/
def Dig (w : World) (b o n V : Nat) : Prop := ∀ i, i < n → w.cell? ⟨b, o + i, none⟩ = some (.int .u64 (dg V i : Int)) ∧ w.frozen? ⟨b, o + i, none⟩ = false

end Go.Proofs.YtbfknapmhkpgcaaGreatDoor
