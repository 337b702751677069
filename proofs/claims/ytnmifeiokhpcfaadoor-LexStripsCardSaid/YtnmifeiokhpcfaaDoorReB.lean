/-
  Several texts in one (FixN, Fix1, Fix2, Fix3, Fix4, Fix5, Div64, Div64b).
-/
import Derived.Test.YtnmifeiokhpcfaaDoorReA
import Derived.Lib.ItoaNum
import Derived.Lib.SmallJoins
import Derived.Test.YtnmifeiokhpcfaaDoorShelf
import Derived.LoopTactic
import Derived.Laws.Externs
import Derived.WalkKit
import Derived.BigQuiet
import Derived.Deep.QuietTactic
import Derived.StillTailTactics

namespace Go.Proofs.YtnmifeiokhpcfaaDoor.re
open Go.RowKit
set_option linter.unusedVariables false

abbrev BB : Nat := 18446744073709551616

/-- the digit i of V to the base 2^64 -/
def dg (V i : Nat) : Nat := V / BB ^ i % BB

theorem dg_lt (V i : Nat) : dg V i < 18446744073709551616 := Nat.mod_lt _ (by decide)

theorem bbpos (k : Nat) : 0 < BB ^ k := Nat.pow_pos (by decide)

theorem mod_succ (V k : Nat) : V % BB ^ (k + 1) = V % BB ^ k + BB ^ k * dg V k := by
  rw [Nat.pow_succ, Nat.mod_mul]
  rfl

theorem mul_step (V f p k : Nat) : (V % BB ^ (k + 1) * f + p) / BB ^ (k + 1) = (dg V k * f + (V % BB ^ k * f + p) / BB ^ k) / BB := by
  rw [mod_succ, Nat.pow_succ, ← Nat.div_div_eq_div_mul]
  congr 1
  have : (V % BB ^ k + BB ^ k * dg V k) * f + p = (V % BB ^ k * f + p) + BB ^ k * (dg V k * f) := by
    rw [Nat.add_mul, Nat.mul_assoc]
    omega
  rw [this, Nat.add_mul_div_left _ _ (bbpos k)]
  omega

theorem mul_digit (V f p k : Nat) : dg (V * f + p) k = (dg V k * f + (V % BB ^ k * f + p) / BB ^ k) % BB := by
  have h : V * f + p = (V % BB ^ k * f + p) + BB ^ k * (V / BB ^ k * f) := by
    have := Nat.mod_add_div V (BB ^ k)
    calc V * f + p = (V % BB ^ k + BB ^ k * (V / BB ^ k)) * f + p := by rw [this]
      _ = _ := by
        rw [Nat.add_mul, Nat.mul_assoc]
        omega
  unfold dg
  rw [h, Nat.add_mul_div_left _ _ (bbpos k), Nat.add_comm]
  have e : V / BB ^ k = BB * (V / BB ^ k / BB) + V / BB ^ k % BB := (Nat.div_add_mod _ _).symm
  generalize V / BB ^ k / BB = q at e
  generalize V / BB ^ k % BB = d at *
  rw [e, Nat.add_mul, Nat.mul_assoc, Nat.add_assoc, Nat.mul_add_mod]

theorem carry_lt (V f p k : Nat) (hf : f < BB) (hp : p < BB) : (V % BB ^ k * f + p) / BB ^ k < BB := by
  rw [Nat.div_lt_iff_lt_mul (bbpos k)]
  have h1 : V % BB ^ k + 1 ≤ BB ^ k := Nat.mod_lt _ (bbpos k)
  have h2 : V % BB ^ k * f + p < (V % BB ^ k + 1) * BB := by
    rw [Nat.add_mul, Nat.one_mul]
    have : V % BB ^ k * f ≤ V % BB ^ k * BB := Nat.mul_le_mul_left _ (by omega)
    omega
  calc _ < (V % BB ^ k + 1) * BB := h2
    _ ≤ BB ^ k * BB := Nat.mul_le_mul_right _ h1
    _ = BB * BB ^ k := Nat.mul_comm _ _

/-- high and low of a product, and a sum: what stays and what goes on -/
theorem hl_sum (a f c : Nat) (ha : a < BB) (hf : f < BB) (hc : c < BB) : (a * f % BB + c) % BB = (a * f + c) % BB ∧ a * f / BB + (a * f % BB + c) / BB = (a * f + c) / BB ∧ (a * f + c) / BB < BB := by
  refine ⟨by rw [Nat.mod_add_mod], ?_, ?_⟩
  · generalize a * f = x
    simp only [BB]
    omega
  · rw [Nat.div_lt_iff_lt_mul (by decide)]
    have h1 : a * f ≤ (BB - 1) * (BB - 1) := Nat.mul_le_mul (by omega) (by omega)
    have h2 : (BB - 1) * (BB - 1) + BB ≤ BB * BB := by decide
    omega

/-- Block b alone was written: the other blocks, and the sizes, are as they were. -/
structure Only (b : Nat) (w w' : World) : Prop where
  os : w'.os = w.os
  tape : w'.tape = w.tape
  output : w'.output = w.output
  size : w'.heap.size = w.heap.size
  block : ∀ k, k ≠ b → w'.heap[k]? = w.heap[k]?
  frozen : ∀ o, w'.frozen? ⟨b, o, none⟩ = w.frozen? ⟨b, o, none⟩

theorem belowN {B : Nat} {a w : World} (h : Below B a w) (k : Nat) : Below B a (w.drewN k) := h.trans (Go.Joins.below_draws _ _ _)

theorem Only.refl (b : Nat) (w : World) : Only b w w := ⟨rfl, rfl, rfl, rfl, fun _ _ => rfl, fun _ => rfl⟩

theorem Only.trans {b : Nat} {u v w : World} (h : Only b u v) (k : Only b v w) : Only b u w :=
  ⟨k.os.trans h.os, k.tape.trans h.tape, k.output.trans h.output, k.size.trans h.size, fun i hi => (k.block i hi).trans (h.block i hi), fun o => (k.frozen o).trans (h.frozen o)⟩

theorem Only.drew {b : Nat} {u w : World} (h : Only b u w) : Only b u w.drew := ⟨h.os, h.tape, h.output, h.size, h.block, h.frozen⟩

theorem Only.setCell {b o : Nat} {u w : World} (h : Only b u w) (v : Value) : Only b u (w.setCell ⟨b, o, none⟩ v) :=
  h.trans ⟨rfl, rfl, rfl, by simp [World.setCell], fun k hk => Below.heap_setCell _ _ _ _ hk, fun p => World.frozen?_setCell _ _ _ _⟩

theorem Only.below {B b : Nat} {a w w' : World} (h : Below B a w) (k : Only b w w') (hb : B ≤ b) : Below B a w' :=
  h.trans ⟨k.os, k.tape, k.output, Nat.le_of_eq k.size.symm, fun i hi => k.block i (by omega)⟩

theorem Only.cell {b : Nat} {w w' : World} (h : Only b w w') {p : Addr} (hp : p.block ≠ b) : w'.cell? p = w.cell? p := World.cell?_of_block (w := w) (h.block p.block hp)

theorem Only.froz {b : Nat} {w w' : World} (h : Only b w w') {p : Addr} (hp : p.block ≠ b) : w'.frozen? p = w.frozen? p := World.frozen?_of_block (w := w) (h.block p.block hp)

/-- .. and in block b the cells o to o + n - 1 alone. -/
structure OnlyR (b o n : Nat) (w w' : World) : Prop extends Only b w w' where
  rest : ∀ i, i < o ∨ o + n ≤ i → w'.cell? ⟨b, i, none⟩ = w.cell? ⟨b, i, none⟩

theorem OnlyR.refl (b o n : Nat) (w : World) : OnlyR b o n w w := ⟨Only.refl _ _, fun _ _ => rfl⟩

theorem OnlyR.drewN {b o n : Nat} {u w : World} (h : OnlyR b o n u w) (m : Nat) : OnlyR b o n u (w.drewN m) :=
  ⟨h.toOnly.trans ⟨rfl, rfl, rfl, rfl, fun _ _ => rfl, fun _ => rfl⟩, fun i hi => by rw [← h.rest i hi]; simp⟩

theorem OnlyR.setCell {b o n k : Nat} {u w : World} (h : OnlyR b o n u w) (hk : k < n) (v : Value) : OnlyR b o n u (w.setCell ⟨b, o + k, none⟩ v) :=
  ⟨h.toOnly.setCell v, fun i hi => by
    rw [World.cell?_setCell_other _ _ _ _ (by intro q; have := congrArg Addr.off q; simp at this; omega)]
    exact h.rest i hi⟩

/-- the cells o to o + n - 1 of block b hold the digits of V, and may be written -/
def Dig (w : World) (b o n V : Nat) : Prop := ∀ i, i < n → w.cell? ⟨b, o + i, none⟩ = some (.int .u64 (dg V i : Int)) ∧ w.frozen? ⟨b, o + i, none⟩ = false

end Go.Proofs.YtnmifeiokhpcfaaDoor.re

namespace Go.Proofs.YtnmifeiokhpcfaaDoor.re
open Go.RowKit
set_option linter.unusedVariables false

theorem run_add (x y : Nat) (w : World) :
    Sem.run Tryd.prog (callFunc 85 #[.int .u64 x, .int .u64 y, .int .u64 0]) w = .ok (.value (.tuple #[.int .u64 (((x + y) % BB : Nat) : Int), .int .u64 (((x + y) / BB : Nat) : Int)])) w := by
  rw [run_callFunc_extern Tryd.func85 (by kernel_rfl) (by kernel_rfl) (by kernel_rfl) (e := add64Entry) (by kernel_rfl), run_add64 (P := Tryd.prog) (x : Int) (y : Int) (0 : Int) (by omega) (by omega) (by omega) (by omega)]
  simp only [Result.andThen, Int.add_zero]
  congr 5

theorem run_mul (x y : Nat) (hx : x < BB) (hy : y < BB) (w : World) :
    Calls Tryd.prog 84 #[.int .u64 x, .int .u64 y] w fun r w' => r = .returned (.tuple #[.int .u64 ((x * y / BB : Nat) : Int), .int .u64 ((x * y % BB : Nat) : Int)]) ∧ w' = w := Tryd.bits_Mul64 x y hx hy w

def MSt (b o n V Q k : Nat) (w : World) : Prop := ∀ i, i < n → w.cell? ⟨b, o + i, none⟩ = some (.int .u64 (dg (if i < k then Q else V) i : Int)) ∧ w.frozen? ⟨b, o + i, none⟩ = false

theorem MSt.step {b o n V Q k : Nat} {w : World} (h : MSt b o n V Q k w) (hk : k < n) {t : Int} (ht : t = (dg Q k : Int)) : MSt b o n V Q (k + 1) (w.setCell ⟨b, o + k, none⟩ (.int .u64 t)) := by
  intro i hi
  obtain ⟨h1, h2⟩ := h i hi
  refine ⟨?_, by rw [World.frozen?_setCell]; exact h2⟩
  by_cases e : i = k
  · subst e
    rw [World.cell?_setCell_same _ _ _ h1, if_pos (by omega), ht]
  · rw [World.cell?_setCell_other _ _ _ _ (by intro q; have := congrArg Addr.off q; simp at this; omega), h1]
    by_cases hlt : i < k
    · rw [if_pos hlt, if_pos (by omega)]
    · rw [if_neg hlt, if_neg (by omega)]

set_option maxRecDepth 100000 in
set_option maxHeartbeats 1600000 in
theorem mul_any (b o n cap V f p : Nat) (w : World) (hn : n ≤ 7) (hf : f < BB) (hp : p < BB) (hD : Dig w b o n V) :
    Calls Tryd.prog 74 #[.slice (some ⟨b, o, none⟩) n cap, .int .u64 f, .int .u64 p] w fun r w' => r = .returned (.int .u64 (((V % BB ^ n * f + p) / BB ^ n : Nat) : Int)) ∧ OnlyR b o n w w' ∧ Dig w' b o n (V * f + p) := by
  obtain ⟨Q, hQ⟩ : ∃ Q, Q = V * f + p := ⟨_, rfl⟩
  have HQ := Lib.hid hQ
  rw [← hQ]
  clear hQ
  have H0 : Hid (MSt b o n V Q 0 w) := Lib.hid (fun i hi => by rw [if_neg (by omega)]; exact hD i hi)
  clear hD
  have hn3 : (n : Int) ≤ 7 := by omega
  go_enter Tryd.func74, Tryd.ntmps74
  go_wp2_with fail
  go_loopw [2, 14] (fun pl i wr => ∃ k c : Nat, k ≤ n ∧ i = .int .i64 k ∧ pl = .int .u64 c ∧ c = (V % BB ^ k * f + p) / BB ^ k ∧ OnlyR b o n w wr ∧ MSt b o n V Q k wr) (fun _ i _ => n - (intOf i).toNat)
  case atStart => exact ⟨0, p, Nat.zero_le _, rfl, rfl, by simp [Nat.mod_one], OnlyR.refl _ _ _ _, H0.out⟩
  case round =>
    obtain ⟨k, c, hk, rfl, rfl, hc, ho, hm⟩ := hrel
    have HO := Lib.hid ho
    have HM := Lib.hid hm
    have HC := Lib.hid hc
    clear ho hm hc
    by_cases hlt : k < n
    · obtain ⟨hcell, hfr⟩ := HM.out k hlt
      rw [if_neg (by omega)] at hcell
      have hcb : c < BB := by rw [HC.out]; exact carry_lt V f p k hf hp
      obtain ⟨s1, s2, s3⟩ := hl_sum (dg V k) f c (dg_lt V k) hf hcb
      have HQD : Hid (((dg V k * f % BB + c) % BB : Nat) = dg Q k) := Lib.hid (by rw [s1, HQ.out, mul_digit, HC.out])
      have HCS : Hid (dg V k * f / BB + (dg V k * f % BB + c) / BB = (V % BB ^ (k + 1) * f + p) / BB ^ (k + 1)) := Lib.hid (by rw [s2, mul_step, HC.out])
      have HMU := Lib.hid (fun w => run_mul (dg V k) f (dg_lt V k) hf w)
      have hA := fun w => run_add (dg V k * f % BB) c w
      rw [← s2] at s3
      generalize dg V k * f % BB = L at *
      generalize dg V k * f / BB = H at *
      generalize (L + c) % BB = T at *
      generalize (L + c) / BB = K at *
      generalize dg V k = a at *
      have hW : IntKind.u64.wrap ((H : Int) + (K : Int)) = ((H + K : Nat) : Int) := by
        rw [IntKind.wrap_u64]
        simp only [BB] at s3
        omega
      clear s1 s2 hcb
      have hlt2 : (k : Int) < (n : Int) := by omega
      go_wp2_with fail
      refine (HMU.out _).mono ?_
      rintro r w1 ⟨rfl, rfl⟩
      go_wp2_with fail
      exact ⟨⟨k + 1, H + K, by omega, by simp, by simp, HCS.out, HO.out.setCell hlt _, HM.out.step hlt (by rw [HQD.out])⟩, by simp [intOf]; omega⟩
    · obtain rfl : k = n := by omega
      go_wp2_with fail
      go_ret
      exact ⟨congrArg (fun x : Nat => Ending.returned (Value.int IntKind.u64 (x : Int))) HC.out, HO.out, fun i hi => by have := HM.out i hi; rwa [if_pos hi] at this⟩

end Go.Proofs.YtnmifeiokhpcfaaDoor.re

namespace Go.Proofs.YtnmifeiokhpcfaaDoor.re
open Go.RowKit
set_option linter.unusedVariables false

/-- how many bits V % BB ^ k has -/
def blR (V : Nat) : Nat → Nat
  | 0 => 0
  | k + 1 => if dg V k = 0 then blR V k else 64 * k + Lib.bitLen (dg V k)

theorem dg_top {V k : Nat} (h : V < BB ^ (k + 1)) : dg V k = V / BB ^ k := by
  unfold dg
  apply Nat.mod_eq_of_lt
  rw [Nat.div_lt_iff_lt_mul (bbpos k)]
  rw [Nat.pow_succ, Nat.mul_comm] at h
  exact h

theorem bb_pow (k : Nat) : BB ^ k = 2 ^ (64 * k) := by
  rw [Nat.pow_mul]

theorem blR_bd : ∀ (n V : Nat), V < BB ^ n → (V = 0 → blR V n = 0) ∧ (V ≠ 0 → 1 ≤ blR V n ∧ blR V n ≤ 64 * n ∧ 2 ^ (blR V n - 1) ≤ V ∧ V < 2 ^ blR V n)
  | 0, V, h => by
    have : V = 0 := by simpa using h
    exact ⟨fun _ => rfl, fun h => absurd this h⟩
  | k + 1, V, h => by
    have ht := dg_top h
    by_cases hz : dg V k = 0
    · have e : blR V (k + 1) = blR V k := by rw [blR, if_pos hz]
      have hlt : V < BB ^ k := by
        rw [ht] at hz
        exact (Nat.div_eq_zero_iff_lt (bbpos k)).1 hz
      rw [e]
      obtain ⟨h1, h2⟩ := blR_bd k V hlt
      exact ⟨h1, fun h => by have := h2 h; exact ⟨this.1, by omega, this.2.2⟩⟩
    · have e : blR V (k + 1) = 64 * k + Lib.bitLen (dg V k) := by rw [blR, if_neg hz]
      have hb := Lib.bitLenAux_bounds 64 (dg V k) (dg_lt V k) hz
      have hL := Lib.bitLen_le (dg V k) 64 (by omega) (dg_lt V k)
      change 1 ≤ Lib.bitLen (dg V k) ∧ 2 ^ (Lib.bitLen (dg V k) - 1) ≤ dg V k ∧ dg V k < 2 ^ Lib.bitLen (dg V k) at hb
      rw [e]
      generalize Lib.bitLen (dg V k) = L at *
      obtain ⟨b1, b2, b3⟩ := hb
      rw [ht] at b2 b3 hz
      have hV : V ≠ 0 := fun q => hz (by rw [q, Nat.zero_div])
      refine ⟨fun q => absurd q hV, fun _ => ⟨by omega, by omega, ?_, ?_⟩⟩
      · have e2 : 64 * k + L - 1 = 64 * k + (L - 1) := by omega
        rw [e2, Nat.pow_add, ← bb_pow]
        have := Nat.mul_le_mul_left (BB ^ k) b2
        exact Nat.le_trans this (Nat.mul_div_le _ _)
      · rw [Nat.pow_add, ← bb_pow, Nat.mul_comm]
        exact (Nat.div_lt_iff_lt_mul (bbpos k)).1 b3

theorem blR_le (n V : Nat) : blR V n ≤ 64 * n := by
  induction n with
  | zero => simp [blR]
  | succ k ih =>
    unfold blR
    split
    · omega
    · have hL := Lib.bitLen_le (dg V k) 64 (by omega) (dg_lt V k)
      omega

set_option maxRecDepth 100000 in
set_option maxHeartbeats 1600000 in
theorem bl_any (b o n cap V : Nat) (w : World) (hn : n ≤ 7) (hD : Dig w b o n V) :
    Calls Tryd.prog 93 #[.slice (some ⟨b, o, none⟩) n cap] w fun r w' => r = .returned (.int .i64 (blR V n : Int)) ∧ w' = w := by
  have HD := Lib.hid hD
  clear hD
  have hn3 : (n : Int) ≤ 7 := by omega
  go_enter Tryd.func93, Tryd.ntmps93
  go_wp2_with fail
  go_loopw [3] (fun i wr => ∃ (k : Nat) (x : Int), k ≤ n ∧ i = .int .i64 x ∧ x = (k : Int) - 1 ∧ blR V n = blR V k ∧ wr = w) (fun i _ => (intOf i + 1).toNat)
  case atStart => exact ⟨n, _, Nat.le_refl _, rfl, rfl, rfl, rfl⟩
  case round =>
    obtain ⟨k, x, hk, rfl, hx, hb, rfl⟩ := hrel
    have HB := Lib.hid hb
    clear hb
    rcases k with _ | j
    · obtain rfl : x = -1 := by omega
      clear hx
      go_wp2_with fail
      go_ret
      exact ⟨congrArg (fun x : Nat => Ending.returned (Value.int IntKind.i64 (x : Int))) (show 0 = blR V n from by rw [HB.out]; rfl), rfl⟩
    · obtain rfl : x = (j : Int) := by omega
      clear hx
      have hjn : j < n := by omega
      obtain ⟨hcell, hfr⟩ := HD.out j hjn
      have hj2 : (j : Int) < (n : Int) := by omega
      have HL := Lib.hid (Lib.bitLen_le (dg V j) 64 (by omega) (dg_lt V j))
      by_cases hz : dg V j = 0
      · rw [hz] at hcell
        have HB2 : Hid (blR V n = blR V j) := Lib.hid (by rw [HB.out, blR, if_pos hz])
        clear hz
        go_wp2_with fail
        exact ⟨⟨j, _, by omega, rfl, rfl, HB2.out, by first | trivial | rfl⟩, by simp [intOf]⟩
      · have HB2 : Hid (blR V n = 64 * j + Lib.bitLen (dg V j)) := Lib.hid (by rw [HB.out, blR, if_neg hz])
        have hz2 : ¬ ((dg V j : Nat) : Int) = 0 := by omega
        have hz3 : (((dg V j : Nat) : Int) != 0) = true := by simpa using hz
        have HBL := Lib.hid (fun w => Tryd.bits_Len64 (dg V j : Int) w (by omega) (by have := dg_lt V j; omega))
        have hL2 := HL.out
        simp only [Int.toNat_natCast] at HBL
        generalize Lib.bitLen (dg V j) = L at *
        generalize dg V j = a at *
        go_wp2_with fail
        refine (HBL.out _).mono ?_
        rintro r w1 ⟨rfl, rfl⟩
        go_wp2_with fail
        go_ret
        exact ⟨congrArg (fun x : Int => Ending.returned (Value.int IntKind.i64 x)) (show (64 * (j : Int) + (L : Int)) = (blR V n : Int) from by rw [HB2.out]; simp), rfl⟩

theorem dg_mod (V n : Nat) : ∀ i, i < n → dg (V % BB ^ n) i = dg V i := by
  intro i hi
  obtain ⟨d, rfl⟩ : ∃ d, n = i + 1 + d := ⟨n - i - 1, by omega⟩
  unfold dg
  rw [Nat.pow_add, Nat.mod_mul, Nat.pow_succ, Nat.mod_mul]
  have h1 : (V % BB ^ i + BB ^ i * (V / BB ^ i % BB) + BB ^ i * BB * (V / (BB ^ i * BB) % BB ^ d)) / BB ^ i = V / BB ^ i % BB + BB * (V / (BB ^ i * BB) % BB ^ d) := by
    rw [Nat.mul_assoc, Nat.add_assoc, ← Nat.mul_add, Nat.add_mul_div_left _ _ (bbpos i), Nat.div_eq_of_lt (Nat.mod_lt _ (bbpos i)), Nat.zero_add]
  rw [h1, Nat.add_mul_mod_self_left, Nat.mod_mod]

theorem blR_mod (V n : Nat) : ∀ k, k ≤ n → blR (V % BB ^ n) k = blR V k
  | 0, _ => rfl
  | k + 1, h => by
    unfold blR
    rw [dg_mod V n k (by omega), blR_mod V n k (by omega)]

theorem blR_zero (V n : Nat) : (0 < blR V n) ↔ V % BB ^ n ≠ 0 := by
  have h := blR_bd n (V % BB ^ n) (Nat.mod_lt _ (bbpos n))
  rw [blR_mod V n n (Nat.le_refl _)] at h
  constructor
  · intro k q
    have := h.1 q
    omega
  · intro q
    have := h.2 q
    omega

set_option maxRecDepth 100000 in
set_option maxHeartbeats 1600000 in
theorem any_any (b o n cap V : Nat) (w : World) (hn : n ≤ 7) (hD : Dig w b o n V) :
    Calls Tryd.prog 94 #[.slice (some ⟨b, o, none⟩) n cap] w fun r w' => r = .returned (.bool (decide (V % BB ^ n ≠ 0))) ∧ w' = w := by
  have HB := Lib.hid (fun w hD => bl_any b o n cap V w hn hD)
  have HD := Lib.hid hD
  have HZ := Lib.hid (show decide (V % BB ^ n ≠ 0) = decide (0 < blR V n) from by rw [decide_eq_decide, ← blR_zero])
  clear hD
  generalize blR V n = t at *
  go_enter Tryd.func94, Tryd.ntmps94
  go_wp2_with fail
  refine (HB.out _ HD.out).mono ?_
  rintro r w1 ⟨rfl, rfl⟩
  go_wp2_with fail
  go_ret
  exact ⟨congrArg (fun x : Bool => Ending.returned (Value.bool x)) HZ.out.symm, rfl⟩

end Go.Proofs.YtnmifeiokhpcfaaDoor.re

namespace Go.Proofs.YtnmifeiokhpcfaaDoor.re
open Go.RowKit
set_option linter.unusedVariables false

theorem div_hi (V d k : Nat) (hd : 0 < d) : V / BB ^ (k + 1) % d * BB + dg V k < d * BB ∧ (V / BB ^ (k + 1) % d * BB + dg V k) / d = dg (V / d) k ∧ (V / BB ^ (k + 1) % d * BB + dg V k) % d = V / BB ^ k % d := by
  have e : V / BB ^ k = V / BB ^ (k + 1) * BB + dg V k := by
    unfold dg
    rw [Nat.pow_succ, ← Nat.div_div_eq_div_mul]
    exact (Nat.div_add_mod' _ _).symm
  have hq : (V / d) / BB ^ k = (V / BB ^ k) / d := by rw [Nat.div_div_eq_div_mul, Nat.div_div_eq_div_mul, Nat.mul_comm]
  have hdg : dg (V / d) k = (V / BB ^ k) / d % BB := by unfold dg; rw [hq]
  rw [hdg, e]
  have hl := dg_lt V k
  generalize dg V k = lo at *
  generalize V / BB ^ (k + 1) = U at *
  clear e hq hdg
  have hU : U = d * (U / d) + U % d := (Nat.div_add_mod U d).symm
  have hh : U % d < d := Nat.mod_lt _ hd
  generalize U / d = q at hU
  generalize U % d = h at *
  subst hU
  have e2 : (d * q + h) * BB + lo = (h * BB + lo) + d * (q * BB) := by
    rw [Nat.add_mul, Nat.mul_assoc]
    omega
  have hb : h * BB + lo < d * BB := by
    have : (h + 1) * BB ≤ d * BB := Nat.mul_le_mul_right _ hh
    rw [Nat.add_mul, Nat.one_mul] at this
    simp only [BB] at *
    omega
  refine ⟨hb, ?_, ?_⟩
  · rw [e2, Nat.add_mul_div_left _ _ hd, Nat.add_mul_mod_self_right]
    exact (Nat.mod_eq_of_lt ((Nat.div_lt_iff_lt_mul hd).2 (by rw [Nat.mul_comm BB d]; exact hb))).symm
  · rw [e2, Nat.add_mul_mod_self_left]

def DSt (b o n V Q k : Nat) (w : World) : Prop := ∀ i, i < n → w.cell? ⟨b, o + i, none⟩ = some (.int .u64 (dg (if i < k then V else Q) i : Int)) ∧ w.frozen? ⟨b, o + i, none⟩ = false

theorem DSt.drewN {b o n V Q k : Nat} {w : World} (h : DSt b o n V Q k w) (m : Nat) : DSt b o n V Q k (w.drewN m) := fun i hi => by simpa using h i hi

theorem DSt.step {b o n V Q k : Nat} {w : World} (h : DSt b o n V Q (k + 1) w) (hk : k < n) {t : Int} (ht : t = (dg Q k : Int)) : DSt b o n V Q k (w.setCell ⟨b, o + k, none⟩ (.int .u64 t)) := by
  intro i hi
  obtain ⟨h1, h2⟩ := h i hi
  refine ⟨?_, by rw [World.frozen?_setCell]; exact h2⟩
  by_cases e : i = k
  · subst e
    rw [World.cell?_setCell_same _ _ _ h1, if_neg (by omega), ht]
  · rw [World.cell?_setCell_other _ _ _ _ (by intro q; have := congrArg Addr.off q; simp at this; omega), h1]
    by_cases hlt : i < k
    · rw [if_pos hlt, if_pos (by omega)]
    · rw [if_neg hlt, if_neg (by omega)]

abbrev DivOk (d : Nat) : Prop := ∀ (hi lo : Nat) (w : World), hi < d → lo < BB → Calls Tryd.prog 92 #[.int .u64 hi, .int .u64 lo, .int .u64 d] w fun r w' => r = .returned (.tuple #[.int .u64 (((hi * BB + lo) / d : Nat) : Int), .int .u64 (((hi * BB + lo) % d : Nat) : Int)]) ∧ ∃ n, w' = w.drewN n

set_option maxRecDepth 100000 in
set_option maxHeartbeats 1600000 in
theorem div_any (b o n cap V d : Nat) (w : World) (hn : n ≤ 7) (hV : V < BB ^ n) (h0 : 0 < d) (hd : d < BB) (hD : Dig w b o n V) (HDiv : Hid (DivOk d)) :
    Calls Tryd.prog 86 #[.slice (some ⟨b, o, none⟩) n cap, .int .u64 d] w fun r w' => r = .returned (.int .u64 ((V % d : Nat) : Int)) ∧ OnlyR b o n w w' ∧ Dig w' b o n (V / d) := by
  obtain ⟨Q, hQ⟩ : ∃ Q, Q = V / d := ⟨_, rfl⟩
  have HQ := Lib.hid hQ
  rw [← hQ]
  clear hQ
  have H0 : Hid (DSt b o n V Q n w) := Lib.hid (fun i hi => by rw [if_pos hi]; exact hD i hi)
  have HV : Hid (0 = V / BB ^ n % d) := Lib.hid (by rw [Nat.div_eq_of_lt hV, Nat.zero_mod])
  clear hD hV
  have hn3 : (n : Int) ≤ 7 := by omega
  go_enter Tryd.func86, Tryd.ntmps86
  go_wp2_with fail
  go_loopw [5, 6] (fun rs i wr => ∃ (k c : Nat) (x : Int), k ≤ n ∧ i = .int .i64 x ∧ x = (k : Int) - 1 ∧ rs = .int .u64 c ∧ c = V / BB ^ k % d ∧ OnlyR b o n w wr ∧ DSt b o n V Q k wr) (fun _ i _ => (intOf i + 1).toNat)
  case atStart => exact ⟨n, 0, _, Nat.le_refl _, rfl, rfl, rfl, HV.out, OnlyR.refl _ _ _ _, H0.out⟩
  case round =>
    obtain ⟨k, c, x, hk, rfl, hx, rfl, hc, ho, hm⟩ := hrel
    have HO := Lib.hid ho
    have HM := Lib.hid hm
    have HC := Lib.hid hc
    clear ho hm hc
    rcases k with _ | j
    · obtain rfl : x = -1 := by omega
      clear hx
      go_wp2_with fail
      go_ret
      exact ⟨congrArg (fun x : Nat => Ending.returned (Value.int IntKind.u64 (x : Int))) (show c = V % d from by rw [HC.out]; simp), HO.out, fun i hi => by have := HM.out i hi; rwa [if_neg (by omega)] at this⟩
    · obtain rfl : x = (j : Int) := by omega
      clear hx
      have hjn : j < n := by omega
      obtain ⟨hcell, hfr⟩ := HM.out j hjn
      rw [if_pos (by omega)] at hcell
      have hj2 : (j : Int) < (n : Int) := by omega
      have hcd : c < d := by rw [HC.out]; exact Nat.mod_lt _ h0
      obtain ⟨s1, s2, s3⟩ := div_hi V d j h0
      rw [← HC.out] at s1 s2 s3
      have HDC := Lib.hid (fun w => HDiv.out c (dg V j) w hcd (dg_lt V j))
      have HQD : Hid ((c * BB + dg V j) / d = dg Q j) := Lib.hid (by rw [s2, HQ.out])
      have HRD : Hid ((c * BB + dg V j) % d = V / BB ^ j % d) := Lib.hid s3
      clear s1 s2 s3
      generalize (c * BB + dg V j) / d = q at *
      generalize (c * BB + dg V j) % d = r at *
      generalize dg V j = a at *
      go_wp2_with fail
      refine (HDC.out _).mono ?_
      rintro rr w1 ⟨rfl, nd, rfl⟩
      have HON := Lib.hid (HO.out.drewN nd)
      have HMN := Lib.hid (HM.out.drewN nd)
      go_wp2_with fail
      exact ⟨⟨j, r, _, by omega, rfl, rfl, rfl, HRD.out, HON.out.setCell hjn _, HMN.out.step hjn (by rw [HQD.out])⟩, by simp [intOf]⟩

end Go.Proofs.YtnmifeiokhpcfaaDoor.re

namespace Go.Proofs.YtnmifeiokhpcfaaDoor.re
open Go.RowKit
set_option linter.unusedVariables false

theorem bb_split (s : Nat) (hs : s < 64) : BB = 2 ^ (64 - s) * 2 ^ s := by
  rw [← Nat.pow_add]
  have : 64 - s + s = 64 := by omega
  rw [this]

theorem shift_split (V Q s : Nat) : V / 2 ^ (64 * Q + s) = V / BB ^ Q / 2 ^ s := by
  rw [Nat.pow_add, ← bb_pow, Nat.div_div_eq_div_mul]

theorem lead_man (V Q s : Nat) (hs : s < 64) : (dg V Q / 2 ^ s) ||| (dg V (Q + 1) * 2 ^ (64 - s) % BB) = V / 2 ^ (64 * Q + s) % BB := by
  have e1 : dg V (Q + 1) = V / BB ^ Q / BB % BB := by unfold dg; rw [Nat.pow_succ, ← Nat.div_div_eq_div_mul]
  rw [shift_split, e1]
  unfold dg
  generalize V / BB ^ Q = U
  have hp := Nat.pow_pos (n := s) (a := 2) (by decide)
  have hq := Nat.pow_pos (n := 64 - s) (a := 2) (by decide)
  have hB := bb_split s hs
  have h1 : U / 2 ^ s = U / BB * 2 ^ (64 - s) + U % BB / 2 ^ s := by
    have hU := (Nat.div_add_mod U BB).symm
    generalize U / BB = q at *
    generalize U % BB = a at *
    rw [hU, hB, Nat.mul_comm (2 ^ (64 - s)) (2 ^ s), Nat.mul_assoc, Nat.mul_add_div hp, Nat.mul_comm]
  have h2 : ∀ x : Nat, x * 2 ^ (64 - s) % BB = x % 2 ^ s * 2 ^ (64 - s) := fun x => by
    rw [hB, Nat.mul_comm (2 ^ (64 - s)) (2 ^ s), Nat.mul_mod_mul_right]
  have h3 : U / BB % BB % 2 ^ s = U / BB % 2 ^ s := Nat.mod_mod_of_dvd _ ⟨2 ^ (64 - s), by rw [hB, Nat.mul_comm]⟩
  have h4 : U % BB / 2 ^ s < 2 ^ (64 - s) := by
    rw [Nat.div_lt_iff_lt_mul hp, ← hB]
    exact Nat.mod_lt _ (by decide)
  have h5 : U / BB % 2 ^ s < 2 ^ s := Nat.mod_lt _ hp
  rw [h1, h2, h3, Nat.add_mod, h2]
  generalize U % BB / 2 ^ s = b at *
  generalize U / BB % 2 ^ s = c at *
  have h6 : c * 2 ^ (64 - s) + b < BB := by
    have : (c + 1) * 2 ^ (64 - s) ≤ 2 ^ s * 2 ^ (64 - s) := Nat.mul_le_mul_right _ h5
    rw [Nat.mul_comm (2 ^ s), ← hB, Nat.add_mul, Nat.one_mul] at this
    omega
  rw [Nat.mod_eq_of_lt (show b < BB by omega), Nat.mod_eq_of_lt h6, Nat.mul_comm c, Nat.or_comm, Nat.two_pow_add_eq_or_of_lt h4]

theorem below_iff (V Q s : Nat) (hs : s < 64) : (dg V Q % 2 ^ s ≠ 0 ∨ V % BB ^ Q ≠ 0) ↔ V % 2 ^ (64 * Q + s) ≠ 0 := by
  rw [Nat.pow_add, ← bb_pow, Nat.mod_mul]
  have h3 : dg V Q % 2 ^ s = V / BB ^ Q % 2 ^ s := Nat.mod_mod_of_dvd _ ⟨2 ^ (64 - s), by rw [bb_split s hs, Nat.mul_comm]⟩
  rw [h3]
  have hb := bbpos Q
  generalize V / BB ^ Q % 2 ^ s = x
  generalize V % BB ^ Q = y
  constructor
  · intro h q
    rcases h with h | h
    · have : BB ^ Q * x = 0 := by omega
      rcases Nat.mul_eq_zero.1 this with k | k <;> omega
    · omega
  · intro h
    by_cases hx : x = 0
    · subst hx
      right
      simpa using h
    · exact Or.inl hx

theorem mask_eq (a s : Nat) (ha : a < BB) (hs : s < 64) : bits BinOp.and IntKind.u64 (a : Int) (IntKind.u64.wrap (IntKind.u64.wrap ((1 : Int) * 2 ^ s) - 1)) = ((a % 2 ^ s : Nat) : Int) := by
  have hp := Nat.pow_pos (n := s) (a := 2) (by decide)
  have hle := Nat.pow_le_pow_right (n := 2) (by decide) (show s ≤ 63 by omega)
  have e : IntKind.u64.wrap (IntKind.u64.wrap ((1 : Int) * 2 ^ s) - 1) = ((2 ^ s - 1 : Nat) : Int) := by
    have e0 : (1 : Int) * 2 ^ s = ((2 ^ s : Nat) : Int) := by push_cast; omega
    rw [e0, IntKind.wrap_u64, IntKind.wrap_u64]
    omega
  rw [e, bits_and_u64_nat _ _ (by simp only [BB] at ha; omega) (by omega), Nat.and_two_pow_sub_one_eq_mod]

abbrev digV (V : Nat) : Value := .agg #[.int .u64 (dg V 0), .int .u64 (dg V 1), .int .u64 (dg V 2), .int .u64 (dg V 3), .int .u64 (dg V 4), .int .u64 (dg V 5), .int .u64 (dg V 6)]

abbrev digC (V : Nat) : Array Value := #[.int .u64 (dg V 0), .int .u64 (dg V 1), .int .u64 (dg V 2), .int .u64 (dg V 3), .int .u64 (dg V 4), .int .u64 (dg V 5), .int .u64 (dg V 6)]

theorem Dig.of_alloc (w : World) (V : Nat) (T : TypeId) : Dig (w.alloc (.cells (digC V) T)) w.heap.size 0 7 V := by
  intro i hi
  have : i = 0 ∨ i = 1 ∨ i = 2 ∨ i = 3 ∨ i = 4 ∨ i = 5 ∨ i = 6 := by omega
  rcases this with rfl | rfl | rfl | rfl | rfl | rfl | rfl <;> exact ⟨by go_simp, by go_simp⟩

theorem Dig.kept {B b o n V : Nat} {w w' : World} (h : Dig w b o n V) (k : Below B w w') (hb : b < B) : Dig w' b o n V := fun i hi => by
  obtain ⟨h1, h2⟩ := h i hi
  exact ⟨by rw [k.cell (p := ⟨b, o + i, none⟩) hb]; exact h1, by rw [k.frozen (p := ⟨b, o + i, none⟩) hb]; exact h2⟩

theorem Dig.sub {b o n V m : Nat} {w : World} (h : Dig w b o n V) (k : m ≤ n) : Dig w b o m V := fun i hi => h i (by omega)

set_option maxRecDepth 100000 in
theorem or_eq (a y s : Nat) (ha : a < BB) : bits BinOp.or IntKind.u64 ((a : Int) / 2 ^ s) (IntKind.u64.wrap ((y : Int) * 2 ^ (64 - s))) = ((a / 2 ^ s ||| (y * 2 ^ (64 - s) % BB) : Nat) : Int) := by
  have e1 : (a : Int) / 2 ^ s = ((a / 2 ^ s : Nat) : Int) := by push_cast; rfl
  have e2 : IntKind.u64.wrap ((y : Int) * 2 ^ (64 - s)) = ((y * 2 ^ (64 - s) % BB : Nat) : Int) := by
    rw [IntKind.wrap_u64]
    simp only [Int.natCast_emod, Int.natCast_mul, Int.natCast_pow]
    rfl
  rw [e1, e2]
  exact bits_or_u64_nat _ _ (Nat.lt_of_le_of_lt (Nat.div_le_self _ _) ha) (Nat.mod_lt _ (by decide))

theorem dg_hi (V i : Nat) (h : V < BB ^ 7) (hi : 7 ≤ i) : dg V i = 0 := by
  unfold dg
  rw [Nat.div_eq_of_lt (Nat.lt_of_lt_of_le h (Nat.pow_le_pow_right (by decide) hi)), Nat.zero_mod]

theorem Dig.drewN {b o n V : Nat} {w : World} (h : Dig w b o n V) (k : Nat) : Dig (w.drewN k) b o n V := fun i hi => by simpa using h i hi

/-- what leading returns: the mantissa ahead of the last bit, and the exponent -/
def ldF (V : Nat) : Nat := blR V 7 - 62

def ldM (V : Nat) (t : Bool) : Int := stk (V / 2 ^ ldF V : Nat) (decide (V % 2 ^ ldF V ≠ 0) || t)

def ldE (V : Nat) : Int := (ldF V : Int) - 192 - 1

theorem ld_bd (V : Nat) (h : V < BB ^ 7) : V / 2 ^ ldF V < 4611686018427387904 ∧ ldF V ≤ 386 := by
  have hb := blR_bd 7 V h
  have hl := blR_le 7 V
  refine ⟨?_, by unfold ldF; omega⟩
  rw [Nat.div_lt_iff_lt_mul (Nat.pow_pos (by decide)), show (4611686018427387904 : Nat) = 2 ^ 62 from rfl, ← Nat.pow_add]
  by_cases hz : V = 0
  · subst hz
    exact Nat.pow_pos (by decide)
  · exact Nat.lt_of_lt_of_le (hb.2 hz).2.2.2 (Nat.pow_le_pow_right (by decide) (by unfold ldF; omega))

set_option maxRecDepth 100000 in
set_option maxHeartbeats 1600000 in
theorem lead_a (V Fn L Q s M : Nat) (t bw : Bool) (a y : Nat) (w : World) (hV : V < BB ^ 7) (HL : Hid (blR V 7 = L)) (hF : (if (L : Int) - 62 < 0 then 0 else (L : Int) - 62) = (Fn : Int)) (hL : L ≤ 448) (hQ : Fn / 64 = Q) (hs : Fn % 64 = s) (hq7 : Q < 6) (hs6 : s < 64)
    (HA : Hid (dg V Q = a)) (HY : Hid (dg V (Q + 1) = y)) (HM : Hid (a / 2 ^ s ||| (y * 2 ^ (64 - s) % BB) = M)) (hM : M < 4611686018427387904) (HB : Hid ((decide (a % 2 ^ s ≠ 0) || decide (V % BB ^ Q ≠ 0)) = bw)) :
    Calls Tryd.prog 87 #[digV V, .bool t] w fun r w' => r = .returned (realV (stk (M : Int) (bw || t)) ((Fn : Int) - 192 - 1)) ∧ Below w.heap.size w w' := by
  have hmx : ∀ w, Sem.run Tryd.prog (Builtin.max_ #[3, 3] 3 #[.int .i64 ((L : Int) - 62), .int .i64 0]) w = .ok (.int .i64 (Fn : Int)) w := fun w => by rw [← hF]; kernel_rfl
  clear hF
  have HW : Hid (∃ W, W = ((w.alloc (Obj.cells (digC V) 113)).alloc (Obj.cells #[Value.int IntKind.i64 0, Value.int IntKind.i64 0] 110)) ∧ Dig W w.heap.size 0 7 V ∧ W.cell? ⟨w.heap.size + 1, 0, none⟩ = some (.int .i64 0) ∧ W.cell? ⟨w.heap.size + 1, 1, none⟩ = some (.int .i64 0) ∧ W.frozen? ⟨w.heap.size + 1, 0, none⟩ = false ∧ W.frozen? ⟨w.heap.size + 1, 1, none⟩ = false ∧ w.heap.size + 1 < W.heap.size ∧ Below w.heap.size w W) := Lib.hid ⟨_, rfl, (Dig.of_alloc w V _).kept (B := w.heap.size + 1) ((Below.refl _ _).alloc (by simp) _) (by omega), by go_simp, by go_simp, by go_simp, by go_simp, by simp, ((Below.refl _ _).alloc (Nat.le_refl _) _).alloc (by simp) _⟩
  go_enter Tryd.func87, Tryd.ntmps87
  go_wp2_with fail
  obtain ⟨W, hW, hD, c1_0, c1_1, f1_0, f1_1, z1, hBW⟩ := HW.out
  rw [← hW]
  have HBB := Lib.hid hBW
  have HD := Lib.hid hD
  clear hW hBW hD HW
  refine (bl_any w.heap.size 0 7 7 V W (by omega) HD.out).mono ?_
  rintro r w1 ⟨rfl, rfl⟩
  rw [HL.out]
  have hQi : (Fn : Int) / 64 = (Q : Int) := by omega
  have hsi : (Fn : Int) % 64 = (s : Int) := by omega
  have hq6 : Q ≤ 6 := by omega
  have hqi6 : (Q : Int) < 7 := by omega
  have hqi8 : (Q : Int) ≤ 7 := by omega
  have hqi9 : Q ≤ 7 := by omega
  have hcell : w1.cell? ⟨w.heap.size, Q, none⟩ = some (.int .u64 (a : Int)) := by have := (HD.out Q (by omega)).1; rw [HA.out] at this; simpa using this
  have hc2 : w1.cell? ⟨w.heap.size, Q + 1, none⟩ = some (.int .u64 (y : Int)) := by have := (HD.out (Q + 1) (by omega)).1; rw [HY.out] at this; simpa using this
  have hqi7 : (Q : Int) + 1 < 7 := by omega
  have hman : bits BinOp.or IntKind.u64 ((a : Int) / 2 ^ s) (IntKind.u64.wrap ((y : Int) * 2 ^ (64 - s))) = (M : Int) := by rw [← HM.out]; exact or_eq a y s (by rw [← HA.out]; exact dg_lt V Q)
  have hmask : bits BinOp.and IntKind.u64 (a : Int) (IntKind.u64.wrap (IntKind.u64.wrap (2 ^ s) - 1)) = ((a % 2 ^ s : Nat) : Int) := by have := mask_eq a s (by rw [← HA.out]; exact dg_lt V Q) hs6; rwa [Int.one_mul] at this
  have HAN : Hid (∀ k, Calls Tryd.prog 94 #[.slice (some ⟨w.heap.size, 0, none⟩) Q 7] (w1.drewN k) fun r w' => r = .returned (.bool (decide (V % BB ^ Q ≠ 0))) ∧ w' = w1.drewN k) := Lib.hid (fun k => any_any w.heap.size 0 Q 7 V _ (by omega) (((HD.out.sub (by omega)).drewN k)))
  have hml := HB.out
  generalize decide (V % BB ^ Q ≠ 0) = lo at *
  obtain ⟨z, hz⟩ : ∃ z, a % 2 ^ s = z := ⟨_, rfl⟩
  rw [hz] at hmask hml
  have HZ := Lib.hid hz
  have HML := Lib.hid hml
  clear hz hml
  rcases Nat.eq_zero_or_pos z with hz0 | hz0
  · subst hz0
    cases lo
    · obtain rfl : bw = false := by have := HML.out; simp at this; exact this
      go_wp2_with fail
      go_quiet (first
        | (go_at_call 94; exact Calls.quiet_of_same (HAN.out _)))
      go_wp2_with fail
      refine (sticky_any (M : Int) t _ (by omega) (by omega)).mono ?_
      rintro r w2 ⟨rfl, hb2⟩
      have f1_0 : w2.frozen? ⟨w.heap.size + 1, 0, none⟩ = false := carryF hb2 (v := .int .i64 0) (by first | with_reducible assumption | go_simp) (by first | with_reducible assumption | go_simp)
      have f1_1 : w2.frozen? ⟨w.heap.size + 1, 1, none⟩ = false := carryF hb2 (v := .int .i64 0) (by first | with_reducible assumption | go_simp) (by first | with_reducible assumption | go_simp)
      have c1_0 : w2.cell? ⟨w.heap.size + 1, 0, none⟩ = some (.int .i64 0) := carry hb2 (by first | with_reducible assumption | go_simp)
      have c1_1 : w2.cell? ⟨w.heap.size + 1, 1, none⟩ = some (.int .i64 0) := carry hb2 (by first | with_reducible assumption | go_simp)
      have z1 : w.heap.size + 1 < w2.heap.size := by have := hb2.size; first | omega | (simp at this; omega)
      have HBB := Lib.hid ((by repeat (first | with_reducible exact HBB.out | with_reducible refine Below.setCell ?_ (by first | omega | (simp; done) | (simp; omega)) _ | with_reducible refine Below.drew ?_ | with_reducible refine belowN ?_ _ | with_reducible refine Below.alloc ?_ (by first | omega | (simp; done) | (simp; omega)) _) : Below w.heap.size w _).trans (hb2.mono (by first | omega | (simp; done) | (simp; omega))))
      clear hb2
      go_wp2_with fail
      refine bodyPost_ret (v := realV (stk (M : Int) t) ((Fn : Int) - 192 - 1)) (by simp [results, Tryd.results87, go_sem, c1_0, c1_1]) rfl ⟨by simp, by repeat (first | with_reducible exact HBB.out | with_reducible exact Below.refl _ _ | with_reducible refine Below.drew ?_ | with_reducible refine belowN ?_ _ | with_reducible refine Below.setCell ?_ (by first | omega | (simp; done) | (simp; omega)) _ | with_reducible refine Below.alloc ?_ (by first | omega | (simp; done) | (simp; omega)) _)⟩
    · obtain rfl : bw = true := by have := HML.out; simp at this; exact this
      go_wp2_with fail
      go_quiet (first
        | (go_at_call 94; exact Calls.quiet_of_same (HAN.out _)))
      go_wp2_with fail
      refine (sticky_any (M : Int) true _ (by omega) (by omega)).mono ?_
      rintro r w2 ⟨rfl, hb2⟩
      have f1_0 : w2.frozen? ⟨w.heap.size + 1, 0, none⟩ = false := carryF hb2 (v := .int .i64 0) (by first | with_reducible assumption | go_simp) (by first | with_reducible assumption | go_simp)
      have f1_1 : w2.frozen? ⟨w.heap.size + 1, 1, none⟩ = false := carryF hb2 (v := .int .i64 0) (by first | with_reducible assumption | go_simp) (by first | with_reducible assumption | go_simp)
      have c1_0 : w2.cell? ⟨w.heap.size + 1, 0, none⟩ = some (.int .i64 0) := carry hb2 (by first | with_reducible assumption | go_simp)
      have c1_1 : w2.cell? ⟨w.heap.size + 1, 1, none⟩ = some (.int .i64 0) := carry hb2 (by first | with_reducible assumption | go_simp)
      have z1 : w.heap.size + 1 < w2.heap.size := by have := hb2.size; first | omega | (simp at this; omega)
      have HBB := Lib.hid ((by repeat (first | with_reducible exact HBB.out | with_reducible refine Below.setCell ?_ (by first | omega | (simp; done) | (simp; omega)) _ | with_reducible refine Below.drew ?_ | with_reducible refine belowN ?_ _ | with_reducible refine Below.alloc ?_ (by first | omega | (simp; done) | (simp; omega)) _) : Below w.heap.size w _).trans (hb2.mono (by first | omega | (simp; done) | (simp; omega))))
      clear hb2
      go_wp2_with fail
      refine bodyPost_ret (v := realV (stk (M : Int) true) ((Fn : Int) - 192 - 1)) (by simp [results, Tryd.results87, go_sem, c1_0, c1_1]) rfl ⟨by simp, by repeat (first | with_reducible exact HBB.out | with_reducible exact Below.refl _ _ | with_reducible refine Below.drew ?_ | with_reducible refine belowN ?_ _ | with_reducible refine Below.setCell ?_ (by first | omega | (simp; done) | (simp; omega)) _ | with_reducible refine Below.alloc ?_ (by first | omega | (simp; done) | (simp; omega)) _)⟩
  · have hz1 : (((z : Nat) : Int) != 0) = true := by simp; omega
    obtain rfl : bw = true := by have := HML.out; rw [← this]; simp; omega
    go_wp2_with fail
    go_quiet (first
      | (go_at_call 94; exact Calls.quiet_of_same (HAN.out _)))
    go_wp2_with fail
    refine (sticky_any (M : Int) true _ (by omega) (by omega)).mono ?_
    rintro r w2 ⟨rfl, hb2⟩
    have f1_0 : w2.frozen? ⟨w.heap.size + 1, 0, none⟩ = false := carryF hb2 (v := .int .i64 0) (by first | with_reducible assumption | go_simp) (by first | with_reducible assumption | go_simp)
    have f1_1 : w2.frozen? ⟨w.heap.size + 1, 1, none⟩ = false := carryF hb2 (v := .int .i64 0) (by first | with_reducible assumption | go_simp) (by first | with_reducible assumption | go_simp)
    have c1_0 : w2.cell? ⟨w.heap.size + 1, 0, none⟩ = some (.int .i64 0) := carry hb2 (by first | with_reducible assumption | go_simp)
    have c1_1 : w2.cell? ⟨w.heap.size + 1, 1, none⟩ = some (.int .i64 0) := carry hb2 (by first | with_reducible assumption | go_simp)
    have z1 : w.heap.size + 1 < w2.heap.size := by have := hb2.size; first | omega | (simp at this; omega)
    have HBB := Lib.hid ((by repeat (first | with_reducible exact HBB.out | with_reducible refine Below.setCell ?_ (by first | omega | (simp; done) | (simp; omega)) _ | with_reducible refine Below.drew ?_ | with_reducible refine belowN ?_ _ | with_reducible refine Below.alloc ?_ (by first | omega | (simp; done) | (simp; omega)) _) : Below w.heap.size w _).trans (hb2.mono (by first | omega | (simp; done) | (simp; omega))))
    clear hb2
    go_wp2_with fail
    refine bodyPost_ret (v := realV (stk (M : Int) true) ((Fn : Int) - 192 - 1)) (by simp [results, Tryd.results87, go_sem, c1_0, c1_1]) rfl ⟨by simp, by repeat (first | with_reducible exact HBB.out | with_reducible exact Below.refl _ _ | with_reducible refine Below.drew ?_ | with_reducible refine belowN ?_ _ | with_reducible refine Below.setCell ?_ (by first | omega | (simp; done) | (simp; omega)) _ | with_reducible refine Below.alloc ?_ (by first | omega | (simp; done) | (simp; omega)) _)⟩

set_option maxRecDepth 100000 in
set_option maxHeartbeats 1600000 in
theorem lead_b (V Fn L Q s M : Nat) (t bw : Bool) (a y : Nat) (w : World) (hV : V < BB ^ 7) (HL : Hid (blR V 7 = L)) (hF : (if (L : Int) - 62 < 0 then 0 else (L : Int) - 62) = (Fn : Int)) (hL : L ≤ 448) (hQ : Fn / 64 = Q) (hs : Fn % 64 = s) (hq7 : Hid (6 ≤ Q)) (hq66 : Q ≤ 6) (hs6 : s < 64)
    (HA : Hid (dg V Q = a)) (HY : Hid (dg V (Q + 1) = y)) (HM : Hid (a / 2 ^ s ||| (y * 2 ^ (64 - s) % BB) = M)) (hM : M < 4611686018427387904) (HB : Hid ((decide (a % 2 ^ s ≠ 0) || decide (V % BB ^ Q ≠ 0)) = bw)) :
    Calls Tryd.prog 87 #[digV V, .bool t] w fun r w' => r = .returned (realV (stk (M : Int) (bw || t)) ((Fn : Int) - 192 - 1)) ∧ Below w.heap.size w w' := by
  have hmx : ∀ w, Sem.run Tryd.prog (Builtin.max_ #[3, 3] 3 #[.int .i64 ((L : Int) - 62), .int .i64 0]) w = .ok (.int .i64 (Fn : Int)) w := fun w => by rw [← hF]; kernel_rfl
  clear hF
  have HW : Hid (∃ W, W = ((w.alloc (Obj.cells (digC V) 113)).alloc (Obj.cells #[Value.int IntKind.i64 0, Value.int IntKind.i64 0] 110)) ∧ Dig W w.heap.size 0 7 V ∧ W.cell? ⟨w.heap.size + 1, 0, none⟩ = some (.int .i64 0) ∧ W.cell? ⟨w.heap.size + 1, 1, none⟩ = some (.int .i64 0) ∧ W.frozen? ⟨w.heap.size + 1, 0, none⟩ = false ∧ W.frozen? ⟨w.heap.size + 1, 1, none⟩ = false ∧ w.heap.size + 1 < W.heap.size ∧ Below w.heap.size w W) := Lib.hid ⟨_, rfl, (Dig.of_alloc w V _).kept (B := w.heap.size + 1) ((Below.refl _ _).alloc (by simp) _) (by omega), by go_simp, by go_simp, by go_simp, by go_simp, by simp, ((Below.refl _ _).alloc (Nat.le_refl _) _).alloc (by simp) _⟩
  go_enter Tryd.func87, Tryd.ntmps87
  go_wp2_with fail
  obtain ⟨W, hW, hD, c1_0, c1_1, f1_0, f1_1, z1, hBW⟩ := HW.out
  rw [← hW]
  have HBB := Lib.hid hBW
  have HD := Lib.hid hD
  clear hW hBW hD HW
  refine (bl_any w.heap.size 0 7 7 V W (by omega) HD.out).mono ?_
  rintro r w1 ⟨rfl, rfl⟩
  rw [HL.out]
  have hQi : (Fn : Int) / 64 = (Q : Int) := by omega
  have hsi : (Fn : Int) % 64 = (s : Int) := by omega
  have hq6 : Q ≤ 6 := by omega
  have hqi6 : (Q : Int) < 7 := by omega
  have hqi8 : (Q : Int) ≤ 7 := by omega
  have hqi9 : Q ≤ 7 := by omega
  have hcell : w1.cell? ⟨w.heap.size, Q, none⟩ = some (.int .u64 (a : Int)) := by have := (HD.out Q (by omega)).1; rw [HA.out] at this; simpa using this
  have hqi7 : ¬ (Q : Int) + 1 < 7 := by have := hq7.out; omega
  have hman : (a : Int) / 2 ^ s = (M : Int) := by rw [← HM.out, show y = 0 from by rw [← HY.out]; exact dg_hi V (Q + 1) hV (by have := hq7.out; omega)]; simp
  have hmask : bits BinOp.and IntKind.u64 (a : Int) (IntKind.u64.wrap (IntKind.u64.wrap (2 ^ s) - 1)) = ((a % 2 ^ s : Nat) : Int) := by have := mask_eq a s (by rw [← HA.out]; exact dg_lt V Q) hs6; rwa [Int.one_mul] at this
  have HAN : Hid (∀ k, Calls Tryd.prog 94 #[.slice (some ⟨w.heap.size, 0, none⟩) Q 7] (w1.drewN k) fun r w' => r = .returned (.bool (decide (V % BB ^ Q ≠ 0))) ∧ w' = w1.drewN k) := Lib.hid (fun k => any_any w.heap.size 0 Q 7 V _ (by omega) (((HD.out.sub (by omega)).drewN k)))
  have hml := HB.out
  generalize decide (V % BB ^ Q ≠ 0) = lo at *
  obtain ⟨z, hz⟩ : ∃ z, a % 2 ^ s = z := ⟨_, rfl⟩
  rw [hz] at hmask hml
  have HZ := Lib.hid hz
  have HML := Lib.hid hml
  clear hz hml
  rcases Nat.eq_zero_or_pos z with hz0 | hz0
  · subst hz0
    cases lo
    · obtain rfl : bw = false := by have := HML.out; simp at this; exact this
      go_wp2_with fail
      go_quiet (first
        | (go_at_call 94; exact Calls.quiet_of_same (HAN.out _)))
      go_wp2_with fail
      refine (sticky_any (M : Int) t _ (by omega) (by omega)).mono ?_
      rintro r w2 ⟨rfl, hb2⟩
      have f1_0 : w2.frozen? ⟨w.heap.size + 1, 0, none⟩ = false := carryF hb2 (v := .int .i64 0) (by first | with_reducible assumption | go_simp) (by first | with_reducible assumption | go_simp)
      have f1_1 : w2.frozen? ⟨w.heap.size + 1, 1, none⟩ = false := carryF hb2 (v := .int .i64 0) (by first | with_reducible assumption | go_simp) (by first | with_reducible assumption | go_simp)
      have c1_0 : w2.cell? ⟨w.heap.size + 1, 0, none⟩ = some (.int .i64 0) := carry hb2 (by first | with_reducible assumption | go_simp)
      have c1_1 : w2.cell? ⟨w.heap.size + 1, 1, none⟩ = some (.int .i64 0) := carry hb2 (by first | with_reducible assumption | go_simp)
      have z1 : w.heap.size + 1 < w2.heap.size := by have := hb2.size; first | omega | (simp at this; omega)
      have HBB := Lib.hid ((by repeat (first | with_reducible exact HBB.out | with_reducible refine Below.setCell ?_ (by first | omega | (simp; done) | (simp; omega)) _ | with_reducible refine Below.drew ?_ | with_reducible refine belowN ?_ _ | with_reducible refine Below.alloc ?_ (by first | omega | (simp; done) | (simp; omega)) _) : Below w.heap.size w _).trans (hb2.mono (by first | omega | (simp; done) | (simp; omega))))
      clear hb2
      go_wp2_with fail
      refine bodyPost_ret (v := realV (stk (M : Int) t) ((Fn : Int) - 192 - 1)) (by simp [results, Tryd.results87, go_sem, c1_0, c1_1]) rfl ⟨by simp, by repeat (first | with_reducible exact HBB.out | with_reducible exact Below.refl _ _ | with_reducible refine Below.drew ?_ | with_reducible refine belowN ?_ _ | with_reducible refine Below.setCell ?_ (by first | omega | (simp; done) | (simp; omega)) _ | with_reducible refine Below.alloc ?_ (by first | omega | (simp; done) | (simp; omega)) _)⟩
    · obtain rfl : bw = true := by have := HML.out; simp at this; exact this
      go_wp2_with fail
      go_quiet (first
        | (go_at_call 94; exact Calls.quiet_of_same (HAN.out _)))
      go_wp2_with fail
      refine (sticky_any (M : Int) true _ (by omega) (by omega)).mono ?_
      rintro r w2 ⟨rfl, hb2⟩
      have f1_0 : w2.frozen? ⟨w.heap.size + 1, 0, none⟩ = false := carryF hb2 (v := .int .i64 0) (by first | with_reducible assumption | go_simp) (by first | with_reducible assumption | go_simp)
      have f1_1 : w2.frozen? ⟨w.heap.size + 1, 1, none⟩ = false := carryF hb2 (v := .int .i64 0) (by first | with_reducible assumption | go_simp) (by first | with_reducible assumption | go_simp)
      have c1_0 : w2.cell? ⟨w.heap.size + 1, 0, none⟩ = some (.int .i64 0) := carry hb2 (by first | with_reducible assumption | go_simp)
      have c1_1 : w2.cell? ⟨w.heap.size + 1, 1, none⟩ = some (.int .i64 0) := carry hb2 (by first | with_reducible assumption | go_simp)
      have z1 : w.heap.size + 1 < w2.heap.size := by have := hb2.size; first | omega | (simp at this; omega)
      have HBB := Lib.hid ((by repeat (first | with_reducible exact HBB.out | with_reducible refine Below.setCell ?_ (by first | omega | (simp; done) | (simp; omega)) _ | with_reducible refine Below.drew ?_ | with_reducible refine belowN ?_ _ | with_reducible refine Below.alloc ?_ (by first | omega | (simp; done) | (simp; omega)) _) : Below w.heap.size w _).trans (hb2.mono (by first | omega | (simp; done) | (simp; omega))))
      clear hb2
      go_wp2_with fail
      refine bodyPost_ret (v := realV (stk (M : Int) true) ((Fn : Int) - 192 - 1)) (by simp [results, Tryd.results87, go_sem, c1_0, c1_1]) rfl ⟨by simp, by repeat (first | with_reducible exact HBB.out | with_reducible exact Below.refl _ _ | with_reducible refine Below.drew ?_ | with_reducible refine belowN ?_ _ | with_reducible refine Below.setCell ?_ (by first | omega | (simp; done) | (simp; omega)) _ | with_reducible refine Below.alloc ?_ (by first | omega | (simp; done) | (simp; omega)) _)⟩
  · have hz1 : (((z : Nat) : Int) != 0) = true := by simp; omega
    obtain rfl : bw = true := by have := HML.out; rw [← this]; simp; omega
    go_wp2_with fail
    go_quiet (first
      | (go_at_call 94; exact Calls.quiet_of_same (HAN.out _)))
    go_wp2_with fail
    refine (sticky_any (M : Int) true _ (by omega) (by omega)).mono ?_
    rintro r w2 ⟨rfl, hb2⟩
    have f1_0 : w2.frozen? ⟨w.heap.size + 1, 0, none⟩ = false := carryF hb2 (v := .int .i64 0) (by first | with_reducible assumption | go_simp) (by first | with_reducible assumption | go_simp)
    have f1_1 : w2.frozen? ⟨w.heap.size + 1, 1, none⟩ = false := carryF hb2 (v := .int .i64 0) (by first | with_reducible assumption | go_simp) (by first | with_reducible assumption | go_simp)
    have c1_0 : w2.cell? ⟨w.heap.size + 1, 0, none⟩ = some (.int .i64 0) := carry hb2 (by first | with_reducible assumption | go_simp)
    have c1_1 : w2.cell? ⟨w.heap.size + 1, 1, none⟩ = some (.int .i64 0) := carry hb2 (by first | with_reducible assumption | go_simp)
    have z1 : w.heap.size + 1 < w2.heap.size := by have := hb2.size; first | omega | (simp at this; omega)
    have HBB := Lib.hid ((by repeat (first | with_reducible exact HBB.out | with_reducible refine Below.setCell ?_ (by first | omega | (simp; done) | (simp; omega)) _ | with_reducible refine Below.drew ?_ | with_reducible refine belowN ?_ _ | with_reducible refine Below.alloc ?_ (by first | omega | (simp; done) | (simp; omega)) _) : Below w.heap.size w _).trans (hb2.mono (by first | omega | (simp; done) | (simp; omega))))
    clear hb2
    go_wp2_with fail
    refine bodyPost_ret (v := realV (stk (M : Int) true) ((Fn : Int) - 192 - 1)) (by simp [results, Tryd.results87, go_sem, c1_0, c1_1]) rfl ⟨by simp, by repeat (first | with_reducible exact HBB.out | with_reducible exact Below.refl _ _ | with_reducible refine Below.drew ?_ | with_reducible refine belowN ?_ _ | with_reducible refine Below.setCell ?_ (by first | omega | (simp; done) | (simp; omega)) _ | with_reducible refine Below.alloc ?_ (by first | omega | (simp; done) | (simp; omega)) _)⟩

end Go.Proofs.YtnmifeiokhpcfaaDoor.re

namespace Go.Proofs.YtnmifeiokhpcfaaDoor.re
open Go.RowKit
set_option linter.unusedVariables false

set_option maxRecDepth 100000 in
theorem lead_any (V : Nat) (t : Bool) (w : World) (hV : V < BB ^ 7) :
    Calls Tryd.prog 87 #[digV V, .bool t] w fun r w' => r = .returned (realV (ldM V t) (ldE V)) ∧ Below w.heap.size w w' := by
  obtain ⟨b1, b2⟩ := ld_bd V hV
  have bl := blR_le 7 V
  have hF : (if (blR V 7 : Int) - 62 < 0 then 0 else (blR V 7 : Int) - 62) = (ldF V : Int) := by
    unfold ldF
    split <;> omega
  have e : ldF V = 64 * (ldF V / 64) + ldF V % 64 := (Nat.div_add_mod _ _).symm
  have hm : dg V (ldF V / 64) / 2 ^ (ldF V % 64) ||| (dg V (ldF V / 64 + 1) * 2 ^ (64 - ldF V % 64) % BB) = V / 2 ^ ldF V := by
    rw [lead_man V _ _ (Nat.mod_lt _ (by decide)), ← e]
    exact Nat.mod_eq_of_lt (Nat.lt_trans b1 (by decide))
  have hb : (decide (dg V (ldF V / 64) % 2 ^ (ldF V % 64) ≠ 0) || decide (V % BB ^ (ldF V / 64) ≠ 0)) = decide (V % 2 ^ ldF V ≠ 0) := by
    have := below_iff V (ldF V / 64) (ldF V % 64) (Nat.mod_lt _ (by decide))
    rw [← e] at this
    rw [← Bool.decide_or, decide_eq_decide]
    exact this
  unfold ldM ldE
  by_cases h6 : ldF V / 64 < 6
  · exact lead_a V (ldF V) (blR V 7) _ _ (V / 2 ^ ldF V) t _ _ _ w hV (Lib.hid rfl) hF bl rfl rfl h6 (Nat.mod_lt _ (by decide)) (Lib.hid rfl) (Lib.hid rfl) (Lib.hid hm) b1 (Lib.hid hb)
  · exact lead_b V (ldF V) (blR V 7) _ _ (V / 2 ^ ldF V) t _ _ _ w hV (Lib.hid rfl) hF bl rfl rfl (Lib.hid (by omega)) (by omega) (Nat.mod_lt _ (by decide)) (Lib.hid rfl) (Lib.hid rfl) (Lib.hid hm) b1 (Lib.hid hb)

/-- the table of the powers of ten lies where it lies -/
def P10 (w : World) : Prop := (∀ i : Nat, i < 20 → w.cell? ⟨3, i, none⟩ = some (.int .u64 ((10 ^ i : Nat) : Int))) ∧ 3 < w.heap.size

theorem P10.kept {w w' : World} {B : Nat} (h : P10 w) (k : Below B w w') (hB : w.heap.size ≤ B) : P10 w' :=
  ⟨fun i hi => (k.cell (p := ⟨3, i, none⟩) (Nat.lt_of_lt_of_le h.2 hB)).trans (h.1 i hi), Nat.lt_of_lt_of_le h.2 k.size⟩

/-- a number in fixed point in block n, the result's cells behind it -/
structure FSt (w : World) (n V : Nat) (wr : World) : Prop where
  dig : Dig wr n 0 7 V
  r0 : wr.cell? ⟨n + 1, 0, none⟩ = some (.int .i64 0)
  r1 : wr.cell? ⟨n + 1, 1, none⟩ = some (.int .i64 0)
  f0 : wr.frozen? ⟨n + 1, 0, none⟩ = false
  f1 : wr.frozen? ⟨n + 1, 1, none⟩ = false
  z : n + 1 < wr.heap.size
  bel : Below n w wr

theorem FSt.only {w wr w' : World} {n V V' : Nat} (h : FSt w n V wr) (k : Only n wr w') (d : Dig w' n 0 7 V') : FSt w n V' w' :=
  ⟨d, (k.cell (p := ⟨n + 1, 0, none⟩) (by simp)).trans h.r0, (k.cell (p := ⟨n + 1, 1, none⟩) (by simp)).trans h.r1, (k.froz (p := ⟨n + 1, 0, none⟩) (by simp)).trans h.f0, (k.froz (p := ⟨n + 1, 1, none⟩) (by simp)).trans h.f1, by rw [k.size]; exact h.z, k.below h.bel (Nat.le_refl _)⟩

theorem FSt.drew {w wr : World} {n V : Nat} (h : FSt w n V wr) : FSt w n V wr.drew :=
  ⟨fun i hi => by simpa using h.dig i hi, by simpa using h.r0, by simpa using h.r1, by simpa using h.f0, by simpa using h.f1, by simpa using h.z, h.bel.drew⟩

theorem FSt.start (w : World) (V : Nat) : FSt w w.heap.size V ((w.alloc (Obj.cells (digC V) 113)).alloc (Obj.cells #[Value.int IntKind.i64 0, Value.int IntKind.i64 0] 110)) :=
  ⟨(Dig.of_alloc w V _).kept (B := w.heap.size + 1) ((Below.refl _ _).alloc (by simp) _) (by omega), by go_simp, by go_simp, by go_simp, by go_simp, by simp, ((Below.refl _ _).alloc (Nat.le_refl _) _).alloc (by simp) _⟩

theorem min19 (j : Nat) : (if (19 : Int) < (j : Int) then 19 else (j : Int)) = ((min j 19 : Nat) : Int) := by
  split <;> omega

theorem p10_le (s : Nat) (h : s ≤ 19) : 10 ^ s < BB := Nat.lt_of_le_of_lt (Nat.pow_le_pow_right (by decide) h) (by decide)

set_option maxRecDepth 100000 in
set_option maxHeartbeats 1600000 in
theorem scp_any (V n : Nat) (w : World) (hT : P10 w) (hn : n ≤ 2000) (hV : V * 10 ^ n < BB ^ 7) :
    Calls Tryd.prog 75 #[digV V, .int .i64 (n : Int)] w fun r w' => r = .returned (realV (ldM (V * 10 ^ n) false) (ldE (V * 10 ^ n))) ∧ Below w.heap.size w w' := by
  have HF := Lib.hid (FSt.start w V)
  have HT := Lib.hid hT
  clear hT
  go_enter Tryd.func75, Tryd.ntmps75
  go_wp2_with fail
  go_loopw [1] (fun x wr => ∃ j k : Nat, j + k = n ∧ x = .int .i64 (j : Int) ∧ FSt w w.heap.size (V * 10 ^ k) wr) (fun x _ => (intOf x).toNat)
  case atStart => exact ⟨n, 0, rfl, rfl, by simpa using HF.out⟩
  case round =>
    obtain ⟨j, k, hjk, rfl, hF⟩ := hrel
    have HW := Lib.hid hF
    clear hF HF
    rcases Nat.eq_zero_or_pos j with hj | hj
    · subst hj
      obtain rfl : k = n := by omega
      go_wp2_with fail
      go_loopw [1, 6] (fun x m wq => x = .int .i64 0 ∧ m = .bool false ∧ wq = wr) (fun _ _ _ => 0)
      case atStart => exact ⟨rfl, rfl, rfl⟩
      case round =>
        obtain ⟨rfl, rfl, rfl⟩ := hrel
        have d0 : wr.cell? ⟨w.heap.size, 0, none⟩ = some (.int .u64 (dg (V * 10 ^ k) 0 : Int)) := by have := (HW.out.dig 0 (by decide)).1; simpa using this
        have d1 : wr.cell? ⟨w.heap.size, 1, none⟩ = some (.int .u64 (dg (V * 10 ^ k) 1 : Int)) := by have := (HW.out.dig 1 (by decide)).1; simpa using this
        have d2 : wr.cell? ⟨w.heap.size, 2, none⟩ = some (.int .u64 (dg (V * 10 ^ k) 2 : Int)) := by have := (HW.out.dig 2 (by decide)).1; simpa using this
        have d3 : wr.cell? ⟨w.heap.size, 3, none⟩ = some (.int .u64 (dg (V * 10 ^ k) 3 : Int)) := by have := (HW.out.dig 3 (by decide)).1; simpa using this
        have d4 : wr.cell? ⟨w.heap.size, 4, none⟩ = some (.int .u64 (dg (V * 10 ^ k) 4 : Int)) := by have := (HW.out.dig 4 (by decide)).1; simpa using this
        have d5 : wr.cell? ⟨w.heap.size, 5, none⟩ = some (.int .u64 (dg (V * 10 ^ k) 5 : Int)) := by have := (HW.out.dig 5 (by decide)).1; simpa using this
        have d6 : wr.cell? ⟨w.heap.size, 6, none⟩ = some (.int .u64 (dg (V * 10 ^ k) 6 : Int)) := by have := (HW.out.dig 6 (by decide)).1; simpa using this
        go_wp2_with fail
        refine (lead_any (V * 10 ^ k) false _ hV).mono ?_
        rintro r w2 ⟨rfl, hb2⟩
        have c1_0 : w2.cell? ⟨w.heap.size + 1, 0, none⟩ = some (.int .i64 0) := carry hb2 HW.out.r0
        have c1_1 : w2.cell? ⟨w.heap.size + 1, 1, none⟩ = some (.int .i64 0) := carry hb2 HW.out.r1
        have f1_0 : w2.frozen? ⟨w.heap.size + 1, 0, none⟩ = false := carryF hb2 (v := .int .i64 0) HW.out.r0 HW.out.f0
        have f1_1 : w2.frozen? ⟨w.heap.size + 1, 1, none⟩ = false := carryF hb2 (v := .int .i64 0) HW.out.r1 HW.out.f1
        have z1 : w.heap.size + 1 < w2.heap.size := Nat.lt_of_lt_of_le HW.out.z hb2.size
        have HBB := Lib.hid (HW.out.bel.trans (hb2.mono (by have := HW.out.z; omega)))
        clear hb2 d0 d1 d2 d3 d4 d5 d6
        generalize hm : ldM (V * 10 ^ k) false = am
        generalize he : ldE (V * 10 ^ k) = ae
        have HQ := Lib.hid (And.intro hm he)
        clear hm he
        go_wp2_with fail
        refine bodyPost_ret (v := realV am ae) (by simp [results, Tryd.results75, go_sem, c1_0, c1_1]) rfl ⟨by rw [← HQ.out.1, ← HQ.out.2], by repeat (first | with_reducible exact HBB.out | with_reducible exact Below.refl _ _ | with_reducible refine Below.drew ?_ | with_reducible refine belowN ?_ _ | with_reducible refine Below.setCell ?_ (by first | omega | (simp; done) | (simp; omega)) _ | with_reducible refine Below.alloc ?_ (by first | omega | (simp; done) | (simp; omega)) _)⟩
    · have hmn : ∀ w, Sem.run Tryd.prog (Builtin.min_ #[3, 3] 3 #[.int .i64 (j : Int), .int .i64 19]) w = .ok (.int .i64 ((min j 19 : Nat) : Int)) w := fun w => by rw [← min19]; kernel_rfl
      have hs1 : min j 19 ≤ 19 := Nat.min_le_right _ _
      have hs2 : min j 19 ≤ j := Nat.min_le_left _ _
      have hs3 : 1 ≤ min j 19 := by omega
      generalize min j 19 = s at *
      have hcell := (HT.out.kept HW.out.bel (Nat.le_refl _)).1 s (by omega)
      have hj0 : (0 : Int) < (j : Int) := by omega
      have hs4 : (s : Int) < 20 := by omega
      have HP : Hid (∃ p : Nat, p = 10 ^ s) := Lib.hid ⟨_, rfl⟩
      obtain ⟨p, hp⟩ := HP.out
      rw [← hp] at hcell
      have HPE := Lib.hid hp
      have HPB := Lib.hid (show p < BB from by rw [hp]; exact p10_le s hs1)
      clear hp HP
      go_wp2_with fail
      go_still_tail 4, (by kernel_rfl)
      change wpList _ _ _ _ _ wr.drew
      go_wp2_with fail
      refine (mul_any w.heap.size 0 7 7 (V * 10 ^ k) p 0 wr.drew (by omega) HPB.out (by decide) HW.out.drew.dig).mono ?_
      rintro r w1 ⟨rfl, ho, hd⟩
      have HF1 := Lib.hid (HW.out.drew.only (V' := V * 10 ^ (k + s)) ho.toOnly (by rw [HPE.out, Nat.add_zero] at hd; rw [Nat.pow_add, ← Nat.mul_assoc]; exact hd))
      clear ho hd
      have hjs : (j : Int) - (s : Int) = ((j - s : Nat) : Int) := by omega
      go_wp2_with fail
      exact ⟨⟨j - s, k + s, by omega, by simp, HF1.out⟩, by simp [intOf]; omega⟩

theorem nz_step (V k s : Nat) : decide (V % 10 ^ (k + s) ≠ 0) = (decide (V % 10 ^ k ≠ 0) || decide (V / 10 ^ k % 10 ^ s ≠ 0)) := by
  rw [Nat.pow_add, Nat.mod_mul, ← Bool.decide_or, decide_eq_decide]
  have hp : 0 < 10 ^ k := Nat.pow_pos (by decide)
  generalize V % 10 ^ k = a
  generalize V / 10 ^ k % 10 ^ s = b
  constructor
  · intro h
    by_cases hb : b = 0
    · subst hb
      left
      simpa using h
    · exact Or.inr hb
  · intro h q
    rcases h with h | h
    · omega
    · have : 10 ^ k * b = 0 := by omega
      rcases Nat.mul_eq_zero.1 this with q | q <;> omega

set_option maxRecDepth 100000 in
set_option maxHeartbeats 1600000 in
theorem scn_any (V n : Nat) (w : World) (hT : P10 w) (h1 : 1 ≤ n) (hn : n ≤ 2000) (hV : V < BB ^ 7) (HDiv : Hid (∀ s, s ≤ 19 → DivOk (10 ^ s))) :
    Calls Tryd.prog 75 #[digV V, .int .i64 (-(n : Int))] w fun r w' => r = .returned (realV (ldM (V / 10 ^ n) (decide (V % 10 ^ n ≠ 0))) (ldE (V / 10 ^ n))) ∧ Below w.heap.size w w' := by
  have HF := Lib.hid (FSt.start w V)
  have HT := Lib.hid hT
  clear hT
  have hneg : ¬ (0 : Int) < -(n : Int) := by omega
  have HV := Lib.hid hV
  go_enter Tryd.func75, Tryd.ntmps75
  go_wp2_with fail
  go_loopw [1] (fun x wr => x = .int .i64 (-(n : Int)) ∧ FSt w w.heap.size V wr) (fun _ _ => 0)
  case atStart => exact ⟨rfl, HF.out⟩
  case round =>
    obtain ⟨rfl, hF⟩ := hrel
    have HW0 := Lib.hid hF
    clear hF HF
    rename_i wr0 _ _
    go_wp2_with fail
    go_loopw [1, 6] (fun x m wr => ∃ (j k : Nat) (b : Bool), j + k = n ∧ x = .int .i64 (-(j : Int)) ∧ m = .bool b ∧ b = decide (V % 10 ^ k ≠ 0) ∧ FSt w w.heap.size (V / 10 ^ k) wr) (fun x _ _ => (-(intOf x)).toNat)
    case atStart => exact ⟨n, 0, false, rfl, rfl, rfl, by simp [Nat.mod_one], by simpa using HW0.out⟩
    case round =>
      obtain ⟨j, k, b, hjk, rfl, rfl, hb, hF⟩ := hrel
      have HW := Lib.hid hF
      have HBV := Lib.hid hb
      have HVK := Lib.hid (Nat.lt_of_le_of_lt (Nat.div_le_self V (10 ^ k)) HV.out)
      clear hF hb
      rcases Nat.eq_zero_or_pos j with hj | hj
      · subst hj
        obtain rfl : k = n := by omega
        have d0 : wr.cell? ⟨w.heap.size, 0, none⟩ = some (.int .u64 (dg (V / 10 ^ k) 0 : Int)) := by have := (HW.out.dig 0 (by decide)).1; simpa using this
        have d1 : wr.cell? ⟨w.heap.size, 1, none⟩ = some (.int .u64 (dg (V / 10 ^ k) 1 : Int)) := by have := (HW.out.dig 1 (by decide)).1; simpa using this
        have d2 : wr.cell? ⟨w.heap.size, 2, none⟩ = some (.int .u64 (dg (V / 10 ^ k) 2 : Int)) := by have := (HW.out.dig 2 (by decide)).1; simpa using this
        have d3 : wr.cell? ⟨w.heap.size, 3, none⟩ = some (.int .u64 (dg (V / 10 ^ k) 3 : Int)) := by have := (HW.out.dig 3 (by decide)).1; simpa using this
        have d4 : wr.cell? ⟨w.heap.size, 4, none⟩ = some (.int .u64 (dg (V / 10 ^ k) 4 : Int)) := by have := (HW.out.dig 4 (by decide)).1; simpa using this
        have d5 : wr.cell? ⟨w.heap.size, 5, none⟩ = some (.int .u64 (dg (V / 10 ^ k) 5 : Int)) := by have := (HW.out.dig 5 (by decide)).1; simpa using this
        have d6 : wr.cell? ⟨w.heap.size, 6, none⟩ = some (.int .u64 (dg (V / 10 ^ k) 6 : Int)) := by have := (HW.out.dig 6 (by decide)).1; simpa using this
        go_wp2_with fail
        refine (lead_any (V / 10 ^ k) b _ HVK.out).mono ?_
        rintro r w2 ⟨rfl, hb2⟩
        have c1_0 : w2.cell? ⟨w.heap.size + 1, 0, none⟩ = some (.int .i64 0) := carry hb2 HW.out.r0
        have c1_1 : w2.cell? ⟨w.heap.size + 1, 1, none⟩ = some (.int .i64 0) := carry hb2 HW.out.r1
        have f1_0 : w2.frozen? ⟨w.heap.size + 1, 0, none⟩ = false := carryF hb2 (v := .int .i64 0) HW.out.r0 HW.out.f0
        have f1_1 : w2.frozen? ⟨w.heap.size + 1, 1, none⟩ = false := carryF hb2 (v := .int .i64 0) HW.out.r1 HW.out.f1
        have z1 : w.heap.size + 1 < w2.heap.size := Nat.lt_of_lt_of_le HW.out.z hb2.size
        have HBB := Lib.hid (HW.out.bel.trans (hb2.mono (by have := HW.out.z; omega)))
        clear hb2 d0 d1 d2 d3 d4 d5 d6
        generalize hm : ldM (V / 10 ^ k) b = am
        generalize he : ldE (V / 10 ^ k) = ae
        have HQ := Lib.hid (And.intro hm he)
        clear hm he
        go_wp2_with fail
        refine bodyPost_ret (v := realV am ae) (by simp [results, Tryd.results75, go_sem, c1_0, c1_1]) rfl ⟨by rw [← HQ.out.1, ← HQ.out.2, HBV.out], by repeat (first | with_reducible exact HBB.out | with_reducible exact Below.refl _ _ | with_reducible refine Below.drew ?_ | with_reducible refine belowN ?_ _ | with_reducible refine Below.setCell ?_ (by first | omega | (simp; done) | (simp; omega)) _ | with_reducible refine Below.alloc ?_ (by first | omega | (simp; done) | (simp; omega)) _)⟩
      · have hmn : ∀ w, Sem.run Tryd.prog (Builtin.min_ #[3, 3] 3 #[.int .i64 (j : Int), .int .i64 19]) w = .ok (.int .i64 ((min j 19 : Nat) : Int)) w := fun w => by rw [← min19]; kernel_rfl
        have hs1 : min j 19 ≤ 19 := Nat.min_le_right _ _
        have hs2 : min j 19 ≤ j := Nat.min_le_left _ _
        have hs3 : 1 ≤ min j 19 := by omega
        generalize min j 19 = s at *
        have hcell := (HT.out.kept HW.out.bel (Nat.le_refl _)).1 s (by omega)
        have hj0 : -(j : Int) < 0 := by omega
        have hs4 : (s : Int) < 20 := by omega
        have HP : Hid (∃ p : Nat, p = 10 ^ s) := Lib.hid ⟨_, rfl⟩
        obtain ⟨p, hp⟩ := HP.out
        rw [← hp] at hcell
        have HPE := Lib.hid hp
        have HPB := Lib.hid (show p < BB from by rw [hp]; exact p10_le s hs1)
        have HP0 := Lib.hid (show 0 < p from by rw [hp]; exact Nat.pow_pos (by decide))
        have HPD : Hid (DivOk p) := Lib.hid (by rw [hp]; exact HDiv.out s hs1)
        clear hp HP
        go_wp2_with fail
        go_still_tail 4, (by kernel_rfl)
        change wpList _ _ _ _ _ (World.drew _)
        go_wp2_with fail
        refine (div_any w.heap.size 0 7 7 (V / 10 ^ k) p _ (by omega) HVK.out HP0.out HPB.out HW.out.drew.dig HPD).mono ?_
        rintro r w1 ⟨rfl, ho, hd⟩
        have HF1 := Lib.hid (HW.out.drew.only (V' := V / 10 ^ (k + s)) ho.toOnly (by rw [HPE.out] at hd; rw [Nat.pow_add, ← Nat.div_div_eq_div_mul]; exact hd))
        have HNZ := Lib.hid (show decide (V % 10 ^ (k + s) ≠ 0) = (b || decide (V / 10 ^ k % p ≠ 0)) from by rw [HBV.out, HPE.out]; exact nz_step V k s)
        clear ho hd
        have hjs : -(j : Int) + (s : Int) = -((j - s : Nat) : Int) := by omega
        generalize V / 10 ^ k % p = q at *
        cases b
        · rcases Nat.eq_zero_or_pos q with hq | hq
          · subst hq
            go_wp2_with fail
            exact ⟨⟨j - s, k + s, false, by omega, by simp <;> omega, rfl, by rw [HNZ.out]; rfl, HF1.out⟩, by simp [intOf] <;> omega⟩
          · have hq1 : (((q : Nat) : Int) != 0) = true := by simp; omega
            go_wp2_with fail
            exact ⟨⟨j - s, k + s, true, by omega, by simp <;> omega, rfl, by rw [HNZ.out]; simp; omega, HF1.out⟩, by simp [intOf] <;> omega⟩
        · go_wp2_with fail
          exact ⟨⟨j - s, k + s, true, by omega, by simp <;> omega, rfl, by rw [HNZ.out]; simp, HF1.out⟩, by simp [intOf] <;> omega⟩

end Go.Proofs.YtnmifeiokhpcfaaDoor.re

namespace Go.Proofs.YtnmifeiokhpcfaaDoor.re
open Go.RowKit
set_option linter.unusedVariables false

theorem kn_mul (q y1 y0 : Nat) : q * (y1 * 4294967296 + y0) = q * y1 * 4294967296 + q * y0 := by
  rw [Nat.mul_add, Nat.mul_assoc]

theorem kn_start (X z y1 y0 : Nat) (h1 : 2147483648 ≤ y1) (hz : z < 4294967296) :
    (X * 4294967296 + z) / (y1 * 4294967296 + y0) ≤ X / y1 ∧ X / y1 * y1 + X % y1 = X ∧ X % y1 < y1 := by
  have e := Nat.div_add_mod' X y1
  have hm := Nat.mod_lt X (show 0 < y1 by omega)
  refine ⟨?_, e, hm⟩
  apply Nat.le_of_lt_succ
  rw [Nat.div_lt_iff_lt_mul (by omega), kn_mul]
  have : (X / y1).succ * y1 = X / y1 * y1 + y1 := Nat.succ_mul _ _
  rw [this]
  generalize X / y1 * y1 = P at *
  generalize X % y1 = r at *
  generalize (X / y1).succ * y0 = Q
  omega

theorem kn_tq (X z y1 y0 : Nat) (hX : X < y1 * 4294967296 + y0) (hz : z < 4294967296) : (X * 4294967296 + z) / (y1 * 4294967296 + y0) < 4294967296 := by
  rw [Nat.div_lt_iff_lt_mul (by omega)]
  omega

theorem kn_on (X z y1 y0 q r : Nat) (h0 : y0 < 4294967296) (h1 : 2147483648 ≤ y1) (hX : X < y1 * 4294967296 + y0) (hz : z < 4294967296) (e : q * y1 + r = X)
    (h : 4294967296 ≤ q ∨ 4294967296 * r + z < q * y0) : (X * 4294967296 + z) / (y1 * 4294967296 + y0) < q := by
  rcases h with h | h
  · exact Nat.lt_of_lt_of_le (kn_tq X z y1 y0 hX hz) h
  · rw [Nat.div_lt_iff_lt_mul (by omega), kn_mul]
    omega

theorem kn_off (X z y1 y0 q r : Nat) (h0 : y0 < 4294967296) (h1 : 2147483648 ≤ y1) (e : q * y1 + r = X) (ht : (X * 4294967296 + z) / (y1 * 4294967296 + y0) ≤ q)
    (h : q * y0 ≤ 4294967296 * r + z) : (X * 4294967296 + z) / (y1 * 4294967296 + y0) = q := by
  apply Nat.le_antisymm ht
  rw [Nat.le_div_iff_mul_le (by omega), kn_mul]
  omega

theorem kn_brk (X z y1 y0 q r : Nat) (h0 : y0 < 4294967296) (h1 : 2147483648 ≤ y1) (hX : X < y1 * 4294967296 + y0) (e : q * y1 + r = X) (ht : (X * 4294967296 + z) / (y1 * 4294967296 + y0) ≤ q)
    (h : 4294967296 ≤ r) : (X * 4294967296 + z) / (y1 * 4294967296 + y0) = q := by
  have hq : q < 4294967296 := by
    apply Nat.lt_of_not_le
    intro hq
    have := Nat.mul_le_mul_right y1 hq
    omega
  have : q * y0 ≤ 4294967296 * 4294967296 := Nat.mul_le_mul (by omega) (by omega)
  exact kn_off X z y1 y0 q r h0 h1 e ht (by omega)

theorem kn_qb (X y1 : Nat) (h1 : 2147483648 ≤ y1) (hX : X < BB) : X / y1 < 8589934592 := by
  rw [Nat.div_lt_iff_lt_mul (by omega)]
  simp only [BB] at hX
  omega

set_option maxRecDepth 100000 in
/-- the two halves put together -/
theorem kn_all (X Z z1 z0 Y : Nat) (hY : 0 < Y) (hX : X < Y) (hZ : Z = z1 * 4294967296 + z0) (h0 : z0 < 4294967296) :
    (X * BB + Z) / Y = (X * 4294967296 + z1) / Y * 4294967296 + ((X * 4294967296 + z1) % Y * 4294967296 + z0) / Y ∧
    (X * BB + Z) % Y = ((X * 4294967296 + z1) % Y * 4294967296 + z0) % Y := by
  have e := Nat.div_add_mod (X * 4294967296 + z1) Y
  obtain ⟨q, hq⟩ : ∃ q, q = (X * 4294967296 + z1) / Y := ⟨_, rfl⟩
  obtain ⟨u, hu⟩ : ∃ u, u = (X * 4294967296 + z1) % Y := ⟨_, rfl⟩
  rw [← hq, ← hu] at e ⊢
  clear hq hu
  have e2 : X * BB + Z = (u * 4294967296 + z0) + Y * (q * 4294967296) := by
    have : Y * (q * 4294967296) = Y * q * 4294967296 := by rw [Nat.mul_assoc]
    rw [this, hZ]
    simp only [BB]
    generalize Y * q = p at *
    omega
  constructor
  · rw [e2, Nat.add_mul_div_left _ _ hY, Nat.add_comm]
  · rw [e2, Nat.add_mul_mod_self_left]

/-- the operands, shifted -/
theorem kn_shift (hi lo y s : Nat) (hs : s < 64) (hh : hi < y) (hy : y * 2 ^ s < BB) (hlo : lo < BB) :
    hi * 2 ^ s + lo / 2 ^ (64 - s) < y * 2 ^ s ∧ (hi * 2 ^ s + lo / 2 ^ (64 - s)) * BB + lo * 2 ^ s % BB = (hi * BB + lo) * 2 ^ s ∧ lo / 2 ^ (64 - s) < 2 ^ s := by
  have hp := Nat.pow_pos (n := s) (a := 2) (by decide)
  have hq := Nat.pow_pos (n := 64 - s) (a := 2) (by decide)
  have hB : BB = 2 ^ (64 - s) * 2 ^ s := by
    rw [← Nat.pow_add, show 64 - s + s = 64 from by omega]
  have h1 : lo / 2 ^ (64 - s) < 2 ^ s := by
    rw [Nat.div_lt_iff_lt_mul hq, Nat.mul_comm, ← hB]
    exact hlo
  have h2 : lo * 2 ^ s % BB = lo % 2 ^ (64 - s) * 2 ^ s := by rw [hB, Nat.mul_mod_mul_right]
  have h3 := Nat.div_add_mod lo (2 ^ (64 - s))
  refine ⟨?_, ?_, h1⟩
  · have := Nat.mul_le_mul_right (2 ^ s) (show hi + 1 ≤ y from hh)
    rw [Nat.add_mul, Nat.one_mul] at this
    omega
  · rw [h2, Nat.add_mul, Nat.add_mul]
    have e1 : hi * 2 ^ s * BB = hi * BB * 2 ^ s := by ac_rfl
    have e2 : lo / 2 ^ (64 - s) * BB = 2 ^ (64 - s) * (lo / 2 ^ (64 - s)) * 2 ^ s := by rw [hB]; ac_rfl
    have e3 : lo / 2 ^ (64 - s) * BB + lo % 2 ^ (64 - s) * 2 ^ s = lo * 2 ^ s := by rw [e2, ← Nat.add_mul, h3]
    rw [e1, Nat.add_assoc, e3]

theorem kn_or (hi lo s : Nat) (hs : s < 64) (hl : lo / 2 ^ (64 - s) < 2 ^ s) (hh : hi * 2 ^ s + lo / 2 ^ (64 - s) < BB) :
    bits BinOp.or IntKind.u64 (IntKind.u64.wrap ((hi : Int) * 2 ^ s)) ((lo : Int) / 2 ^ (64 - s)) = ((hi * 2 ^ s + lo / 2 ^ (64 - s) : Nat) : Int) := by
  have e1 : IntKind.u64.wrap ((hi : Int) * 2 ^ s) = ((hi * 2 ^ s : Nat) : Int) := by
    rw [show (hi : Int) * 2 ^ s = ((hi * 2 ^ s : Nat) : Int) from by simp only [Int.natCast_mul, Int.natCast_pow]; rfl, IntKind.wrap_u64]
    generalize hi * 2 ^ s = p at *
    generalize lo / 2 ^ (64 - s) = c at *
    simp only [BB] at hh
    omega
  have e2 : (lo : Int) / 2 ^ (64 - s) = ((lo / 2 ^ (64 - s) : Nat) : Int) := by push_cast; rfl
  rw [e1, e2, bits_or_u64_nat _ _ (by clear e1 e2; generalize hi * 2 ^ s = p at *; generalize lo / 2 ^ (64 - s) = c at *; simp only [BB] at hh; omega) (by clear e1 e2; generalize hi * 2 ^ s = p at *; generalize lo / 2 ^ (64 - s) = c at *; simp only [BB] at hh; omega)]
  congr 1
  rw [Nat.mul_comm, ← Nat.two_pow_add_eq_or_of_lt hl]

theorem kn_and (a : Nat) (ha : a < BB) : bits BinOp.and IntKind.u64 (a : Int) 4294967295 = ((a % 4294967296 : Nat) : Int) := by
  have e : (4294967295 : Int) = ((2 ^ 32 - 1 : Nat) : Int) := by decide
  rw [e, bits_and_u64_nat _ _ (by simp only [BB] at ha; omega) (by decide), Nat.and_two_pow_sub_one_eq_mod]

theorem kn_next (X y1 q r : Nat) (e : q * y1 + r = X) (h : 1 ≤ q) : (q - 1) * y1 + (r + y1) = X := by
  obtain ⟨p, rfl⟩ : ∃ p, q = p + 1 := ⟨q - 1, by omega⟩
  rw [Nat.add_mul, Nat.one_mul] at e
  simp only [Nat.add_sub_cancel]
  omega

theorem w64 (x : Int) (n : Nat) (h : x % 18446744073709551616 = (n : Int)) : IntKind.u64.wrap x = (n : Int) := by
  rw [IntKind.wrap_u64]
  exact h

theorem w64i (x : Int) (n : Nat) (h : x = (n : Int)) (hn : n < BB) : IntKind.u64.wrap x = (n : Int) := by
  subst h
  rw [IntKind.wrap_u64]
  simp only [BB] at hn
  omega

set_option maxRecDepth 100000 in
set_option maxHeartbeats 1600000 in
theorem dv_t (hi lo y s Y y1 y0 X Z z1 z0 qs1 rs1 t1 U qs2 rs2 t0 L Rq R2 Rr : Nat) (w : World) (h2 : (hi : Int) < (y : Int)) (hhy : ¬ y ≤ hi) (hy : ¬ ((y : Nat) : Int) = 0) (hb0 : (((hi : Nat) : Int) == 0) = false) (hb1 : (((y : Nat) : Int) == 0) = false) (hyb : y < BB) (HL : Hid (Lib.bitLen y = L)) (hs : (64 : Int) - (L : Int) = (s : Int)) (hs2 : s < 64)
    (eY : IntKind.u64.wrap ((y : Int) * 2 ^ s) = (Y : Int)) (ey1 : (Y : Int) / 4294967296 = (y1 : Int)) (ey0 : bits BinOp.and IntKind.u64 (Y : Int) 4294967295 = (y0 : Int)) (eX : bits BinOp.or IntKind.u64 (IntKind.u64.wrap ((hi : Int) * 2 ^ s)) ((lo : Int) / 2 ^ (64 - s)) = (X : Int))
    (eZ : IntKind.u64.wrap ((lo : Int) * 2 ^ s) = (Z : Int)) (ez1 : (Z : Int) / 4294967296 = (z1 : Int)) (ez0 : bits BinOp.and IntKind.u64 (Z : Int) 4294967295 = (z0 : Int)) (hy1 : ¬ (y1 : Int) = 0)
    (eq1 : IntKind.u64.wrap ((X : Int) / (y1 : Int)) = (qs1 : Int)) (er1 : IntKind.u64.wrap ((X : Int) - IntKind.u64.wrap ((qs1 : Int) * (y1 : Int))) = (rs1 : Int))
    (HY0 : Hid (y0 < 4294967296)) (HY1 : Hid (2147483648 ≤ y1)) (HY1b : Hid (y1 < 4294967296)) (HX1 : Hid (X < y1 * 4294967296 + y0)) (HZ1 : Hid (z1 < 4294967296))
    (HT1 : Hid ((X * 4294967296 + z1) / (y1 * 4294967296 + y0) = t1)) (HS1 : Hid (t1 ≤ qs1 ∧ qs1 * y1 + rs1 = X ∧ qs1 < 8589934592 ∧ rs1 < 4294967296))
    (eU : IntKind.u64.wrap (IntKind.u64.wrap (IntKind.u64.wrap ((X : Int) * 4294967296) + (z1 : Int)) - IntKind.u64.wrap ((t1 : Int) * (Y : Int))) = (U : Int)) (eq2 : IntKind.u64.wrap ((U : Int) / (y1 : Int)) = (qs2 : Int)) (er2 : IntKind.u64.wrap ((U : Int) - IntKind.u64.wrap ((qs2 : Int) * (y1 : Int))) = (rs2 : Int))
    (HX2 : Hid (U < y1 * 4294967296 + y0)) (HZ2 : Hid (z0 < 4294967296)) (HT2 : Hid ((U * 4294967296 + z0) / (y1 * 4294967296 + y0) = t0)) (HS2 : Hid (t0 ≤ qs2 ∧ qs2 * y1 + rs2 = U ∧ qs2 < 8589934592 ∧ rs2 < 4294967296))
    (eR1 : IntKind.u64.wrap (IntKind.u64.wrap ((t1 : Int) * 4294967296) + (t0 : Int)) = (Rq : Int)) (eR2 : IntKind.u64.wrap (IntKind.u64.wrap (IntKind.u64.wrap ((U : Int) * 4294967296) + (z0 : Int)) - IntKind.u64.wrap ((t0 : Int) * (Y : Int))) = (R2 : Int)) (eR3 : (R2 : Int) / 2 ^ s = (Rr : Int)) (HRQ : Hid ((t1 : Int) * 4294967296 + (t0 : Int) = (Rq : Int))) (HRW : Hid (IntKind.u64.wrap ((t1 : Int) * 4294967296 + (t0 : Int)) = (Rq : Int))) :
    Calls Tryd.prog 92 #[.int .u64 hi, .int .u64 lo, .int .u64 y] w fun r w' => r = .returned (.tuple #[.int .u64 (Rq : Int), .int .u64 (Rr : Int)]) ∧ w' = w := by
  go_enter Tryd.func92, Tryd.ntmps92
  go_wp2_with fail
  refine (Tryd.bits_LeadingZeros64 (y : Int) _ (by omega) (by simp only [BB] at hyb; omega)).mono ?_
  rintro r w1 ⟨rfl, rfl⟩
  simp only [Int.toNat_natCast]
  rw [HL.out, hs]
  go_wp2_with fail
  go_loopw [15, 16] (fun a b wz => ∃ q r : Nat, a = .int .u64 (q : Int) ∧ b = .int .u64 (r : Int) ∧ q * y1 + r = X ∧ t1 ≤ q ∧ q < 8589934592 ∧ r < 4294967296 ∧ wz = w1) (fun a _ _ => (intOf a).toNat)
  case atStart => exact ⟨qs1, rs1, rfl, rfl, HS1.out.2.1, HS1.out.1, HS1.out.2.2.1, HS1.out.2.2.2, rfl⟩
  case round =>
    obtain ⟨q1, r1, rfl, rfl, he, hle, hqb, hrb, rfl⟩ := hrel
    have HE1 := Lib.hid he
    clear he
    by_cases hq : 4294967296 ≤ q1
    · have HLT := Lib.hid (kn_on X z1 y1 y0 q1 r1 HY0.out HY1.out HX1.out HZ1.out HE1.out (Or.inl hq))
      have hlt1 : t1 < q1 := by have := HT1.out; have := HLT.out; omega
      have hqi : (4294967296 : Int) ≤ (q1 : Int) := by omega
      have hone : 1 ≤ q1 := by omega
      obtain ⟨p1, hp⟩ : ∃ p, p = q1 - 1 := ⟨_, rfl⟩
      obtain ⟨v1, hv⟩ : ∃ v, v = r1 + y1 := ⟨_, rfl⟩
      have HNX := Lib.hid (kn_next X y1 q1 r1 HE1.out hone)
      rw [← hp, ← hv] at HNX
      have hw1 := w64i ((q1 : Int) - 1) p1 (by omega) (by simp only [BB]; omega)
      have hw2 := w64i ((r1 : Int) + (y1 : Int)) v1 (by omega) (by have := HY1b.out; simp only [BB]; omega)
      have HTP : Hid (t1 ≤ p1) := Lib.hid (by have := HT1.out; have := HLT.out; omega)
      have hpb : p1 < 8589934592 := by omega
      have hpq : p1 < q1 := by omega
      have HPV := Lib.hid (And.intro hp hv)
      clear hp hv hone
      by_cases hb : 4294967296 ≤ v1
      · have HEQ := Lib.hid (kn_brk X z1 y1 y0 p1 v1 HY0.out HY1.out HX1.out HNX.out (by have := HT1.out; have := HTP.out; omega) hb)
        have hbi : (4294967296 : Int) ≤ (v1 : Int) := by omega
        obtain rfl : p1 = t1 := by have := HT1.out; have := HEQ.out; omega
        clear hb
        go_wp2_with fail
        go_loopw [18, 16] (fun a b wz => ∃ q r : Nat, a = .int .u64 (q : Int) ∧ b = .int .u64 (r : Int) ∧ q * y1 + r = U ∧ t0 ≤ q ∧ q < 8589934592 ∧ r < 4294967296 ∧ wz = wr) (fun a _ _ => (intOf a).toNat)
        case atStart => exact ⟨qs2, rs2, rfl, rfl, HS2.out.2.1, HS2.out.1, HS2.out.2.2.1, HS2.out.2.2.2, rfl⟩
        case round =>
          obtain ⟨q2, r2, rfl, rfl, he, hle, hqb, hrb, rfl⟩ := hrel
          have HE2 := Lib.hid he
          clear he
          by_cases hq : 4294967296 ≤ q2
          · have HLT := Lib.hid (kn_on U z0 y1 y0 q2 r2 HY0.out HY1.out HX2.out HZ2.out HE2.out (Or.inl hq))
            have hlt1 : t0 < q2 := by have := HT2.out; have := HLT.out; omega
            have hqi : (4294967296 : Int) ≤ (q2 : Int) := by omega
            have hone : 1 ≤ q2 := by omega
            obtain ⟨p2, hp⟩ : ∃ p, p = q2 - 1 := ⟨_, rfl⟩
            obtain ⟨v2, hv⟩ : ∃ v, v = r2 + y1 := ⟨_, rfl⟩
            have HNX := Lib.hid (kn_next U y1 q2 r2 HE2.out hone)
            rw [← hp, ← hv] at HNX
            have hw1 := w64i ((q2 : Int) - 1) p2 (by omega) (by simp only [BB]; omega)
            have hw2 := w64i ((r2 : Int) + (y1 : Int)) v2 (by omega) (by have := HY1b.out; simp only [BB]; omega)
            have HTP : Hid (t0 ≤ p2) := Lib.hid (by have := HT2.out; have := HLT.out; omega)
            have hpb : p2 < 8589934592 := by omega
            have hpq : p2 < q2 := by omega
            have HPV := Lib.hid (And.intro hp hv)
            clear hp hv hone
            by_cases hb : 4294967296 ≤ v2
            · have HEQ := Lib.hid (kn_brk U z0 y1 y0 p2 v2 HY0.out HY1.out HX2.out HNX.out (by have := HT2.out; have := HTP.out; omega) hb)
              have hbi : (4294967296 : Int) ≤ (v2 : Int) := by omega
              obtain rfl : p2 = t0 := by have := HT2.out; have := HEQ.out; omega
              clear hb
              go_wp2_with fail
              go_wp2_with fail
              go_ret2
              exact ⟨by first | rfl | exact congrArg (fun x : Int => Ending.returned (Value.tuple #[Value.int IntKind.u64 x, Value.int IntKind.u64 (Rr : Int)])) HRQ.out | exact congrArg (fun x : Int => Ending.returned (Value.tuple #[Value.int IntKind.u64 x, Value.int IntKind.u64 (Rr : Int)])) HRW.out, rfl⟩
            · have hbi : ¬ (4294967296 : Int) ≤ (v2 : Int) := by omega
              go_wp2_with fail
              exact ⟨⟨p2, v2, rfl, rfl, HNX.out, HTP.out, hpb, by omega, by first | trivial | rfl⟩, by simp [intOf] <;> omega⟩
          · have hqi : ¬ (4294967296 : Int) ≤ (q2 : Int) := by omega
            have hmb : q2 * y0 < BB := Nat.lt_of_le_of_lt (Nat.mul_le_mul (show q2 ≤ 4294967295 by omega) (show y0 ≤ 4294967295 by have := HY0.out; omega)) (by decide)
            have hw3 := w64i ((q2 : Int) * (y0 : Int)) (q2 * y0) (by simp) hmb
            have hw4 := w64i ((4294967296 : Int) * (r2 : Int)) (4294967296 * r2) (by simp) (by simp only [BB]; omega)
            have hw5 := w64i (((4294967296 * r2 : Nat) : Int) + (z0 : Int)) (4294967296 * r2 + z0) (by simp) (by have := HZ2.out; simp only [BB]; omega)
            have hM : Hid (∃ m, m = q2 * y0) := Lib.hid ⟨_, rfl⟩
            obtain ⟨m, hm⟩ := hM.out
            obtain ⟨k, hk⟩ : ∃ k, k = 4294967296 * r2 + z0 := ⟨_, rfl⟩
            obtain ⟨k0, hk0⟩ : ∃ k0, k0 = 4294967296 * r2 := ⟨_, rfl⟩
            rw [← hm] at hw3
            rw [← hk, ← hk0] at hw5
            rw [← hk0] at hw4
            have HM := Lib.hid hm
            have HK := Lib.hid hk
            clear hm hk hk0 hM hmb
            by_cases hc : k < m
            · have HLT := Lib.hid (kn_on U z0 y1 y0 q2 r2 HY0.out HY1.out HX2.out HZ2.out HE2.out (Or.inr (by rw [← HM.out, ← HK.out]; exact hc)))
              have hlt1 : t0 < q2 := by have := HT2.out; have := HLT.out; omega
              have hci : (k : Int) < (m : Int) := by omega
              have hone : 1 ≤ q2 := by omega
              obtain ⟨p2, hp⟩ : ∃ p, p = q2 - 1 := ⟨_, rfl⟩
              obtain ⟨v2, hv⟩ : ∃ v, v = r2 + y1 := ⟨_, rfl⟩
              have HNX := Lib.hid (kn_next U y1 q2 r2 HE2.out hone)
              rw [← hp, ← hv] at HNX
              have hw1 := w64i ((q2 : Int) - 1) p2 (by omega) (by simp only [BB]; omega)
              have hw2 := w64i ((r2 : Int) + (y1 : Int)) v2 (by omega) (by have := HY1b.out; simp only [BB]; omega)
              have HTP : Hid (t0 ≤ p2) := Lib.hid (by have := HT2.out; have := HLT.out; omega)
              have hpb : p2 < 8589934592 := by omega
              have hpq : p2 < q2 := by omega
              have HPV := Lib.hid (And.intro hp hv)
              clear hp hv hone
              by_cases hb : 4294967296 ≤ v2
              · have HEQ := Lib.hid (kn_brk U z0 y1 y0 p2 v2 HY0.out HY1.out HX2.out HNX.out (by have := HT2.out; have := HTP.out; omega) hb)
                have hbi : (4294967296 : Int) ≤ (v2 : Int) := by omega
                obtain rfl : p2 = t0 := by have := HT2.out; have := HEQ.out; omega
                clear hb
                go_wp2_with fail
                go_wp2_with fail
                go_ret2
                exact ⟨by first | rfl | exact congrArg (fun x : Int => Ending.returned (Value.tuple #[Value.int IntKind.u64 x, Value.int IntKind.u64 (Rr : Int)])) HRQ.out | exact congrArg (fun x : Int => Ending.returned (Value.tuple #[Value.int IntKind.u64 x, Value.int IntKind.u64 (Rr : Int)])) HRW.out, rfl⟩
              · have hbi : ¬ (4294967296 : Int) ≤ (v2 : Int) := by omega
                go_wp2_with fail
                exact ⟨⟨p2, v2, rfl, rfl, HNX.out, HTP.out, hpb, by omega, by first | trivial | rfl⟩, by simp [intOf] <;> omega⟩
            · have HEQ := Lib.hid (kn_off U z0 y1 y0 q2 r2 HY0.out HY1.out HE2.out (by have := HT2.out; omega) (by rw [← HM.out, ← HK.out]; omega))
              have hci : ¬ (k : Int) < (m : Int) := by omega
              obtain rfl : q2 = t0 := by have := HT2.out; have := HEQ.out; omega
              go_wp2_with fail
              go_wp2_with fail
              go_ret2
              exact ⟨by first | rfl | exact congrArg (fun x : Int => Ending.returned (Value.tuple #[Value.int IntKind.u64 x, Value.int IntKind.u64 (Rr : Int)])) HRQ.out | exact congrArg (fun x : Int => Ending.returned (Value.tuple #[Value.int IntKind.u64 x, Value.int IntKind.u64 (Rr : Int)])) HRW.out, rfl⟩
      · have hbi : ¬ (4294967296 : Int) ≤ (v1 : Int) := by omega
        go_wp2_with fail
        exact ⟨⟨p1, v1, rfl, rfl, HNX.out, HTP.out, hpb, by omega, by first | trivial | rfl⟩, by simp [intOf] <;> omega⟩
    · have hqi : ¬ (4294967296 : Int) ≤ (q1 : Int) := by omega
      have hmb : q1 * y0 < BB := Nat.lt_of_le_of_lt (Nat.mul_le_mul (show q1 ≤ 4294967295 by omega) (show y0 ≤ 4294967295 by have := HY0.out; omega)) (by decide)
      have hw3 := w64i ((q1 : Int) * (y0 : Int)) (q1 * y0) (by simp) hmb
      have hw4 := w64i ((4294967296 : Int) * (r1 : Int)) (4294967296 * r1) (by simp) (by simp only [BB]; omega)
      have hw5 := w64i (((4294967296 * r1 : Nat) : Int) + (z1 : Int)) (4294967296 * r1 + z1) (by simp) (by have := HZ1.out; simp only [BB]; omega)
      have hM : Hid (∃ m, m = q1 * y0) := Lib.hid ⟨_, rfl⟩
      obtain ⟨m, hm⟩ := hM.out
      obtain ⟨k, hk⟩ : ∃ k, k = 4294967296 * r1 + z1 := ⟨_, rfl⟩
      obtain ⟨k0, hk0⟩ : ∃ k0, k0 = 4294967296 * r1 := ⟨_, rfl⟩
      rw [← hm] at hw3
      rw [← hk, ← hk0] at hw5
      rw [← hk0] at hw4
      have HM := Lib.hid hm
      have HK := Lib.hid hk
      clear hm hk hk0 hM hmb
      by_cases hc : k < m
      · have HLT := Lib.hid (kn_on X z1 y1 y0 q1 r1 HY0.out HY1.out HX1.out HZ1.out HE1.out (Or.inr (by rw [← HM.out, ← HK.out]; exact hc)))
        have hlt1 : t1 < q1 := by have := HT1.out; have := HLT.out; omega
        have hci : (k : Int) < (m : Int) := by omega
        have hone : 1 ≤ q1 := by omega
        obtain ⟨p1, hp⟩ : ∃ p, p = q1 - 1 := ⟨_, rfl⟩
        obtain ⟨v1, hv⟩ : ∃ v, v = r1 + y1 := ⟨_, rfl⟩
        have HNX := Lib.hid (kn_next X y1 q1 r1 HE1.out hone)
        rw [← hp, ← hv] at HNX
        have hw1 := w64i ((q1 : Int) - 1) p1 (by omega) (by simp only [BB]; omega)
        have hw2 := w64i ((r1 : Int) + (y1 : Int)) v1 (by omega) (by have := HY1b.out; simp only [BB]; omega)
        have HTP : Hid (t1 ≤ p1) := Lib.hid (by have := HT1.out; have := HLT.out; omega)
        have hpb : p1 < 8589934592 := by omega
        have hpq : p1 < q1 := by omega
        have HPV := Lib.hid (And.intro hp hv)
        clear hp hv hone
        by_cases hb : 4294967296 ≤ v1
        · have HEQ := Lib.hid (kn_brk X z1 y1 y0 p1 v1 HY0.out HY1.out HX1.out HNX.out (by have := HT1.out; have := HTP.out; omega) hb)
          have hbi : (4294967296 : Int) ≤ (v1 : Int) := by omega
          obtain rfl : p1 = t1 := by have := HT1.out; have := HEQ.out; omega
          clear hb
          go_wp2_with fail
          go_loopw [18, 16] (fun a b wz => ∃ q r : Nat, a = .int .u64 (q : Int) ∧ b = .int .u64 (r : Int) ∧ q * y1 + r = U ∧ t0 ≤ q ∧ q < 8589934592 ∧ r < 4294967296 ∧ wz = wr) (fun a _ _ => (intOf a).toNat)
          case atStart => exact ⟨qs2, rs2, rfl, rfl, HS2.out.2.1, HS2.out.1, HS2.out.2.2.1, HS2.out.2.2.2, rfl⟩
          case round =>
            obtain ⟨q2, r2, rfl, rfl, he, hle, hqb, hrb, rfl⟩ := hrel
            have HE2 := Lib.hid he
            clear he
            by_cases hq : 4294967296 ≤ q2
            · have HLT := Lib.hid (kn_on U z0 y1 y0 q2 r2 HY0.out HY1.out HX2.out HZ2.out HE2.out (Or.inl hq))
              have hlt1 : t0 < q2 := by have := HT2.out; have := HLT.out; omega
              have hqi : (4294967296 : Int) ≤ (q2 : Int) := by omega
              have hone : 1 ≤ q2 := by omega
              obtain ⟨p2, hp⟩ : ∃ p, p = q2 - 1 := ⟨_, rfl⟩
              obtain ⟨v2, hv⟩ : ∃ v, v = r2 + y1 := ⟨_, rfl⟩
              have HNX := Lib.hid (kn_next U y1 q2 r2 HE2.out hone)
              rw [← hp, ← hv] at HNX
              have hw1 := w64i ((q2 : Int) - 1) p2 (by omega) (by simp only [BB]; omega)
              have hw2 := w64i ((r2 : Int) + (y1 : Int)) v2 (by omega) (by have := HY1b.out; simp only [BB]; omega)
              have HTP : Hid (t0 ≤ p2) := Lib.hid (by have := HT2.out; have := HLT.out; omega)
              have hpb : p2 < 8589934592 := by omega
              have hpq : p2 < q2 := by omega
              have HPV := Lib.hid (And.intro hp hv)
              clear hp hv hone
              by_cases hb : 4294967296 ≤ v2
              · have HEQ := Lib.hid (kn_brk U z0 y1 y0 p2 v2 HY0.out HY1.out HX2.out HNX.out (by have := HT2.out; have := HTP.out; omega) hb)
                have hbi : (4294967296 : Int) ≤ (v2 : Int) := by omega
                obtain rfl : p2 = t0 := by have := HT2.out; have := HEQ.out; omega
                clear hb
                go_wp2_with fail
                go_wp2_with fail
                go_ret2
                exact ⟨by first | rfl | exact congrArg (fun x : Int => Ending.returned (Value.tuple #[Value.int IntKind.u64 x, Value.int IntKind.u64 (Rr : Int)])) HRQ.out | exact congrArg (fun x : Int => Ending.returned (Value.tuple #[Value.int IntKind.u64 x, Value.int IntKind.u64 (Rr : Int)])) HRW.out, rfl⟩
              · have hbi : ¬ (4294967296 : Int) ≤ (v2 : Int) := by omega
                go_wp2_with fail
                exact ⟨⟨p2, v2, rfl, rfl, HNX.out, HTP.out, hpb, by omega, by first | trivial | rfl⟩, by simp [intOf] <;> omega⟩
            · have hqi : ¬ (4294967296 : Int) ≤ (q2 : Int) := by omega
              have hmb : q2 * y0 < BB := Nat.lt_of_le_of_lt (Nat.mul_le_mul (show q2 ≤ 4294967295 by omega) (show y0 ≤ 4294967295 by have := HY0.out; omega)) (by decide)
              have hw3 := w64i ((q2 : Int) * (y0 : Int)) (q2 * y0) (by simp) hmb
              have hw4 := w64i ((4294967296 : Int) * (r2 : Int)) (4294967296 * r2) (by simp) (by simp only [BB]; omega)
              have hw5 := w64i (((4294967296 * r2 : Nat) : Int) + (z0 : Int)) (4294967296 * r2 + z0) (by simp) (by have := HZ2.out; simp only [BB]; omega)
              have hM : Hid (∃ m, m = q2 * y0) := Lib.hid ⟨_, rfl⟩
              obtain ⟨m, hm⟩ := hM.out
              obtain ⟨k, hk⟩ : ∃ k, k = 4294967296 * r2 + z0 := ⟨_, rfl⟩
              obtain ⟨k0, hk0⟩ : ∃ k0, k0 = 4294967296 * r2 := ⟨_, rfl⟩
              rw [← hm] at hw3
              rw [← hk, ← hk0] at hw5
              rw [← hk0] at hw4
              have HM := Lib.hid hm
              have HK := Lib.hid hk
              clear hm hk hk0 hM hmb
              by_cases hc : k < m
              · have HLT := Lib.hid (kn_on U z0 y1 y0 q2 r2 HY0.out HY1.out HX2.out HZ2.out HE2.out (Or.inr (by rw [← HM.out, ← HK.out]; exact hc)))
                have hlt1 : t0 < q2 := by have := HT2.out; have := HLT.out; omega
                have hci : (k : Int) < (m : Int) := by omega
                have hone : 1 ≤ q2 := by omega
                obtain ⟨p2, hp⟩ : ∃ p, p = q2 - 1 := ⟨_, rfl⟩
                obtain ⟨v2, hv⟩ : ∃ v, v = r2 + y1 := ⟨_, rfl⟩
                have HNX := Lib.hid (kn_next U y1 q2 r2 HE2.out hone)
                rw [← hp, ← hv] at HNX
                have hw1 := w64i ((q2 : Int) - 1) p2 (by omega) (by simp only [BB]; omega)
                have hw2 := w64i ((r2 : Int) + (y1 : Int)) v2 (by omega) (by have := HY1b.out; simp only [BB]; omega)
                have HTP : Hid (t0 ≤ p2) := Lib.hid (by have := HT2.out; have := HLT.out; omega)
                have hpb : p2 < 8589934592 := by omega
                have hpq : p2 < q2 := by omega
                have HPV := Lib.hid (And.intro hp hv)
                clear hp hv hone
                by_cases hb : 4294967296 ≤ v2
                · have HEQ := Lib.hid (kn_brk U z0 y1 y0 p2 v2 HY0.out HY1.out HX2.out HNX.out (by have := HT2.out; have := HTP.out; omega) hb)
                  have hbi : (4294967296 : Int) ≤ (v2 : Int) := by omega
                  obtain rfl : p2 = t0 := by have := HT2.out; have := HEQ.out; omega
                  clear hb
                  go_wp2_with fail
                  go_wp2_with fail
                  go_ret2
                  exact ⟨by first | rfl | exact congrArg (fun x : Int => Ending.returned (Value.tuple #[Value.int IntKind.u64 x, Value.int IntKind.u64 (Rr : Int)])) HRQ.out | exact congrArg (fun x : Int => Ending.returned (Value.tuple #[Value.int IntKind.u64 x, Value.int IntKind.u64 (Rr : Int)])) HRW.out, rfl⟩
                · have hbi : ¬ (4294967296 : Int) ≤ (v2 : Int) := by omega
                  go_wp2_with fail
                  exact ⟨⟨p2, v2, rfl, rfl, HNX.out, HTP.out, hpb, by omega, by first | trivial | rfl⟩, by simp [intOf] <;> omega⟩
              · have HEQ := Lib.hid (kn_off U z0 y1 y0 q2 r2 HY0.out HY1.out HE2.out (by have := HT2.out; omega) (by rw [← HM.out, ← HK.out]; omega))
                have hci : ¬ (k : Int) < (m : Int) := by omega
                obtain rfl : q2 = t0 := by have := HT2.out; have := HEQ.out; omega
                go_wp2_with fail
                go_wp2_with fail
                go_ret2
                exact ⟨by first | rfl | exact congrArg (fun x : Int => Ending.returned (Value.tuple #[Value.int IntKind.u64 x, Value.int IntKind.u64 (Rr : Int)])) HRQ.out | exact congrArg (fun x : Int => Ending.returned (Value.tuple #[Value.int IntKind.u64 x, Value.int IntKind.u64 (Rr : Int)])) HRW.out, rfl⟩
        · have hbi : ¬ (4294967296 : Int) ≤ (v1 : Int) := by omega
          go_wp2_with fail
          exact ⟨⟨p1, v1, rfl, rfl, HNX.out, HTP.out, hpb, by omega, by first | trivial | rfl⟩, by simp [intOf] <;> omega⟩
      · have HEQ := Lib.hid (kn_off X z1 y1 y0 q1 r1 HY0.out HY1.out HE1.out (by have := HT1.out; omega) (by rw [← HM.out, ← HK.out]; omega))
        have hci : ¬ (k : Int) < (m : Int) := by omega
        obtain rfl : q1 = t1 := by have := HT1.out; have := HEQ.out; omega
        go_wp2_with fail
        go_loopw [18, 16] (fun a b wz => ∃ q r : Nat, a = .int .u64 (q : Int) ∧ b = .int .u64 (r : Int) ∧ q * y1 + r = U ∧ t0 ≤ q ∧ q < 8589934592 ∧ r < 4294967296 ∧ wz = wr) (fun a _ _ => (intOf a).toNat)
        case atStart => exact ⟨qs2, rs2, rfl, rfl, HS2.out.2.1, HS2.out.1, HS2.out.2.2.1, HS2.out.2.2.2, rfl⟩
        case round =>
          obtain ⟨q2, r2, rfl, rfl, he, hle, hqb, hrb, rfl⟩ := hrel
          have HE2 := Lib.hid he
          clear he
          by_cases hq : 4294967296 ≤ q2
          · have HLT := Lib.hid (kn_on U z0 y1 y0 q2 r2 HY0.out HY1.out HX2.out HZ2.out HE2.out (Or.inl hq))
            have hlt1 : t0 < q2 := by have := HT2.out; have := HLT.out; omega
            have hqi : (4294967296 : Int) ≤ (q2 : Int) := by omega
            have hone : 1 ≤ q2 := by omega
            obtain ⟨p2, hp⟩ : ∃ p, p = q2 - 1 := ⟨_, rfl⟩
            obtain ⟨v2, hv⟩ : ∃ v, v = r2 + y1 := ⟨_, rfl⟩
            have HNX := Lib.hid (kn_next U y1 q2 r2 HE2.out hone)
            rw [← hp, ← hv] at HNX
            have hw1 := w64i ((q2 : Int) - 1) p2 (by omega) (by simp only [BB]; omega)
            have hw2 := w64i ((r2 : Int) + (y1 : Int)) v2 (by omega) (by have := HY1b.out; simp only [BB]; omega)
            have HTP : Hid (t0 ≤ p2) := Lib.hid (by have := HT2.out; have := HLT.out; omega)
            have hpb : p2 < 8589934592 := by omega
            have hpq : p2 < q2 := by omega
            have HPV := Lib.hid (And.intro hp hv)
            clear hp hv hone
            by_cases hb : 4294967296 ≤ v2
            · have HEQ := Lib.hid (kn_brk U z0 y1 y0 p2 v2 HY0.out HY1.out HX2.out HNX.out (by have := HT2.out; have := HTP.out; omega) hb)
              have hbi : (4294967296 : Int) ≤ (v2 : Int) := by omega
              obtain rfl : p2 = t0 := by have := HT2.out; have := HEQ.out; omega
              clear hb
              go_wp2_with fail
              go_wp2_with fail
              go_ret2
              exact ⟨by first | rfl | exact congrArg (fun x : Int => Ending.returned (Value.tuple #[Value.int IntKind.u64 x, Value.int IntKind.u64 (Rr : Int)])) HRQ.out | exact congrArg (fun x : Int => Ending.returned (Value.tuple #[Value.int IntKind.u64 x, Value.int IntKind.u64 (Rr : Int)])) HRW.out, rfl⟩
            · have hbi : ¬ (4294967296 : Int) ≤ (v2 : Int) := by omega
              go_wp2_with fail
              exact ⟨⟨p2, v2, rfl, rfl, HNX.out, HTP.out, hpb, by omega, by first | trivial | rfl⟩, by simp [intOf] <;> omega⟩
          · have hqi : ¬ (4294967296 : Int) ≤ (q2 : Int) := by omega
            have hmb : q2 * y0 < BB := Nat.lt_of_le_of_lt (Nat.mul_le_mul (show q2 ≤ 4294967295 by omega) (show y0 ≤ 4294967295 by have := HY0.out; omega)) (by decide)
            have hw3 := w64i ((q2 : Int) * (y0 : Int)) (q2 * y0) (by simp) hmb
            have hw4 := w64i ((4294967296 : Int) * (r2 : Int)) (4294967296 * r2) (by simp) (by simp only [BB]; omega)
            have hw5 := w64i (((4294967296 * r2 : Nat) : Int) + (z0 : Int)) (4294967296 * r2 + z0) (by simp) (by have := HZ2.out; simp only [BB]; omega)
            have hM : Hid (∃ m, m = q2 * y0) := Lib.hid ⟨_, rfl⟩
            obtain ⟨m, hm⟩ := hM.out
            obtain ⟨k, hk⟩ : ∃ k, k = 4294967296 * r2 + z0 := ⟨_, rfl⟩
            obtain ⟨k0, hk0⟩ : ∃ k0, k0 = 4294967296 * r2 := ⟨_, rfl⟩
            rw [← hm] at hw3
            rw [← hk, ← hk0] at hw5
            rw [← hk0] at hw4
            have HM := Lib.hid hm
            have HK := Lib.hid hk
            clear hm hk hk0 hM hmb
            by_cases hc : k < m
            · have HLT := Lib.hid (kn_on U z0 y1 y0 q2 r2 HY0.out HY1.out HX2.out HZ2.out HE2.out (Or.inr (by rw [← HM.out, ← HK.out]; exact hc)))
              have hlt1 : t0 < q2 := by have := HT2.out; have := HLT.out; omega
              have hci : (k : Int) < (m : Int) := by omega
              have hone : 1 ≤ q2 := by omega
              obtain ⟨p2, hp⟩ : ∃ p, p = q2 - 1 := ⟨_, rfl⟩
              obtain ⟨v2, hv⟩ : ∃ v, v = r2 + y1 := ⟨_, rfl⟩
              have HNX := Lib.hid (kn_next U y1 q2 r2 HE2.out hone)
              rw [← hp, ← hv] at HNX
              have hw1 := w64i ((q2 : Int) - 1) p2 (by omega) (by simp only [BB]; omega)
              have hw2 := w64i ((r2 : Int) + (y1 : Int)) v2 (by omega) (by have := HY1b.out; simp only [BB]; omega)
              have HTP : Hid (t0 ≤ p2) := Lib.hid (by have := HT2.out; have := HLT.out; omega)
              have hpb : p2 < 8589934592 := by omega
              have hpq : p2 < q2 := by omega
              have HPV := Lib.hid (And.intro hp hv)
              clear hp hv hone
              by_cases hb : 4294967296 ≤ v2
              · have HEQ := Lib.hid (kn_brk U z0 y1 y0 p2 v2 HY0.out HY1.out HX2.out HNX.out (by have := HT2.out; have := HTP.out; omega) hb)
                have hbi : (4294967296 : Int) ≤ (v2 : Int) := by omega
                obtain rfl : p2 = t0 := by have := HT2.out; have := HEQ.out; omega
                clear hb
                go_wp2_with fail
                go_wp2_with fail
                go_ret2
                exact ⟨by first | rfl | exact congrArg (fun x : Int => Ending.returned (Value.tuple #[Value.int IntKind.u64 x, Value.int IntKind.u64 (Rr : Int)])) HRQ.out | exact congrArg (fun x : Int => Ending.returned (Value.tuple #[Value.int IntKind.u64 x, Value.int IntKind.u64 (Rr : Int)])) HRW.out, rfl⟩
              · have hbi : ¬ (4294967296 : Int) ≤ (v2 : Int) := by omega
                go_wp2_with fail
                exact ⟨⟨p2, v2, rfl, rfl, HNX.out, HTP.out, hpb, by omega, by first | trivial | rfl⟩, by simp [intOf] <;> omega⟩
            · have HEQ := Lib.hid (kn_off U z0 y1 y0 q2 r2 HY0.out HY1.out HE2.out (by have := HT2.out; omega) (by rw [← HM.out, ← HK.out]; omega))
              have hci : ¬ (k : Int) < (m : Int) := by omega
              obtain rfl : q2 = t0 := by have := HT2.out; have := HEQ.out; omega
              go_wp2_with fail
              go_wp2_with fail
              go_ret2
              exact ⟨by first | rfl | exact congrArg (fun x : Int => Ending.returned (Value.tuple #[Value.int IntKind.u64 x, Value.int IntKind.u64 (Rr : Int)])) HRQ.out | exact congrArg (fun x : Int => Ending.returned (Value.tuple #[Value.int IntKind.u64 x, Value.int IntKind.u64 (Rr : Int)])) HRW.out, rfl⟩

set_option maxRecDepth 100000 in
set_option maxHeartbeats 1600000 in
theorem dv_0 (lo y : Nat) (w : World) (h0 : 0 < y) (hyb : y < BB) (hlb : lo < BB) :
    Calls Tryd.prog 92 #[.int .u64 0, .int .u64 lo, .int .u64 y] w fun r w' => r = .returned (.tuple #[.int .u64 ((lo / y : Nat) : Int), .int .u64 ((lo % y : Nat) : Int)]) ∧ ∃ n, w' = w.drewN n := by
  have hy : ¬ ((y : Nat) : Int) = 0 := by omega
  have hb1 : (((y : Nat) : Int) == 0) = false := by simpa using hy
  have hle : ¬ y ≤ 0 := by omega
  have hlei : ¬ (y : Int) ≤ 0 := by omega
  have HQ := Lib.hid (show ((lo / y : Nat) : Int) = (lo : Int) / (y : Int) from by push_cast; rfl)
  have HR := Lib.hid (show ((lo % y : Nat) : Int) = (lo : Int) % (y : Int) from by push_cast; rfl)
  have hq := w64i ((lo : Int) / (y : Int)) (lo / y) (by rw [HQ.out]) (Nat.lt_of_le_of_lt (Nat.div_le_self _ _) hlb)
  have hr := w64i ((lo : Int) % (y : Int)) (lo % y) (by rw [HR.out]) (Nat.lt_of_le_of_lt (Nat.mod_le _ _) hlb)
  go_enter Tryd.func92, Tryd.ntmps92
  go_wp2_with fail
  go_quiet (fail)
  go_wp2_with fail
  go_ret2
  exact ⟨by first | rfl | (rw [HQ.out, HR.out]; rfl), nq, rfl⟩

end Go.Proofs.YtnmifeiokhpcfaaDoor.re

namespace Go.Proofs.YtnmifeiokhpcfaaDoor.re
open Go.RowKit
set_option linter.unusedVariables false

theorem nc_mul (a b : Nat) : ((a : Int) * (b : Int)) = ((a * b : Nat) : Int) := by simp

theorem nc_div (a b : Nat) : ((a : Int) / (b : Int)) = ((a / b : Nat) : Int) := by simp

theorem rem_run (X y1 : Nat) (h : X < BB) : IntKind.u64.wrap ((X : Int) - IntKind.u64.wrap (((X / y1 : Nat) : Int) * (y1 : Int))) = ((X % y1 : Nat) : Int) := by
  have e := Nat.div_add_mod' X y1
  rw [nc_mul, w64i ((X / y1 * y1 : Nat) : Int) (X / y1 * y1) rfl (by omega)]
  exact w64i _ _ (by omega) (by omega)

/-- n - q * Y mod 2^64, where the difference fits -/
theorem sub_run (X z t Y u : Nat) (hz : z < 4294967296) (h : X * 4294967296 + z = t * Y + u) (hu : u < BB) :
    IntKind.u64.wrap (IntKind.u64.wrap (IntKind.u64.wrap ((X : Int) * 4294967296) + (z : Int)) - IntKind.u64.wrap ((t : Int) * (Y : Int))) = (u : Int) := by
  rw [nc_mul t Y]
  simp only [IntKind.wrap_u64]
  generalize t * Y = p at *
  simp only [BB] at hu
  omega

set_option maxRecDepth 100000 in
theorem dv_go (hi lo y L s Y : Nat) (w : World) (h0 : 0 < hi) (hh : hi < y) (hyb : y < BB) (hlb : lo < BB) (hL : Lib.bitLen y = L) (hs : s + L = 64) (hs2 : s < 64) (hY : y * 2 ^ s = Y) (hY1 : 9223372036854775808 ≤ Y) (hY2 : Y < BB) :
    Calls Tryd.prog 92 #[.int .u64 hi, .int .u64 lo, .int .u64 y] w fun r w' => r = .returned (.tuple #[.int .u64 (((hi * BB + lo) / y : Nat) : Int), .int .u64 (((hi * BB + lo) % y : Nat) : Int)]) ∧ w' = w := by
  obtain ⟨k1, k2, k3⟩ := kn_shift hi lo y s hs2 hh (by rw [hY]; exact hY2) hlb
  rw [hY] at k1
  have hp := Nat.pow_pos (n := s) (a := 2) (by decide)
  have hor := kn_or hi lo s hs2 k3 (Nat.lt_trans k1 hY2)
  have heZ : IntKind.u64.wrap ((lo : Int) * 2 ^ s) = ((lo * 2 ^ s % BB : Nat) : Int) := by
    rw [IntKind.wrap_u64, Int.natCast_emod, Int.natCast_mul, Int.natCast_pow]
    rfl
  have heY : IntKind.u64.wrap ((y : Int) * 2 ^ s) = (Y : Int) := w64i _ _ (by rw [← hY, Int.natCast_mul, Int.natCast_pow]; rfl) hY2
  have hZb : lo * 2 ^ s % BB < BB := Nat.mod_lt _ (by decide)
  have hyq : (hi * BB + lo) / y = (hi * BB + lo) * 2 ^ s / Y ∧ (hi * BB + lo) % y * 2 ^ s = (hi * BB + lo) * 2 ^ s % Y := by
    rw [← hY, Nat.mul_mod_mul_right, Nat.mul_div_mul_right _ _ hp]
    exact ⟨rfl, rfl⟩
  obtain ⟨X, hX⟩ : ∃ X, X = hi * 2 ^ s + lo / 2 ^ (64 - s) := ⟨_, rfl⟩
  obtain ⟨Z, hZ⟩ : ∃ Z, Z = lo * 2 ^ s % BB := ⟨_, rfl⟩
  rw [← hX] at k1 k2 hor
  rw [← hZ] at k2 heZ hZb
  obtain ⟨N, hN⟩ : ∃ N, N = hi * BB + lo := ⟨_, rfl⟩
  rw [← hN] at k2 hyq ⊢
  rw [← k2] at hyq
  have HYQ := Lib.hid hyq
  clear hX hZ hN k3 k2 hyq
  obtain ⟨y1, e1⟩ : ∃ y1, y1 = Y / 4294967296 := ⟨_, rfl⟩
  obtain ⟨y0, e0⟩ : ∃ y0, y0 = Y % 4294967296 := ⟨_, rfl⟩
  obtain ⟨z1, f1⟩ : ∃ z1, z1 = Z / 4294967296 := ⟨_, rfl⟩
  obtain ⟨z0, f0⟩ : ∃ z0, z0 = Z % 4294967296 := ⟨_, rfl⟩
  have eYY : y1 * 4294967296 + y0 = Y := by omega
  have eZZ : Z = z1 * 4294967296 + z0 := by omega
  have hXb : X < BB := Nat.lt_trans k1 hY2
  have HXB := Lib.hid hXb
  have HYB := Lib.hid hY2
  have HZB := Lib.hid hZb
  simp only [BB] at hY2 hZb hXb
  have HALL := Lib.hid (kn_all X Z z1 z0 Y (by omega) k1 eZZ (by omega))
  have a1 := kn_start X z1 y1 y0 (by omega) (by omega)
  have a2 := kn_qb X y1 (by omega) HXB.out
  have a3 := Nat.div_add_mod' (X * 4294967296 + z1) Y
  have a4 := Nat.mod_lt (X * 4294967296 + z1) (show 0 < Y by omega)
  have a5 := kn_tq X z1 y1 y0 (by omega) (by omega)
  rw [eYY] at a1 a5
  obtain ⟨t1, g1⟩ : ∃ t1, t1 = (X * 4294967296 + z1) / Y := ⟨_, rfl⟩
  obtain ⟨U, gU⟩ : ∃ U, U = (X * 4294967296 + z1) % Y := ⟨_, rfl⟩
  rw [← g1] at a1 a3 a5 HALL
  rw [← gU] at a3 a4 HALL
  have b1 := kn_start U z0 y1 y0 (by omega) (by omega)
  have HUB := Lib.hid (Nat.lt_trans a4 HYB.out)
  have b2 := kn_qb U y1 (by omega) HUB.out
  have b3 := Nat.div_add_mod' (U * 4294967296 + z0) Y
  have b4 := Nat.mod_lt (U * 4294967296 + z0) (show 0 < Y by omega)
  have b5 := kn_tq U z0 y1 y0 (by omega) (by omega)
  rw [eYY] at b1 b5
  obtain ⟨t0, g0⟩ : ∃ t0, t0 = (U * 4294967296 + z0) / Y := ⟨_, rfl⟩
  obtain ⟨R, gR⟩ : ∃ R, R = (U * 4294967296 + z0) % Y := ⟨_, rfl⟩
  rw [← g0] at b1 b3 b5 HALL
  rw [← gR] at b3 b4 HALL
  rw [HALL.out.1, HALL.out.2] at HYQ
  have hrq : (R : Int) / 2 ^ s = ((N % y : Nat) : Int) := by
    rw [← HYQ.out.2, Int.natCast_mul, Int.natCast_pow]
    exact Int.mul_ediv_cancel _ (by have h := Int.ofNat_lt.2 hp; rw [Int.natCast_pow] at h; exact Int.ne_of_gt h)
  rw [HYQ.out.1]
  exact dv_t hi lo y s Y y1 y0 X Z z1 z0 (X / y1) (X % y1) t1 U (U / y1) (U % y1) t0 L (t1 * 4294967296 + t0) R (N % y) w (by omega) (by omega) (by omega) (by simp; omega) (by simp; omega) hyb (Lib.hid hL) (by omega) hs2
    heY (by omega) (by rw [kn_and Y HYB.out, e0]) hor heZ (by omega) (by rw [kn_and Z HZB.out, f0]) (by omega)
    (w64i _ _ (nc_div X y1) (Nat.lt_trans a2 (by decide))) (rem_run X y1 HXB.out)
    (Lib.hid (by omega)) (Lib.hid (by omega)) (Lib.hid (by omega)) (Lib.hid (by omega)) (Lib.hid (by omega))
    (Lib.hid (by rw [eYY, g1])) (Lib.hid ⟨a1.1, a1.2.1, a2, by omega⟩)
    (sub_run X z1 t1 Y U (by omega) a3.symm HUB.out) (w64i _ _ (nc_div U y1) (Nat.lt_trans b2 (by decide))) (rem_run U y1 HUB.out)
    (Lib.hid (by omega)) (Lib.hid (by omega)) (Lib.hid (by rw [eYY, g0])) (Lib.hid ⟨b1.1, b1.2.1, b2, by omega⟩)
    (by simp only [IntKind.wrap_u64]; omega) (sub_run U z0 t0 Y R (by omega) b3.symm (Nat.lt_trans b4 HYB.out)) hrq (Lib.hid (by omega)) (Lib.hid (by simp only [IntKind.wrap_u64]; omega))

theorem divOk (d : Nat) (h0 : 0 < d) (hd : d < BB) : DivOk d := by
  intro hi lo w hh hl
  by_cases hz : hi = 0
  · subst hz
    have := dv_0 lo d w h0 hd hl
    simpa using this
  · obtain ⟨n, hn⟩ : ∃ n, Lib.bitLen d = n := ⟨_, rfl⟩
    have hb := Lib.bitLenAux_bounds 64 d hd (by omega)
    have hL := Lib.bitLen_le d 64 (by omega) hd
    change 1 ≤ Lib.bitLen d ∧ 2 ^ (Lib.bitLen d - 1) ≤ d ∧ d < 2 ^ Lib.bitLen d at hb
    rw [hn] at hb hL
    obtain ⟨c1, c2, c3⟩ := hb
    have e1 : 9223372036854775808 ≤ d * 2 ^ (64 - n) := by
      have := Nat.mul_le_mul_right (2 ^ (64 - n)) c2
      rw [← Nat.pow_add, show n - 1 + (64 - n) = 63 from by omega] at this
      exact this
    have e2 : d * 2 ^ (64 - n) < BB := by
      have := Nat.mul_lt_mul_of_pos_right c3 (Nat.pow_pos (n := 64 - n) (a := 2) (by decide))
      rw [← Nat.pow_add, show n + (64 - n) = 64 from by omega] at this
      exact this
    exact (dv_go hi lo d n (64 - n) _ w (by omega) hh hd hl hn (by omega) (by omega) rfl e1 e2).mono fun e w' h => ⟨h.1, 0, by rw [h.2]; rfl⟩

end Go.Proofs.YtnmifeiokhpcfaaDoor.re
