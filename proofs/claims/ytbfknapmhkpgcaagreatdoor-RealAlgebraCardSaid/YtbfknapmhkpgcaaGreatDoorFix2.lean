/-
  PACKAGE real, fixed point: how many bits; whether there are any.
-/
import Derived.Test.YtbfknapmhkpgcaaGreatDoorFix1

namespace Go.Proofs.YtbfknapmhkpgcaaGreatDoor
open Go.RowKit
set_option linter.unusedVariables false

/-- how many bits V % BB ^ k has -/
def blR (V : Nat) : Nat → Nat
  | 0 => 0
  | k + 1 => if dg V k = 0 then blR V k else 64 * k + Lib.bitLen (dg V k)

theorem dg_top {V k : Nat} (h : V < BB ^ (k + 1)) : dg V k = V / BB ^ k := by
  unfold dg
  apply Nat.mod_eq_of_lt
  rw [Nat.div_lt_iff_lt_mul (bbpos k)]
  rw [Nat.pow_succ, Nat.mul_comm] at h
  exact h

theorem bb_pow (k : Nat) : BB ^ k = 2 ^ (64 * k) := by
  rw [Nat.pow_mul]

theorem blR_bd : ∀ (n V : Nat), V < BB ^ n → (V = 0 → blR V n = 0) ∧ (V ≠ 0 → 1 ≤ blR V n ∧ blR V n ≤ 64 * n ∧ 2 ^ (blR V n - 1) ≤ V ∧ V < 2 ^ blR V n)
  | 0, V, h => by
    have : V = 0 := by simpa using h
    exact ⟨fun _ => rfl, fun h => absurd this h⟩
  | k + 1, V, h => by
    have ht := dg_top h
    by_cases hz : dg V k = 0
    · have e : blR V (k + 1) = blR V k := by rw [blR, if_pos hz]
      have hlt : V < BB ^ k := by
        rw [ht] at hz
        exact (Nat.div_eq_zero_iff_lt (bbpos k)).1 hz
      rw [e]
      obtain ⟨h1, h2⟩ := blR_bd k V hlt
      exact ⟨h1, fun h => by have := h2 h; exact ⟨this.1, by omega, this.2.2⟩⟩
    · have e : blR V (k + 1) = 64 * k + Lib.bitLen (dg V k) := by rw [blR, if_neg hz]
      have hb := Lib.bitLenAux_bounds 64 (dg V k) (dg_lt V k) hz
      have hL := Lib.bitLen_le (dg V k) 64 (by omega) (dg_lt V k)
      change 1 ≤ Lib.bitLen (dg V k) ∧ 2 ^ (Lib.bitLen (dg V k) - 1) ≤ dg V k ∧ dg V k < 2 ^ Lib.bitLen (dg V k) at hb
      rw [e]
      generalize Lib.bitLen (dg V k) = L at *
      obtain ⟨b1, b2, b3⟩ := hb
      rw [ht] at b2 b3 hz
      have hV : V ≠ 0 := fun q => hz (by rw [q, Nat.zero_div])
      refine ⟨fun q => absurd q hV, fun _ => ⟨by omega, by omega, ?_, ?_⟩⟩
      · have e2 : 64 * k + L - 1 = 64 * k + (L - 1) := by omega
        rw [e2, Nat.pow_add, ← bb_pow]
        have := Nat.mul_le_mul_left (BB ^ k) b2
        exact Nat.le_trans this (Nat.mul_div_le _ _)
      · rw [Nat.pow_add, ← bb_pow, Nat.mul_comm]
        exact (Nat.div_lt_iff_lt_mul (bbpos k)).1 b3

theorem blR_le (n V : Nat) : blR V n ≤ 64 * n := by
  induction n with
  | zero => simp [blR]
  | succ k ih =>
    unfold blR
    split
    · omega
    · have hL := Lib.bitLen_le (dg V k) 64 (by omega) (dg_lt V k)
      omega

set_option maxRecDepth 100000 in
set_option maxHeartbeats 1600000 in
theorem bl_any (b o n cap V : Nat) (w : World) (hn : n ≤ 7) (hD : Dig w b o n V) :
    Calls Tryz.prog 127 #[.slice (some ⟨b, o, none⟩) n cap] w fun r w' => r = .returned (.int .i64 (blR V n : Int)) ∧ w' = w := by
  have HD := Lib.hid hD
  clear hD
  have hn3 : (n : Int) ≤ 7 := by omega
  go_enter Tryz.func127, Tryz.ntmps127
  go_wp2_with fail
  go_loopw [3] (fun i wr => ∃ (k : Nat) (x : Int), k ≤ n ∧ i = .int .i64 x ∧ x = (k : Int) - 1 ∧ blR V n = blR V k ∧ wr = w) (fun i _ => (intOf i + 1).toNat)
  case atStart => exact ⟨n, _, Nat.le_refl _, rfl, rfl, rfl, rfl⟩
  case round =>
    obtain ⟨k, x, hk, rfl, hx, hb, rfl⟩ := hrel
    have HB := Lib.hid hb
    clear hb
    rcases k with _ | j
    · obtain rfl : x = -1 := by omega
      clear hx
      go_wp2_with fail
      go_ret
      exact ⟨congrArg (fun x : Nat => Ending.returned (Value.int IntKind.i64 (x : Int))) (show 0 = blR V n from by rw [HB.out]; rfl), rfl⟩
    · obtain rfl : x = (j : Int) := by omega
      clear hx
      have hjn : j < n := by omega
      obtain ⟨hcell, hfr⟩ := HD.out j hjn
      have hj2 : (j : Int) < (n : Int) := by omega
      have HL := Lib.hid (Lib.bitLen_le (dg V j) 64 (by omega) (dg_lt V j))
      by_cases hz : dg V j = 0
      · rw [hz] at hcell
        have HB2 : Hid (blR V n = blR V j) := Lib.hid (by rw [HB.out, blR, if_pos hz])
        clear hz
        go_wp2_with fail
        exact ⟨⟨j, _, by omega, rfl, rfl, HB2.out, by first | trivial | rfl⟩, by simp [intOf]⟩
      · have HB2 : Hid (blR V n = 64 * j + Lib.bitLen (dg V j)) := Lib.hid (by rw [HB.out, blR, if_neg hz])
        have hz2 : ¬ ((dg V j : Nat) : Int) = 0 := by omega
        have hz3 : (((dg V j : Nat) : Int) != 0) = true := by simpa using hz
        have HBL := Lib.hid (fun w => Tryz.bits_Len64 (dg V j : Int) w (by omega) (by have := dg_lt V j; omega))
        have hL2 := HL.out
        simp only [Int.toNat_natCast] at HBL
        generalize Lib.bitLen (dg V j) = L at *
        generalize dg V j = a at *
        go_wp2_with fail
        refine (HBL.out _).mono ?_
        rintro r w1 ⟨rfl, rfl⟩
        go_wp2_with fail
        go_ret
        exact ⟨congrArg (fun x : Int => Ending.returned (Value.int IntKind.i64 x)) (show (64 * (j : Int) + (L : Int)) = (blR V n : Int) from by rw [HB2.out]; simp), rfl⟩

theorem dg_mod (V n : Nat) : ∀ i, i < n → dg (V % BB ^ n) i = dg V i := by
  intro i hi
  obtain ⟨d, rfl⟩ : ∃ d, n = i + 1 + d := ⟨n - i - 1, by omega⟩
  unfold dg
  rw [Nat.pow_add, Nat.mod_mul, Nat.pow_succ, Nat.mod_mul]
  have h1 : (V % BB ^ i + BB ^ i * (V / BB ^ i % BB) + BB ^ i * BB * (V / (BB ^ i * BB) % BB ^ d)) / BB ^ i = V / BB ^ i % BB + BB * (V / (BB ^ i * BB) % BB ^ d) := by
    rw [Nat.mul_assoc, Nat.add_assoc, ← Nat.mul_add, Nat.add_mul_div_left _ _ (bbpos i), Nat.div_eq_of_lt (Nat.mod_lt _ (bbpos i)), Nat.zero_add]
  rw [h1, Nat.add_mul_mod_self_left, Nat.mod_mod]

theorem blR_mod (V n : Nat) : ∀ k, k ≤ n → blR (V % BB ^ n) k = blR V k
  | 0, _ => rfl
  | k + 1, h => by
    unfold blR
    rw [dg_mod V n k (by omega), blR_mod V n k (by omega)]

theorem blR_zero (V n : Nat) : (0 < blR V n) ↔ V % BB ^ n ≠ 0 := by
  have h := blR_bd n (V % BB ^ n) (Nat.mod_lt _ (bbpos n))
  rw [blR_mod V n n (Nat.le_refl _)] at h
  constructor
  · intro k q
    have := h.1 q
    omega
  · intro q
    have := h.2 q
    omega

set_option maxRecDepth 100000 in
set_option maxHeartbeats 1600000 in
theorem any_any (b o n cap V : Nat) (w : World) (hn : n ≤ 7) (hD : Dig w b o n V) :
    Calls Tryz.prog 128 #[.slice (some ⟨b, o, none⟩) n cap] w fun r w' => r = .returned (.bool (decide (V % BB ^ n ≠ 0))) ∧ w' = w := by
  have HB := Lib.hid (fun w hD => bl_any b o n cap V w hn hD)
  have HD := Lib.hid hD
  have HZ := Lib.hid (show decide (V % BB ^ n ≠ 0) = decide (0 < blR V n) from by rw [decide_eq_decide, ← blR_zero])
  clear hD
  generalize blR V n = t at *
  go_enter Tryz.func128, Tryz.ntmps128
  go_wp2_with fail
  refine (HB.out _ HD.out).mono ?_
  rintro r w1 ⟨rfl, rfl⟩
  go_wp2_with fail
  go_ret
  exact ⟨congrArg (fun x : Bool => Ending.returned (Value.bool x)) HZ.out.symm, rfl⟩

end Go.Proofs.YtbfknapmhkpgcaaGreatDoor
