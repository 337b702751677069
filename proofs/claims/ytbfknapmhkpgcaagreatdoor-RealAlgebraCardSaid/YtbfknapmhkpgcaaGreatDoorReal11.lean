/-
  PACKAGE real: rounding, as numbers; rounded at any mantissa and exponent.
-/
import Derived.Test.YtbfknapmhkpgcaaGreatDoorReal10
import Derived.Lib.ItoaNum

namespace Go.Proofs.YtbfknapmhkpgcaaGreatDoor
open Go.RowKit
set_option linter.unusedVariables false

theorem bl_bd (a : Int) (h1 : 0 < a) (h2 : a ≤ 9223372036854775808) : 1 ≤ Lib.bitLen a.toNat ∧ Lib.bitLen a.toNat ≤ 64 ∧ (2 : Int) ^ (Lib.bitLen a.toNat - 1) ≤ a ∧ a < 2 ^ (Lib.bitLen a.toNat) := by
  obtain ⟨n, rfl⟩ : ∃ n : Nat, a = n := ⟨a.toNat, by omega⟩
  have h := Lib.bitLenAux_bounds 64 n (by omega) (by omega)
  simp only [Int.toNat_natCast]
  refine ⟨h.1, Lib.bitLen_le n 64 (by omega) (by omega), ?_, ?_⟩
  · exact_mod_cast h.2.1
  · exact_mod_cast h.2.2

theorem pow_mono (i j : Nat) (h : i ≤ j) : (2 : Int) ^ i ≤ 2 ^ j := by
  have := Int.ofNat_le.2 (Nat.pow_le_pow_right (n := 2) (by omega) h)
  exact_mod_cast this

theorem pow_pos (i : Nat) : (0 : Int) < 2 ^ i := by
  have := Int.ofNat_lt.2 (Nat.pow_pos (n := i) (show 0 < 2 by omega))
  exact_mod_cast this

theorem quo_lt (a : Int) (k L : Nat) (hL : a < 2 ^ L) (hk : L ≤ k + 24) : a / 2 ^ k < 16777216 := by
  apply Int.ediv_lt_of_lt_mul (pow_pos k)
  have h := pow_mono L (k + 24) hk
  rw [Int.pow_add] at h
  omega

theorem cutV_bd (a : Int) (k L : Nat) (h0 : 0 ≤ a) (hL : a < 2 ^ L) (hk : L ≤ k + 24) : 0 ≤ cutV a k ∧ cutV a k ≤ 16777216 := by
  have h1 := quo_lt a k L hL hk
  have h2 : 0 ≤ a / 2 ^ k := Int.ediv_nonneg h0 (Int.le_of_lt (pow_pos k))
  unfold cutV
  split <;> omega

theorem shl_bd (a : Int) (j L : Nat) (h0 : 0 ≤ a) (hL : a < 2 ^ L) (hk : L + j ≤ 24) : 0 ≤ a * 2 ^ j ∧ a * 2 ^ j ≤ 16777216 := by
  refine ⟨Int.mul_nonneg h0 (Int.le_of_lt (pow_pos j)), ?_⟩
  have h1 : a * 2 ^ j < 2 ^ L * 2 ^ j := Int.mul_lt_mul_of_pos_right hL (pow_pos j)
  rw [← Int.pow_add] at h1
  have h := pow_mono (L + j) 24 hk
  omega

/-- where a number is cut: at its 24th bit, or at the least exponent -/
def cF (a e : Int) : Int := if (Lib.bitLen a.toNat : Int) - 24 < -150 - e then -150 - e else (Lib.bitLen a.toNat : Int) - 24

def cutF (n c : Int) : Int := if c ≤ 0 then n * 2 ^ (-c).toNat else if 63 < c then 0 else cutV n c.toNat

def riF (a e : Int) : Int := cutF a (cF a e) + (e + cF a e + 150) * 8388608

def rI (m e : Int) : Int := if m = 0 then 0 else if m < 0 then -riF (-m) e else riF m e

def rOk (m e : Int) : Bool := decide (-2533359615 ≤ rI m e ∧ rI m e ≤ 2533359615)

theorem cF_bd (a e : Int) (h1 : 0 < a) (h2 : a ≤ 9223372036854775808) (h3 : -2000 ≤ e) (h4 : e ≤ 2000) :
    -23 ≤ cF a e ∧ cF a e ≤ 1850 ∧ 0 ≤ e + cF a e + 150 ∧ e + cF a e + 150 ≤ 4000 ∧ (Lib.bitLen a.toNat : Int) ≤ cF a e + 24 := by
  obtain ⟨k1, k2, _, _⟩ := bl_bd a h1 h2
  unfold cF
  split <;> omega

theorem cutF_bd (a e : Int) (h1 : 0 < a) (h2 : a ≤ 9223372036854775808) (h3 : -2000 ≤ e) (h4 : e ≤ 2000) :
    0 ≤ cutF a (cF a e) ∧ cutF a (cF a e) ≤ 16777216 := by
  obtain ⟨k1, k2, k3, k4⟩ := bl_bd a h1 h2
  obtain ⟨c1, c2, c3, c4, c5⟩ := cF_bd a e h1 h2 h3 h4
  generalize cF a e = c at *
  unfold cutF
  split
  · exact shl_bd a _ _ (by omega) k4 (by omega)
  · split
    · omega
    · exact cutV_bd a _ _ (by omega) k4 (by omega)

theorem riF_nn (a e : Int) (h1 : 0 < a) (h2 : a ≤ 9223372036854775808) (h3 : -2000 ≤ e) (h4 : e ≤ 2000) : 0 ≤ riF a e := by
  obtain ⟨c1, c2, c3, c4, c5⟩ := cF_bd a e h1 h2 h3 h4
  obtain ⟨d1, d2⟩ := cutF_bd a e h1 h2 h3 h4
  unfold riF
  omega

theorem cut_any (n c p : Int) (w : World) (hp : cutF n c = p) (h2 : -1000 ≤ c) (h3 : 0 ≤ n) (h4 : n ≤ 9223372036854775808) (h5 : 0 ≤ p) (h6 : p ≤ 16777216) :
    Calls Tryz.prog 73 #[.int .u64 n, .int .i64 c] w fun r w' => r = .returned (.int .i64 p) ∧ Below w.heap.size w w' := by
  subst hp
  unfold cutF at *
  split at h5 <;> rename_i hc
  · exact cut_lo n c _ w hc h2 h3 rfl (by rw [if_pos hc] at h6; exact h6) h5 |> fun h => by rw [if_pos hc]; exact h
  · rw [if_neg hc] at h6 ⊢
    split <;> rename_i hd
    · exact cut_hi n c w hd
    · exact cut_mid n c w (by omega) (by omega) h3 h4

theorem rounded_pos (m e : Int) (w : World) (h1 : 0 < m) (h2 : m ≤ 9223372036854775807) (h3 : -2000 ≤ e) (h4 : e ≤ 2000) (h5 : riF m e ≤ 2533359615) :
    Calls Tryz.prog 39 #[realV m e] w fun r w' => r = .returned (realV (aM (riF m e)) (aE (riF m e))) ∧ Below w.heap.size w w' := by
  obtain ⟨k1, k2, k3, k4⟩ := bl_bd m h1 (by omega)
  obtain ⟨c1, c2, c3, c4, c5⟩ := cF_bd m e h1 (by omega) h3 h4
  obtain ⟨d1, d2⟩ := cutF_bd m e h1 (by omega) h3 h4
  exact rounded_p m e _ _ _ w h1 h2 h3 h4 (Lib.hid rfl) (by omega) (by omega) (show _ = cF m e from rfl) (Lib.hid fun w => cut_any m _ _ w rfl (by omega) (by omega) (by omega) d1 d2) d1 d2 c3 h5

theorem rounded_neg (a e : Int) (w : World) (h1 : 0 < a) (h2 : a ≤ 9223372036854775808) (h3 : -2000 ≤ e) (h4 : e ≤ 2000) (h5 : riF a e ≤ 2533359615) :
    Calls Tryz.prog 39 #[realV (-a) e] w fun r w' => r = .returned (realV (aM (-riF a e)) (aE (-riF a e))) ∧ Below w.heap.size w w' := by
  obtain ⟨k1, k2, k3, k4⟩ := bl_bd a h1 h2
  obtain ⟨c1, c2, c3, c4, c5⟩ := cF_bd a e h1 h2 h3 h4
  obtain ⟨d1, d2⟩ := cutF_bd a e h1 h2 h3 h4
  exact rounded_n a e _ _ _ w h1 h2 h3 h4 (Lib.hid rfl) (by omega) (by omega) (show _ = cF a e from rfl) (Lib.hid fun w => cut_any a _ _ w rfl (by omega) (by omega) (by omega) d1 d2) d1 d2 c3 h5

theorem rounded_pos_o (m e : Int) (w : World) (h1 : 0 < m) (h2 : m ≤ 9223372036854775807) (h3 : -2000 ≤ e) (h4 : e ≤ 2000) (h5 : 2533359615 < riF m e) :
    Calls Tryz.prog 39 #[realV m e] w fun r w' => r = .panicked [{ v := .iface 24 (.int .i64 3), recovered := false }] ∧ Below w.heap.size w w' := by
  obtain ⟨k1, k2, k3, k4⟩ := bl_bd m h1 (by omega)
  obtain ⟨c1, c2, c3, c4, c5⟩ := cF_bd m e h1 (by omega) h3 h4
  obtain ⟨d1, d2⟩ := cutF_bd m e h1 (by omega) h3 h4
  exact rounded_po m e _ _ _ w h1 h2 h3 h4 (Lib.hid rfl) (by omega) (by omega) (show _ = cF m e from rfl) (Lib.hid fun w => cut_any m _ _ w rfl (by omega) (by omega) (by omega) d1 d2) d1 d2 c3 c4 h5

theorem rounded_neg_o (a e : Int) (w : World) (h1 : 0 < a) (h2 : a ≤ 9223372036854775808) (h3 : -2000 ≤ e) (h4 : e ≤ 2000) (h5 : 2533359615 < riF a e) :
    Calls Tryz.prog 39 #[realV (-a) e] w fun r w' => r = .panicked [{ v := .iface 24 (.int .i64 3), recovered := false }] ∧ Below w.heap.size w w' := by
  obtain ⟨k1, k2, k3, k4⟩ := bl_bd a h1 h2
  obtain ⟨c1, c2, c3, c4, c5⟩ := cF_bd a e h1 h2 h3 h4
  obtain ⟨d1, d2⟩ := cutF_bd a e h1 h2 h3 h4
  exact rounded_no a e _ _ _ w h1 h2 h3 h4 (Lib.hid rfl) (by omega) (by omega) (show _ = cF a e from rfl) (Lib.hid fun w => cut_any a _ _ w rfl (by omega) (by omega) (by omega) d1 d2) d1 d2 c3 c4 h5

theorem rounded_ok (m e : Int) (w : World) (h1 : -9223372036854775808 ≤ m) (h2 : m ≤ 9223372036854775807) (h3 : -2000 ≤ e) (h4 : e ≤ 2000) (h5 : rOk m e = true) :
    Calls Tryz.prog 39 #[realV m e] w fun r w' => r = .returned (realV (aM (rI m e)) (aE (rI m e))) ∧ Below w.heap.size w w' := by
  have k := of_decide_eq_true h5
  unfold rI at *
  by_cases hz : m = 0
  · subst hz
    exact rounded_z e w
  · rw [if_neg hz] at k ⊢
    by_cases hn : m < 0
    · rw [if_pos hn] at k ⊢
      have := rounded_neg (-m) e w (by omega) (by omega) h3 h4 (by omega)
      rwa [Int.neg_neg] at this
    · rw [if_neg hn] at k ⊢
      exact rounded_pos m e w (by omega) h2 h3 h4 k.2

theorem rounded_over (m e : Int) (w : World) (h1 : -9223372036854775808 ≤ m) (h2 : m ≤ 9223372036854775807) (h3 : -2000 ≤ e) (h4 : e ≤ 2000) (h5 : rOk m e = false) :
    Calls Tryz.prog 39 #[realV m e] w fun r w' => r = .panicked [{ v := .iface 24 (.int .i64 3), recovered := false }] ∧ Below w.heap.size w w' := by
  have k := of_decide_eq_false h5
  unfold rI at *
  by_cases hz : m = 0
  · subst hz
    exact absurd (by simp) k
  · rw [if_neg hz] at k
    by_cases hn : m < 0
    · rw [if_pos hn] at k
      have n0 := riF_nn (-m) e (by omega) (by omega) h3 h4
      have := rounded_neg_o (-m) e w (by omega) (by omega) h3 h4 (by omega)
      rwa [Int.neg_neg] at this
    · rw [if_neg hn] at k
      have n0 := riF_nn m e (by omega) (by omega) h3 h4
      exact rounded_pos_o m e w (by omega) h2 h3 h4 (by omega)

theorem rOk_int (n : Int) (h1 : -9223372036854775808 ≤ n) (h2 : n ≤ 9223372036854775807) : rOk n 0 = true := by
  apply decide_eq_true
  unfold rI
  by_cases hz : n = 0
  · rw [if_pos hz]
    omega
  · rw [if_neg hz]
    by_cases hn : n < 0
    · rw [if_pos hn]
      obtain ⟨k1, k2, k3, k4⟩ := bl_bd (-n) (by omega) (by omega)
      obtain ⟨d1, d2⟩ := cutF_bd (-n) 0 (by omega) (by omega) (by omega) (by omega)
      have c : cF (-n) 0 ≤ 40 := by
        unfold cF
        split <;> omega
      have := riF_nn (-n) 0 (by omega) (by omega) (by omega) (by omega)
      unfold riF at *
      omega
    · rw [if_neg hn]
      obtain ⟨k1, k2, k3, k4⟩ := bl_bd n (by omega) (by omega)
      obtain ⟨d1, d2⟩ := cutF_bd n 0 (by omega) (by omega) (by omega) (by omega)
      have c : cF n 0 ≤ 40 := by
        unfold cF
        split <;> omega
      have := riF_nn n 0 (by omega) (by omega) (by omega) (by omega)
      unfold riF at *
      omega

end Go.Proofs.YtbfknapmhkpgcaaGreatDoor
