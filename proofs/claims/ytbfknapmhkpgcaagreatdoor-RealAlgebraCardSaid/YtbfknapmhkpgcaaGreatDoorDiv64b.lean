/-
  math/bits.Div64, whole.
-/
import Derived.Test.YtbfknapmhkpgcaaGreatDoorDiv64

namespace Go.Proofs.YtbfknapmhkpgcaaGreatDoor
open Go.RowKit
set_option linter.unusedVariables false

theorem nc_mul (a b : Nat) : ((a : Int) * (b : Int)) = ((a * b : Nat) : Int) := by simp

theorem nc_div (a b : Nat) : ((a : Int) / (b : Int)) = ((a / b : Nat) : Int) := by simp

theorem rem_run (X y1 : Nat) (h : X < BB) : IntKind.u64.wrap ((X : Int) - IntKind.u64.wrap (((X / y1 : Nat) : Int) * (y1 : Int))) = ((X % y1 : Nat) : Int) := by
  have e := Nat.div_add_mod' X y1
  rw [nc_mul, w64i ((X / y1 * y1 : Nat) : Int) (X / y1 * y1) rfl (by omega)]
  exact w64i _ _ (by omega) (by omega)

/-- n - q * Y mod 2^64, where the difference fits -/
theorem sub_run (X z t Y u : Nat) (hz : z < 4294967296) (h : X * 4294967296 + z = t * Y + u) (hu : u < BB) :
    IntKind.u64.wrap (IntKind.u64.wrap (IntKind.u64.wrap ((X : Int) * 4294967296) + (z : Int)) - IntKind.u64.wrap ((t : Int) * (Y : Int))) = (u : Int) := by
  rw [nc_mul t Y]
  simp only [IntKind.wrap_u64]
  generalize t * Y = p at *
  simp only [BB] at hu
  omega

set_option maxRecDepth 100000 in
theorem dv_go (hi lo y L s Y : Nat) (w : World) (h0 : 0 < hi) (hh : hi < y) (hyb : y < BB) (hlb : lo < BB) (hL : Lib.bitLen y = L) (hs : s + L = 64) (hs2 : s < 64) (hY : y * 2 ^ s = Y) (hY1 : 9223372036854775808 ≤ Y) (hY2 : Y < BB) :
    Calls Tryz.prog 126 #[.int .u64 hi, .int .u64 lo, .int .u64 y] w fun r w' => r = .returned (.tuple #[.int .u64 (((hi * BB + lo) / y : Nat) : Int), .int .u64 (((hi * BB + lo) % y : Nat) : Int)]) ∧ w' = w := by
  obtain ⟨k1, k2, k3⟩ := kn_shift hi lo y s hs2 hh (by rw [hY]; exact hY2) hlb
  rw [hY] at k1
  have hp := Nat.pow_pos (n := s) (a := 2) (by decide)
  have hor := kn_or hi lo s hs2 k3 (Nat.lt_trans k1 hY2)
  have heZ : IntKind.u64.wrap ((lo : Int) * 2 ^ s) = ((lo * 2 ^ s % BB : Nat) : Int) := by
    rw [IntKind.wrap_u64, Int.natCast_emod, Int.natCast_mul, Int.natCast_pow]
    rfl
  have heY : IntKind.u64.wrap ((y : Int) * 2 ^ s) = (Y : Int) := w64i _ _ (by rw [← hY, Int.natCast_mul, Int.natCast_pow]; rfl) hY2
  have hZb : lo * 2 ^ s % BB < BB := Nat.mod_lt _ (by decide)
  have hyq : (hi * BB + lo) / y = (hi * BB + lo) * 2 ^ s / Y ∧ (hi * BB + lo) % y * 2 ^ s = (hi * BB + lo) * 2 ^ s % Y := by
    rw [← hY, Nat.mul_mod_mul_right, Nat.mul_div_mul_right _ _ hp]
    exact ⟨rfl, rfl⟩
  obtain ⟨X, hX⟩ : ∃ X, X = hi * 2 ^ s + lo / 2 ^ (64 - s) := ⟨_, rfl⟩
  obtain ⟨Z, hZ⟩ : ∃ Z, Z = lo * 2 ^ s % BB := ⟨_, rfl⟩
  rw [← hX] at k1 k2 hor
  rw [← hZ] at k2 heZ hZb
  obtain ⟨N, hN⟩ : ∃ N, N = hi * BB + lo := ⟨_, rfl⟩
  rw [← hN] at k2 hyq ⊢
  rw [← k2] at hyq
  have HYQ := Lib.hid hyq
  clear hX hZ hN k3 k2 hyq
  obtain ⟨y1, e1⟩ : ∃ y1, y1 = Y / 4294967296 := ⟨_, rfl⟩
  obtain ⟨y0, e0⟩ : ∃ y0, y0 = Y % 4294967296 := ⟨_, rfl⟩
  obtain ⟨z1, f1⟩ : ∃ z1, z1 = Z / 4294967296 := ⟨_, rfl⟩
  obtain ⟨z0, f0⟩ : ∃ z0, z0 = Z % 4294967296 := ⟨_, rfl⟩
  have eYY : y1 * 4294967296 + y0 = Y := by omega
  have eZZ : Z = z1 * 4294967296 + z0 := by omega
  have hXb : X < BB := Nat.lt_trans k1 hY2
  have HXB := Lib.hid hXb
  have HYB := Lib.hid hY2
  have HZB := Lib.hid hZb
  simp only [BB] at hY2 hZb hXb
  have HALL := Lib.hid (kn_all X Z z1 z0 Y (by omega) k1 eZZ (by omega))
  have a1 := kn_start X z1 y1 y0 (by omega) (by omega)
  have a2 := kn_qb X y1 (by omega) HXB.out
  have a3 := Nat.div_add_mod' (X * 4294967296 + z1) Y
  have a4 := Nat.mod_lt (X * 4294967296 + z1) (show 0 < Y by omega)
  have a5 := kn_tq X z1 y1 y0 (by omega) (by omega)
  rw [eYY] at a1 a5
  obtain ⟨t1, g1⟩ : ∃ t1, t1 = (X * 4294967296 + z1) / Y := ⟨_, rfl⟩
  obtain ⟨U, gU⟩ : ∃ U, U = (X * 4294967296 + z1) % Y := ⟨_, rfl⟩
  rw [← g1] at a1 a3 a5 HALL
  rw [← gU] at a3 a4 HALL
  have b1 := kn_start U z0 y1 y0 (by omega) (by omega)
  have HUB := Lib.hid (Nat.lt_trans a4 HYB.out)
  have b2 := kn_qb U y1 (by omega) HUB.out
  have b3 := Nat.div_add_mod' (U * 4294967296 + z0) Y
  have b4 := Nat.mod_lt (U * 4294967296 + z0) (show 0 < Y by omega)
  have b5 := kn_tq U z0 y1 y0 (by omega) (by omega)
  rw [eYY] at b1 b5
  obtain ⟨t0, g0⟩ : ∃ t0, t0 = (U * 4294967296 + z0) / Y := ⟨_, rfl⟩
  obtain ⟨R, gR⟩ : ∃ R, R = (U * 4294967296 + z0) % Y := ⟨_, rfl⟩
  rw [← g0] at b1 b3 b5 HALL
  rw [← gR] at b3 b4 HALL
  rw [HALL.out.1, HALL.out.2] at HYQ
  have hrq : (R : Int) / 2 ^ s = ((N % y : Nat) : Int) := by
    rw [← HYQ.out.2, Int.natCast_mul, Int.natCast_pow]
    exact Int.mul_ediv_cancel _ (by have h := Int.ofNat_lt.2 hp; rw [Int.natCast_pow] at h; exact Int.ne_of_gt h)
  rw [HYQ.out.1]
  exact dv_t hi lo y s Y y1 y0 X Z z1 z0 (X / y1) (X % y1) t1 U (U / y1) (U % y1) t0 L (t1 * 4294967296 + t0) R (N % y) w (by omega) (by omega) (by omega) (by simp; omega) (by simp; omega) hyb (Lib.hid hL) (by omega) hs2
    heY (by omega) (by rw [kn_and Y HYB.out, e0]) hor heZ (by omega) (by rw [kn_and Z HZB.out, f0]) (by omega)
    (w64i _ _ (nc_div X y1) (Nat.lt_trans a2 (by decide))) (rem_run X y1 HXB.out)
    (Lib.hid (by omega)) (Lib.hid (by omega)) (Lib.hid (by omega)) (Lib.hid (by omega)) (Lib.hid (by omega))
    (Lib.hid (by rw [eYY, g1])) (Lib.hid ⟨a1.1, a1.2.1, a2, by omega⟩)
    (sub_run X z1 t1 Y U (by omega) a3.symm HUB.out) (w64i _ _ (nc_div U y1) (Nat.lt_trans b2 (by decide))) (rem_run U y1 HUB.out)
    (Lib.hid (by omega)) (Lib.hid (by omega)) (Lib.hid (by rw [eYY, g0])) (Lib.hid ⟨b1.1, b1.2.1, b2, by omega⟩)
    (by simp only [IntKind.wrap_u64]; omega) (sub_run U z0 t0 Y R (by omega) b3.symm (Nat.lt_trans b4 HYB.out)) hrq (Lib.hid (by omega)) (Lib.hid (by simp only [IntKind.wrap_u64]; omega))

theorem divOk (d : Nat) (h0 : 0 < d) (hd : d < BB) : DivOk d := by
  intro hi lo w hh hl
  by_cases hz : hi = 0
  · subst hz
    have := dv_0 lo d w h0 hd hl
    simpa using this
  · obtain ⟨n, hn⟩ : ∃ n, Lib.bitLen d = n := ⟨_, rfl⟩
    have hb := Lib.bitLenAux_bounds 64 d hd (by omega)
    have hL := Lib.bitLen_le d 64 (by omega) hd
    change 1 ≤ Lib.bitLen d ∧ 2 ^ (Lib.bitLen d - 1) ≤ d ∧ d < 2 ^ Lib.bitLen d at hb
    rw [hn] at hb hL
    obtain ⟨c1, c2, c3⟩ := hb
    have e1 : 9223372036854775808 ≤ d * 2 ^ (64 - n) := by
      have := Nat.mul_le_mul_right (2 ^ (64 - n)) c2
      rw [← Nat.pow_add, show n - 1 + (64 - n) = 63 from by omega] at this
      exact this
    have e2 : d * 2 ^ (64 - n) < BB := by
      have := Nat.mul_lt_mul_of_pos_right c3 (Nat.pow_pos (n := 64 - n) (a := 2) (by decide))
      rw [← Nat.pow_add, show n + (64 - n) = 64 from by omega] at this
      exact this
    exact (dv_go hi lo d n (64 - n) _ w (by omega) hh hd hl hn (by omega) (by omega) rfl e1 e2).mono fun e w' h => ⟨h.1, 0, by rw [h.2]; rfl⟩

end Go.Proofs.YtbfknapmhkpgcaaGreatDoor
