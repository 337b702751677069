/-
  math/bits.Div64: the quotient and the remainder of two words by one.
-/
import Derived.Test.YtbfknapmhkpgcaaGreatDoorFix3
import Derived.WalkKit
import Derived.Deep.QuietTactic

namespace Go.Proofs.YtbfknapmhkpgcaaGreatDoor
open Go.RowKit
set_option linter.unusedVariables false

theorem kn_mul (q y1 y0 : Nat) : q * (y1 * 4294967296 + y0) = q * y1 * 4294967296 + q * y0 := by
  rw [Nat.mul_add, Nat.mul_assoc]

theorem kn_start (X z y1 y0 : Nat) (h1 : 2147483648 ≤ y1) (hz : z < 4294967296) :
    (X * 4294967296 + z) / (y1 * 4294967296 + y0) ≤ X / y1 ∧ X / y1 * y1 + X % y1 = X ∧ X % y1 < y1 := by
  have e := Nat.div_add_mod' X y1
  have hm := Nat.mod_lt X (show 0 < y1 by omega)
  refine ⟨?_, e, hm⟩
  apply Nat.le_of_lt_succ
  rw [Nat.div_lt_iff_lt_mul (by omega), kn_mul]
  have : (X / y1).succ * y1 = X / y1 * y1 + y1 := Nat.succ_mul _ _
  rw [this]
  generalize X / y1 * y1 = P at *
  generalize X % y1 = r at *
  generalize (X / y1).succ * y0 = Q
  omega

theorem kn_tq (X z y1 y0 : Nat) (hX : X < y1 * 4294967296 + y0) (hz : z < 4294967296) : (X * 4294967296 + z) / (y1 * 4294967296 + y0) < 4294967296 := by
  rw [Nat.div_lt_iff_lt_mul (by omega)]
  omega

theorem kn_on (X z y1 y0 q r : Nat) (h0 : y0 < 4294967296) (h1 : 2147483648 ≤ y1) (hX : X < y1 * 4294967296 + y0) (hz : z < 4294967296) (e : q * y1 + r = X)
    (h : 4294967296 ≤ q ∨ 4294967296 * r + z < q * y0) : (X * 4294967296 + z) / (y1 * 4294967296 + y0) < q := by
  rcases h with h | h
  · exact Nat.lt_of_lt_of_le (kn_tq X z y1 y0 hX hz) h
  · rw [Nat.div_lt_iff_lt_mul (by omega), kn_mul]
    omega

theorem kn_off (X z y1 y0 q r : Nat) (h0 : y0 < 4294967296) (h1 : 2147483648 ≤ y1) (e : q * y1 + r = X) (ht : (X * 4294967296 + z) / (y1 * 4294967296 + y0) ≤ q)
    (h : q * y0 ≤ 4294967296 * r + z) : (X * 4294967296 + z) / (y1 * 4294967296 + y0) = q := by
  apply Nat.le_antisymm ht
  rw [Nat.le_div_iff_mul_le (by omega), kn_mul]
  omega

theorem kn_brk (X z y1 y0 q r : Nat) (h0 : y0 < 4294967296) (h1 : 2147483648 ≤ y1) (hX : X < y1 * 4294967296 + y0) (e : q * y1 + r = X) (ht : (X * 4294967296 + z) / (y1 * 4294967296 + y0) ≤ q)
    (h : 4294967296 ≤ r) : (X * 4294967296 + z) / (y1 * 4294967296 + y0) = q := by
  have hq : q < 4294967296 := by
    apply Nat.lt_of_not_le
    intro hq
    have := Nat.mul_le_mul_right y1 hq
    omega
  have : q * y0 ≤ 4294967296 * 4294967296 := Nat.mul_le_mul (by omega) (by omega)
  exact kn_off X z y1 y0 q r h0 h1 e ht (by omega)

theorem kn_qb (X y1 : Nat) (h1 : 2147483648 ≤ y1) (hX : X < BB) : X / y1 < 8589934592 := by
  rw [Nat.div_lt_iff_lt_mul (by omega)]
  simp only [BB] at hX
  omega

set_option maxRecDepth 100000 in
/-- the two halves put together -/
theorem kn_all (X Z z1 z0 Y : Nat) (hY : 0 < Y) (hX : X < Y) (hZ : Z = z1 * 4294967296 + z0) (h0 : z0 < 4294967296) :
    (X * BB + Z) / Y = (X * 4294967296 + z1) / Y * 4294967296 + ((X * 4294967296 + z1) % Y * 4294967296 + z0) / Y ∧
    (X * BB + Z) % Y = ((X * 4294967296 + z1) % Y * 4294967296 + z0) % Y := by
  have e := Nat.div_add_mod (X * 4294967296 + z1) Y
  obtain ⟨q, hq⟩ : ∃ q, q = (X * 4294967296 + z1) / Y := ⟨_, rfl⟩
  obtain ⟨u, hu⟩ : ∃ u, u = (X * 4294967296 + z1) % Y := ⟨_, rfl⟩
  rw [← hq, ← hu] at e ⊢
  clear hq hu
  have e2 : X * BB + Z = (u * 4294967296 + z0) + Y * (q * 4294967296) := by
    have : Y * (q * 4294967296) = Y * q * 4294967296 := by rw [Nat.mul_assoc]
    rw [this, hZ]
    simp only [BB]
    generalize Y * q = p at *
    omega
  constructor
  · rw [e2, Nat.add_mul_div_left _ _ hY, Nat.add_comm]
  · rw [e2, Nat.add_mul_mod_self_left]

/-- the operands, shifted -/
theorem kn_shift (hi lo y s : Nat) (hs : s < 64) (hh : hi < y) (hy : y * 2 ^ s < BB) (hlo : lo < BB) :
    hi * 2 ^ s + lo / 2 ^ (64 - s) < y * 2 ^ s ∧ (hi * 2 ^ s + lo / 2 ^ (64 - s)) * BB + lo * 2 ^ s % BB = (hi * BB + lo) * 2 ^ s ∧ lo / 2 ^ (64 - s) < 2 ^ s := by
  have hp := Nat.pow_pos (n := s) (a := 2) (by decide)
  have hq := Nat.pow_pos (n := 64 - s) (a := 2) (by decide)
  have hB : BB = 2 ^ (64 - s) * 2 ^ s := by
    rw [← Nat.pow_add, show 64 - s + s = 64 from by omega]
  have h1 : lo / 2 ^ (64 - s) < 2 ^ s := by
    rw [Nat.div_lt_iff_lt_mul hq, Nat.mul_comm, ← hB]
    exact hlo
  have h2 : lo * 2 ^ s % BB = lo % 2 ^ (64 - s) * 2 ^ s := by rw [hB, Nat.mul_mod_mul_right]
  have h3 := Nat.div_add_mod lo (2 ^ (64 - s))
  refine ⟨?_, ?_, h1⟩
  · have := Nat.mul_le_mul_right (2 ^ s) (show hi + 1 ≤ y from hh)
    rw [Nat.add_mul, Nat.one_mul] at this
    omega
  · rw [h2, Nat.add_mul, Nat.add_mul]
    have e1 : hi * 2 ^ s * BB = hi * BB * 2 ^ s := by ac_rfl
    have e2 : lo / 2 ^ (64 - s) * BB = 2 ^ (64 - s) * (lo / 2 ^ (64 - s)) * 2 ^ s := by rw [hB]; ac_rfl
    have e3 : lo / 2 ^ (64 - s) * BB + lo % 2 ^ (64 - s) * 2 ^ s = lo * 2 ^ s := by rw [e2, ← Nat.add_mul, h3]
    rw [e1, Nat.add_assoc, e3]

theorem kn_or (hi lo s : Nat) (hs : s < 64) (hl : lo / 2 ^ (64 - s) < 2 ^ s) (hh : hi * 2 ^ s + lo / 2 ^ (64 - s) < BB) :
    bits BinOp.or IntKind.u64 (IntKind.u64.wrap ((hi : Int) * 2 ^ s)) ((lo : Int) / 2 ^ (64 - s)) = ((hi * 2 ^ s + lo / 2 ^ (64 - s) : Nat) : Int) := by
  have e1 : IntKind.u64.wrap ((hi : Int) * 2 ^ s) = ((hi * 2 ^ s : Nat) : Int) := by
    rw [show (hi : Int) * 2 ^ s = ((hi * 2 ^ s : Nat) : Int) from by simp only [Int.natCast_mul, Int.natCast_pow]; rfl, IntKind.wrap_u64]
    generalize hi * 2 ^ s = p at *
    generalize lo / 2 ^ (64 - s) = c at *
    simp only [BB] at hh
    omega
  have e2 : (lo : Int) / 2 ^ (64 - s) = ((lo / 2 ^ (64 - s) : Nat) : Int) := by push_cast; rfl
  rw [e1, e2, bits_or_u64_nat _ _ (by clear e1 e2; generalize hi * 2 ^ s = p at *; generalize lo / 2 ^ (64 - s) = c at *; simp only [BB] at hh; omega) (by clear e1 e2; generalize hi * 2 ^ s = p at *; generalize lo / 2 ^ (64 - s) = c at *; simp only [BB] at hh; omega)]
  congr 1
  rw [Nat.mul_comm, ← Nat.two_pow_add_eq_or_of_lt hl]

theorem kn_and (a : Nat) (ha : a < BB) : bits BinOp.and IntKind.u64 (a : Int) 4294967295 = ((a % 4294967296 : Nat) : Int) := by
  have e : (4294967295 : Int) = ((2 ^ 32 - 1 : Nat) : Int) := by decide
  rw [e, bits_and_u64_nat _ _ (by simp only [BB] at ha; omega) (by decide), Nat.and_two_pow_sub_one_eq_mod]

theorem kn_next (X y1 q r : Nat) (e : q * y1 + r = X) (h : 1 ≤ q) : (q - 1) * y1 + (r + y1) = X := by
  obtain ⟨p, rfl⟩ : ∃ p, q = p + 1 := ⟨q - 1, by omega⟩
  rw [Nat.add_mul, Nat.one_mul] at e
  simp only [Nat.add_sub_cancel]
  omega

theorem w64 (x : Int) (n : Nat) (h : x % 18446744073709551616 = (n : Int)) : IntKind.u64.wrap x = (n : Int) := by
  rw [IntKind.wrap_u64]
  exact h

theorem w64i (x : Int) (n : Nat) (h : x = (n : Int)) (hn : n < BB) : IntKind.u64.wrap x = (n : Int) := by
  subst h
  rw [IntKind.wrap_u64]
  simp only [BB] at hn
  omega

set_option maxRecDepth 100000 in
set_option maxHeartbeats 1600000 in
theorem dv_t (hi lo y s Y y1 y0 X Z z1 z0 qs1 rs1 t1 U qs2 rs2 t0 L Rq R2 Rr : Nat) (w : World) (h2 : (hi : Int) < (y : Int)) (hhy : ¬ y ≤ hi) (hy : ¬ ((y : Nat) : Int) = 0) (hb0 : (((hi : Nat) : Int) == 0) = false) (hb1 : (((y : Nat) : Int) == 0) = false) (hyb : y < BB) (HL : Hid (Lib.bitLen y = L)) (hs : (64 : Int) - (L : Int) = (s : Int)) (hs2 : s < 64)
    (eY : IntKind.u64.wrap ((y : Int) * 2 ^ s) = (Y : Int)) (ey1 : (Y : Int) / 4294967296 = (y1 : Int)) (ey0 : bits BinOp.and IntKind.u64 (Y : Int) 4294967295 = (y0 : Int)) (eX : bits BinOp.or IntKind.u64 (IntKind.u64.wrap ((hi : Int) * 2 ^ s)) ((lo : Int) / 2 ^ (64 - s)) = (X : Int))
    (eZ : IntKind.u64.wrap ((lo : Int) * 2 ^ s) = (Z : Int)) (ez1 : (Z : Int) / 4294967296 = (z1 : Int)) (ez0 : bits BinOp.and IntKind.u64 (Z : Int) 4294967295 = (z0 : Int)) (hy1 : ¬ (y1 : Int) = 0)
    (eq1 : IntKind.u64.wrap ((X : Int) / (y1 : Int)) = (qs1 : Int)) (er1 : IntKind.u64.wrap ((X : Int) - IntKind.u64.wrap ((qs1 : Int) * (y1 : Int))) = (rs1 : Int))
    (HY0 : Hid (y0 < 4294967296)) (HY1 : Hid (2147483648 ≤ y1)) (HY1b : Hid (y1 < 4294967296)) (HX1 : Hid (X < y1 * 4294967296 + y0)) (HZ1 : Hid (z1 < 4294967296))
    (HT1 : Hid ((X * 4294967296 + z1) / (y1 * 4294967296 + y0) = t1)) (HS1 : Hid (t1 ≤ qs1 ∧ qs1 * y1 + rs1 = X ∧ qs1 < 8589934592 ∧ rs1 < 4294967296))
    (eU : IntKind.u64.wrap (IntKind.u64.wrap (IntKind.u64.wrap ((X : Int) * 4294967296) + (z1 : Int)) - IntKind.u64.wrap ((t1 : Int) * (Y : Int))) = (U : Int)) (eq2 : IntKind.u64.wrap ((U : Int) / (y1 : Int)) = (qs2 : Int)) (er2 : IntKind.u64.wrap ((U : Int) - IntKind.u64.wrap ((qs2 : Int) * (y1 : Int))) = (rs2 : Int))
    (HX2 : Hid (U < y1 * 4294967296 + y0)) (HZ2 : Hid (z0 < 4294967296)) (HT2 : Hid ((U * 4294967296 + z0) / (y1 * 4294967296 + y0) = t0)) (HS2 : Hid (t0 ≤ qs2 ∧ qs2 * y1 + rs2 = U ∧ qs2 < 8589934592 ∧ rs2 < 4294967296))
    (eR1 : IntKind.u64.wrap (IntKind.u64.wrap ((t1 : Int) * 4294967296) + (t0 : Int)) = (Rq : Int)) (eR2 : IntKind.u64.wrap (IntKind.u64.wrap (IntKind.u64.wrap ((U : Int) * 4294967296) + (z0 : Int)) - IntKind.u64.wrap ((t0 : Int) * (Y : Int))) = (R2 : Int)) (eR3 : (R2 : Int) / 2 ^ s = (Rr : Int)) (HRQ : Hid ((t1 : Int) * 4294967296 + (t0 : Int) = (Rq : Int))) (HRW : Hid (IntKind.u64.wrap ((t1 : Int) * 4294967296 + (t0 : Int)) = (Rq : Int))) :
    Calls Tryz.prog 126 #[.int .u64 hi, .int .u64 lo, .int .u64 y] w fun r w' => r = .returned (.tuple #[.int .u64 (Rq : Int), .int .u64 (Rr : Int)]) ∧ w' = w := by
  go_enter Tryz.func126, Tryz.ntmps126
  go_wp2_with fail
  refine (Tryz.bits_LeadingZeros64 (y : Int) _ (by omega) (by simp only [BB] at hyb; omega)).mono ?_
  rintro r w1 ⟨rfl, rfl⟩
  simp only [Int.toNat_natCast]
  rw [HL.out, hs]
  go_wp2_with fail
  go_loopw [15, 16] (fun a b wz => ∃ q r : Nat, a = .int .u64 (q : Int) ∧ b = .int .u64 (r : Int) ∧ q * y1 + r = X ∧ t1 ≤ q ∧ q < 8589934592 ∧ r < 4294967296 ∧ wz = w1) (fun a _ _ => (intOf a).toNat)
  case atStart => exact ⟨qs1, rs1, rfl, rfl, HS1.out.2.1, HS1.out.1, HS1.out.2.2.1, HS1.out.2.2.2, rfl⟩
  case round =>
    obtain ⟨q1, r1, rfl, rfl, he, hle, hqb, hrb, rfl⟩ := hrel
    have HE1 := Lib.hid he
    clear he
    by_cases hq : 4294967296 ≤ q1
    · have HLT := Lib.hid (kn_on X z1 y1 y0 q1 r1 HY0.out HY1.out HX1.out HZ1.out HE1.out (Or.inl hq))
      have hlt1 : t1 < q1 := by have := HT1.out; have := HLT.out; omega
      have hqi : (4294967296 : Int) ≤ (q1 : Int) := by omega
      have hone : 1 ≤ q1 := by omega
      obtain ⟨p1, hp⟩ : ∃ p, p = q1 - 1 := ⟨_, rfl⟩
      obtain ⟨v1, hv⟩ : ∃ v, v = r1 + y1 := ⟨_, rfl⟩
      have HNX := Lib.hid (kn_next X y1 q1 r1 HE1.out hone)
      rw [← hp, ← hv] at HNX
      have hw1 := w64i ((q1 : Int) - 1) p1 (by omega) (by simp only [BB]; omega)
      have hw2 := w64i ((r1 : Int) + (y1 : Int)) v1 (by omega) (by have := HY1b.out; simp only [BB]; omega)
      have HTP : Hid (t1 ≤ p1) := Lib.hid (by have := HT1.out; have := HLT.out; omega)
      have hpb : p1 < 8589934592 := by omega
      have hpq : p1 < q1 := by omega
      have HPV := Lib.hid (And.intro hp hv)
      clear hp hv hone
      by_cases hb : 4294967296 ≤ v1
      · have HEQ := Lib.hid (kn_brk X z1 y1 y0 p1 v1 HY0.out HY1.out HX1.out HNX.out (by have := HT1.out; have := HTP.out; omega) hb)
        have hbi : (4294967296 : Int) ≤ (v1 : Int) := by omega
        obtain rfl : p1 = t1 := by have := HT1.out; have := HEQ.out; omega
        clear hb
        go_wp2_with fail
        go_loopw [18, 16] (fun a b wz => ∃ q r : Nat, a = .int .u64 (q : Int) ∧ b = .int .u64 (r : Int) ∧ q * y1 + r = U ∧ t0 ≤ q ∧ q < 8589934592 ∧ r < 4294967296 ∧ wz = wr) (fun a _ _ => (intOf a).toNat)
        case atStart => exact ⟨qs2, rs2, rfl, rfl, HS2.out.2.1, HS2.out.1, HS2.out.2.2.1, HS2.out.2.2.2, rfl⟩
        case round =>
          obtain ⟨q2, r2, rfl, rfl, he, hle, hqb, hrb, rfl⟩ := hrel
          have HE2 := Lib.hid he
          clear he
          by_cases hq : 4294967296 ≤ q2
          · have HLT := Lib.hid (kn_on U z0 y1 y0 q2 r2 HY0.out HY1.out HX2.out HZ2.out HE2.out (Or.inl hq))
            have hlt1 : t0 < q2 := by have := HT2.out; have := HLT.out; omega
            have hqi : (4294967296 : Int) ≤ (q2 : Int) := by omega
            have hone : 1 ≤ q2 := by omega
            obtain ⟨p2, hp⟩ : ∃ p, p = q2 - 1 := ⟨_, rfl⟩
            obtain ⟨v2, hv⟩ : ∃ v, v = r2 + y1 := ⟨_, rfl⟩
            have HNX := Lib.hid (kn_next U y1 q2 r2 HE2.out hone)
            rw [← hp, ← hv] at HNX
            have hw1 := w64i ((q2 : Int) - 1) p2 (by omega) (by simp only [BB]; omega)
            have hw2 := w64i ((r2 : Int) + (y1 : Int)) v2 (by omega) (by have := HY1b.out; simp only [BB]; omega)
            have HTP : Hid (t0 ≤ p2) := Lib.hid (by have := HT2.out; have := HLT.out; omega)
            have hpb : p2 < 8589934592 := by omega
            have hpq : p2 < q2 := by omega
            have HPV := Lib.hid (And.intro hp hv)
            clear hp hv hone
            by_cases hb : 4294967296 ≤ v2
            · have HEQ := Lib.hid (kn_brk U z0 y1 y0 p2 v2 HY0.out HY1.out HX2.out HNX.out (by have := HT2.out; have := HTP.out; omega) hb)
              have hbi : (4294967296 : Int) ≤ (v2 : Int) := by omega
              obtain rfl : p2 = t0 := by have := HT2.out; have := HEQ.out; omega
              clear hb
              go_wp2_with fail
              go_wp2_with fail
              go_ret2
              exact ⟨by first | rfl | exact congrArg (fun x : Int => Ending.returned (Value.tuple #[Value.int IntKind.u64 x, Value.int IntKind.u64 (Rr : Int)])) HRQ.out | exact congrArg (fun x : Int => Ending.returned (Value.tuple #[Value.int IntKind.u64 x, Value.int IntKind.u64 (Rr : Int)])) HRW.out, rfl⟩
            · have hbi : ¬ (4294967296 : Int) ≤ (v2 : Int) := by omega
              go_wp2_with fail
              exact ⟨⟨p2, v2, rfl, rfl, HNX.out, HTP.out, hpb, by omega, by first | trivial | rfl⟩, by simp [intOf] <;> omega⟩
          · have hqi : ¬ (4294967296 : Int) ≤ (q2 : Int) := by omega
            have hmb : q2 * y0 < BB := Nat.lt_of_le_of_lt (Nat.mul_le_mul (show q2 ≤ 4294967295 by omega) (show y0 ≤ 4294967295 by have := HY0.out; omega)) (by decide)
            have hw3 := w64i ((q2 : Int) * (y0 : Int)) (q2 * y0) (by simp) hmb
            have hw4 := w64i ((4294967296 : Int) * (r2 : Int)) (4294967296 * r2) (by simp) (by simp only [BB]; omega)
            have hw5 := w64i (((4294967296 * r2 : Nat) : Int) + (z0 : Int)) (4294967296 * r2 + z0) (by simp) (by have := HZ2.out; simp only [BB]; omega)
            have hM : Hid (∃ m, m = q2 * y0) := Lib.hid ⟨_, rfl⟩
            obtain ⟨m, hm⟩ := hM.out
            obtain ⟨k, hk⟩ : ∃ k, k = 4294967296 * r2 + z0 := ⟨_, rfl⟩
            obtain ⟨k0, hk0⟩ : ∃ k0, k0 = 4294967296 * r2 := ⟨_, rfl⟩
            rw [← hm] at hw3
            rw [← hk, ← hk0] at hw5
            rw [← hk0] at hw4
            have HM := Lib.hid hm
            have HK := Lib.hid hk
            clear hm hk hk0 hM hmb
            by_cases hc : k < m
            · have HLT := Lib.hid (kn_on U z0 y1 y0 q2 r2 HY0.out HY1.out HX2.out HZ2.out HE2.out (Or.inr (by rw [← HM.out, ← HK.out]; exact hc)))
              have hlt1 : t0 < q2 := by have := HT2.out; have := HLT.out; omega
              have hci : (k : Int) < (m : Int) := by omega
              have hone : 1 ≤ q2 := by omega
              obtain ⟨p2, hp⟩ : ∃ p, p = q2 - 1 := ⟨_, rfl⟩
              obtain ⟨v2, hv⟩ : ∃ v, v = r2 + y1 := ⟨_, rfl⟩
              have HNX := Lib.hid (kn_next U y1 q2 r2 HE2.out hone)
              rw [← hp, ← hv] at HNX
              have hw1 := w64i ((q2 : Int) - 1) p2 (by omega) (by simp only [BB]; omega)
              have hw2 := w64i ((r2 : Int) + (y1 : Int)) v2 (by omega) (by have := HY1b.out; simp only [BB]; omega)
              have HTP : Hid (t0 ≤ p2) := Lib.hid (by have := HT2.out; have := HLT.out; omega)
              have hpb : p2 < 8589934592 := by omega
              have hpq : p2 < q2 := by omega
              have HPV := Lib.hid (And.intro hp hv)
              clear hp hv hone
              by_cases hb : 4294967296 ≤ v2
              · have HEQ := Lib.hid (kn_brk U z0 y1 y0 p2 v2 HY0.out HY1.out HX2.out HNX.out (by have := HT2.out; have := HTP.out; omega) hb)
                have hbi : (4294967296 : Int) ≤ (v2 : Int) := by omega
                obtain rfl : p2 = t0 := by have := HT2.out; have := HEQ.out; omega
                clear hb
                go_wp2_with fail
                go_wp2_with fail
                go_ret2
                exact ⟨by first | rfl | exact congrArg (fun x : Int => Ending.returned (Value.tuple #[Value.int IntKind.u64 x, Value.int IntKind.u64 (Rr : Int)])) HRQ.out | exact congrArg (fun x : Int => Ending.returned (Value.tuple #[Value.int IntKind.u64 x, Value.int IntKind.u64 (Rr : Int)])) HRW.out, rfl⟩
              · have hbi : ¬ (4294967296 : Int) ≤ (v2 : Int) := by omega
                go_wp2_with fail
                exact ⟨⟨p2, v2, rfl, rfl, HNX.out, HTP.out, hpb, by omega, by first | trivial | rfl⟩, by simp [intOf] <;> omega⟩
            · have HEQ := Lib.hid (kn_off U z0 y1 y0 q2 r2 HY0.out HY1.out HE2.out (by have := HT2.out; omega) (by rw [← HM.out, ← HK.out]; omega))
              have hci : ¬ (k : Int) < (m : Int) := by omega
              obtain rfl : q2 = t0 := by have := HT2.out; have := HEQ.out; omega
              go_wp2_with fail
              go_wp2_with fail
              go_ret2
              exact ⟨by first | rfl | exact congrArg (fun x : Int => Ending.returned (Value.tuple #[Value.int IntKind.u64 x, Value.int IntKind.u64 (Rr : Int)])) HRQ.out | exact congrArg (fun x : Int => Ending.returned (Value.tuple #[Value.int IntKind.u64 x, Value.int IntKind.u64 (Rr : Int)])) HRW.out, rfl⟩
      · have hbi : ¬ (4294967296 : Int) ≤ (v1 : Int) := by omega
        go_wp2_with fail
        exact ⟨⟨p1, v1, rfl, rfl, HNX.out, HTP.out, hpb, by omega, by first | trivial | rfl⟩, by simp [intOf] <;> omega⟩
    · have hqi : ¬ (4294967296 : Int) ≤ (q1 : Int) := by omega
      have hmb : q1 * y0 < BB := Nat.lt_of_le_of_lt (Nat.mul_le_mul (show q1 ≤ 4294967295 by omega) (show y0 ≤ 4294967295 by have := HY0.out; omega)) (by decide)
      have hw3 := w64i ((q1 : Int) * (y0 : Int)) (q1 * y0) (by simp) hmb
      have hw4 := w64i ((4294967296 : Int) * (r1 : Int)) (4294967296 * r1) (by simp) (by simp only [BB]; omega)
      have hw5 := w64i (((4294967296 * r1 : Nat) : Int) + (z1 : Int)) (4294967296 * r1 + z1) (by simp) (by have := HZ1.out; simp only [BB]; omega)
      have hM : Hid (∃ m, m = q1 * y0) := Lib.hid ⟨_, rfl⟩
      obtain ⟨m, hm⟩ := hM.out
      obtain ⟨k, hk⟩ : ∃ k, k = 4294967296 * r1 + z1 := ⟨_, rfl⟩
      obtain ⟨k0, hk0⟩ : ∃ k0, k0 = 4294967296 * r1 := ⟨_, rfl⟩
      rw [← hm] at hw3
      rw [← hk, ← hk0] at hw5
      rw [← hk0] at hw4
      have HM := Lib.hid hm
      have HK := Lib.hid hk
      clear hm hk hk0 hM hmb
      by_cases hc : k < m
      · have HLT := Lib.hid (kn_on X z1 y1 y0 q1 r1 HY0.out HY1.out HX1.out HZ1.out HE1.out (Or.inr (by rw [← HM.out, ← HK.out]; exact hc)))
        have hlt1 : t1 < q1 := by have := HT1.out; have := HLT.out; omega
        have hci : (k : Int) < (m : Int) := by omega
        have hone : 1 ≤ q1 := by omega
        obtain ⟨p1, hp⟩ : ∃ p, p = q1 - 1 := ⟨_, rfl⟩
        obtain ⟨v1, hv⟩ : ∃ v, v = r1 + y1 := ⟨_, rfl⟩
        have HNX := Lib.hid (kn_next X y1 q1 r1 HE1.out hone)
        rw [← hp, ← hv] at HNX
        have hw1 := w64i ((q1 : Int) - 1) p1 (by omega) (by simp only [BB]; omega)
        have hw2 := w64i ((r1 : Int) + (y1 : Int)) v1 (by omega) (by have := HY1b.out; simp only [BB]; omega)
        have HTP : Hid (t1 ≤ p1) := Lib.hid (by have := HT1.out; have := HLT.out; omega)
        have hpb : p1 < 8589934592 := by omega
        have hpq : p1 < q1 := by omega
        have HPV := Lib.hid (And.intro hp hv)
        clear hp hv hone
        by_cases hb : 4294967296 ≤ v1
        · have HEQ := Lib.hid (kn_brk X z1 y1 y0 p1 v1 HY0.out HY1.out HX1.out HNX.out (by have := HT1.out; have := HTP.out; omega) hb)
          have hbi : (4294967296 : Int) ≤ (v1 : Int) := by omega
          obtain rfl : p1 = t1 := by have := HT1.out; have := HEQ.out; omega
          clear hb
          go_wp2_with fail
          go_loopw [18, 16] (fun a b wz => ∃ q r : Nat, a = .int .u64 (q : Int) ∧ b = .int .u64 (r : Int) ∧ q * y1 + r = U ∧ t0 ≤ q ∧ q < 8589934592 ∧ r < 4294967296 ∧ wz = wr) (fun a _ _ => (intOf a).toNat)
          case atStart => exact ⟨qs2, rs2, rfl, rfl, HS2.out.2.1, HS2.out.1, HS2.out.2.2.1, HS2.out.2.2.2, rfl⟩
          case round =>
            obtain ⟨q2, r2, rfl, rfl, he, hle, hqb, hrb, rfl⟩ := hrel
            have HE2 := Lib.hid he
            clear he
            by_cases hq : 4294967296 ≤ q2
            · have HLT := Lib.hid (kn_on U z0 y1 y0 q2 r2 HY0.out HY1.out HX2.out HZ2.out HE2.out (Or.inl hq))
              have hlt1 : t0 < q2 := by have := HT2.out; have := HLT.out; omega
              have hqi : (4294967296 : Int) ≤ (q2 : Int) := by omega
              have hone : 1 ≤ q2 := by omega
              obtain ⟨p2, hp⟩ : ∃ p, p = q2 - 1 := ⟨_, rfl⟩
              obtain ⟨v2, hv⟩ : ∃ v, v = r2 + y1 := ⟨_, rfl⟩
              have HNX := Lib.hid (kn_next U y1 q2 r2 HE2.out hone)
              rw [← hp, ← hv] at HNX
              have hw1 := w64i ((q2 : Int) - 1) p2 (by omega) (by simp only [BB]; omega)
              have hw2 := w64i ((r2 : Int) + (y1 : Int)) v2 (by omega) (by have := HY1b.out; simp only [BB]; omega)
              have HTP : Hid (t0 ≤ p2) := Lib.hid (by have := HT2.out; have := HLT.out; omega)
              have hpb : p2 < 8589934592 := by omega
              have hpq : p2 < q2 := by omega
              have HPV := Lib.hid (And.intro hp hv)
              clear hp hv hone
              by_cases hb : 4294967296 ≤ v2
              · have HEQ := Lib.hid (kn_brk U z0 y1 y0 p2 v2 HY0.out HY1.out HX2.out HNX.out (by have := HT2.out; have := HTP.out; omega) hb)
                have hbi : (4294967296 : Int) ≤ (v2 : Int) := by omega
                obtain rfl : p2 = t0 := by have := HT2.out; have := HEQ.out; omega
                clear hb
                go_wp2_with fail
                go_wp2_with fail
                go_ret2
                exact ⟨by first | rfl | exact congrArg (fun x : Int => Ending.returned (Value.tuple #[Value.int IntKind.u64 x, Value.int IntKind.u64 (Rr : Int)])) HRQ.out | exact congrArg (fun x : Int => Ending.returned (Value.tuple #[Value.int IntKind.u64 x, Value.int IntKind.u64 (Rr : Int)])) HRW.out, rfl⟩
              · have hbi : ¬ (4294967296 : Int) ≤ (v2 : Int) := by omega
                go_wp2_with fail
                exact ⟨⟨p2, v2, rfl, rfl, HNX.out, HTP.out, hpb, by omega, by first | trivial | rfl⟩, by simp [intOf] <;> omega⟩
            · have hqi : ¬ (4294967296 : Int) ≤ (q2 : Int) := by omega
              have hmb : q2 * y0 < BB := Nat.lt_of_le_of_lt (Nat.mul_le_mul (show q2 ≤ 4294967295 by omega) (show y0 ≤ 4294967295 by have := HY0.out; omega)) (by decide)
              have hw3 := w64i ((q2 : Int) * (y0 : Int)) (q2 * y0) (by simp) hmb
              have hw4 := w64i ((4294967296 : Int) * (r2 : Int)) (4294967296 * r2) (by simp) (by simp only [BB]; omega)
              have hw5 := w64i (((4294967296 * r2 : Nat) : Int) + (z0 : Int)) (4294967296 * r2 + z0) (by simp) (by have := HZ2.out; simp only [BB]; omega)
              have hM : Hid (∃ m, m = q2 * y0) := Lib.hid ⟨_, rfl⟩
              obtain ⟨m, hm⟩ := hM.out
              obtain ⟨k, hk⟩ : ∃ k, k = 4294967296 * r2 + z0 := ⟨_, rfl⟩
              obtain ⟨k0, hk0⟩ : ∃ k0, k0 = 4294967296 * r2 := ⟨_, rfl⟩
              rw [← hm] at hw3
              rw [← hk, ← hk0] at hw5
              rw [← hk0] at hw4
              have HM := Lib.hid hm
              have HK := Lib.hid hk
              clear hm hk hk0 hM hmb
              by_cases hc : k < m
              · have HLT := Lib.hid (kn_on U z0 y1 y0 q2 r2 HY0.out HY1.out HX2.out HZ2.out HE2.out (Or.inr (by rw [← HM.out, ← HK.out]; exact hc)))
                have hlt1 : t0 < q2 := by have := HT2.out; have := HLT.out; omega
                have hci : (k : Int) < (m : Int) := by omega
                have hone : 1 ≤ q2 := by omega
                obtain ⟨p2, hp⟩ : ∃ p, p = q2 - 1 := ⟨_, rfl⟩
                obtain ⟨v2, hv⟩ : ∃ v, v = r2 + y1 := ⟨_, rfl⟩
                have HNX := Lib.hid (kn_next U y1 q2 r2 HE2.out hone)
                rw [← hp, ← hv] at HNX
                have hw1 := w64i ((q2 : Int) - 1) p2 (by omega) (by simp only [BB]; omega)
                have hw2 := w64i ((r2 : Int) + (y1 : Int)) v2 (by omega) (by have := HY1b.out; simp only [BB]; omega)
                have HTP : Hid (t0 ≤ p2) := Lib.hid (by have := HT2.out; have := HLT.out; omega)
                have hpb : p2 < 8589934592 := by omega
                have hpq : p2 < q2 := by omega
                have HPV := Lib.hid (And.intro hp hv)
                clear hp hv hone
                by_cases hb : 4294967296 ≤ v2
                · have HEQ := Lib.hid (kn_brk U z0 y1 y0 p2 v2 HY0.out HY1.out HX2.out HNX.out (by have := HT2.out; have := HTP.out; omega) hb)
                  have hbi : (4294967296 : Int) ≤ (v2 : Int) := by omega
                  obtain rfl : p2 = t0 := by have := HT2.out; have := HEQ.out; omega
                  clear hb
                  go_wp2_with fail
                  go_wp2_with fail
                  go_ret2
                  exact ⟨by first | rfl | exact congrArg (fun x : Int => Ending.returned (Value.tuple #[Value.int IntKind.u64 x, Value.int IntKind.u64 (Rr : Int)])) HRQ.out | exact congrArg (fun x : Int => Ending.returned (Value.tuple #[Value.int IntKind.u64 x, Value.int IntKind.u64 (Rr : Int)])) HRW.out, rfl⟩
                · have hbi : ¬ (4294967296 : Int) ≤ (v2 : Int) := by omega
                  go_wp2_with fail
                  exact ⟨⟨p2, v2, rfl, rfl, HNX.out, HTP.out, hpb, by omega, by first | trivial | rfl⟩, by simp [intOf] <;> omega⟩
              · have HEQ := Lib.hid (kn_off U z0 y1 y0 q2 r2 HY0.out HY1.out HE2.out (by have := HT2.out; omega) (by rw [← HM.out, ← HK.out]; omega))
                have hci : ¬ (k : Int) < (m : Int) := by omega
                obtain rfl : q2 = t0 := by have := HT2.out; have := HEQ.out; omega
                go_wp2_with fail
                go_wp2_with fail
                go_ret2
                exact ⟨by first | rfl | exact congrArg (fun x : Int => Ending.returned (Value.tuple #[Value.int IntKind.u64 x, Value.int IntKind.u64 (Rr : Int)])) HRQ.out | exact congrArg (fun x : Int => Ending.returned (Value.tuple #[Value.int IntKind.u64 x, Value.int IntKind.u64 (Rr : Int)])) HRW.out, rfl⟩
        · have hbi : ¬ (4294967296 : Int) ≤ (v1 : Int) := by omega
          go_wp2_with fail
          exact ⟨⟨p1, v1, rfl, rfl, HNX.out, HTP.out, hpb, by omega, by first | trivial | rfl⟩, by simp [intOf] <;> omega⟩
      · have HEQ := Lib.hid (kn_off X z1 y1 y0 q1 r1 HY0.out HY1.out HE1.out (by have := HT1.out; omega) (by rw [← HM.out, ← HK.out]; omega))
        have hci : ¬ (k : Int) < (m : Int) := by omega
        obtain rfl : q1 = t1 := by have := HT1.out; have := HEQ.out; omega
        go_wp2_with fail
        go_loopw [18, 16] (fun a b wz => ∃ q r : Nat, a = .int .u64 (q : Int) ∧ b = .int .u64 (r : Int) ∧ q * y1 + r = U ∧ t0 ≤ q ∧ q < 8589934592 ∧ r < 4294967296 ∧ wz = wr) (fun a _ _ => (intOf a).toNat)
        case atStart => exact ⟨qs2, rs2, rfl, rfl, HS2.out.2.1, HS2.out.1, HS2.out.2.2.1, HS2.out.2.2.2, rfl⟩
        case round =>
          obtain ⟨q2, r2, rfl, rfl, he, hle, hqb, hrb, rfl⟩ := hrel
          have HE2 := Lib.hid he
          clear he
          by_cases hq : 4294967296 ≤ q2
          · have HLT := Lib.hid (kn_on U z0 y1 y0 q2 r2 HY0.out HY1.out HX2.out HZ2.out HE2.out (Or.inl hq))
            have hlt1 : t0 < q2 := by have := HT2.out; have := HLT.out; omega
            have hqi : (4294967296 : Int) ≤ (q2 : Int) := by omega
            have hone : 1 ≤ q2 := by omega
            obtain ⟨p2, hp⟩ : ∃ p, p = q2 - 1 := ⟨_, rfl⟩
            obtain ⟨v2, hv⟩ : ∃ v, v = r2 + y1 := ⟨_, rfl⟩
            have HNX := Lib.hid (kn_next U y1 q2 r2 HE2.out hone)
            rw [← hp, ← hv] at HNX
            have hw1 := w64i ((q2 : Int) - 1) p2 (by omega) (by simp only [BB]; omega)
            have hw2 := w64i ((r2 : Int) + (y1 : Int)) v2 (by omega) (by have := HY1b.out; simp only [BB]; omega)
            have HTP : Hid (t0 ≤ p2) := Lib.hid (by have := HT2.out; have := HLT.out; omega)
            have hpb : p2 < 8589934592 := by omega
            have hpq : p2 < q2 := by omega
            have HPV := Lib.hid (And.intro hp hv)
            clear hp hv hone
            by_cases hb : 4294967296 ≤ v2
            · have HEQ := Lib.hid (kn_brk U z0 y1 y0 p2 v2 HY0.out HY1.out HX2.out HNX.out (by have := HT2.out; have := HTP.out; omega) hb)
              have hbi : (4294967296 : Int) ≤ (v2 : Int) := by omega
              obtain rfl : p2 = t0 := by have := HT2.out; have := HEQ.out; omega
              clear hb
              go_wp2_with fail
              go_wp2_with fail
              go_ret2
              exact ⟨by first | rfl | exact congrArg (fun x : Int => Ending.returned (Value.tuple #[Value.int IntKind.u64 x, Value.int IntKind.u64 (Rr : Int)])) HRQ.out | exact congrArg (fun x : Int => Ending.returned (Value.tuple #[Value.int IntKind.u64 x, Value.int IntKind.u64 (Rr : Int)])) HRW.out, rfl⟩
            · have hbi : ¬ (4294967296 : Int) ≤ (v2 : Int) := by omega
              go_wp2_with fail
              exact ⟨⟨p2, v2, rfl, rfl, HNX.out, HTP.out, hpb, by omega, by first | trivial | rfl⟩, by simp [intOf] <;> omega⟩
          · have hqi : ¬ (4294967296 : Int) ≤ (q2 : Int) := by omega
            have hmb : q2 * y0 < BB := Nat.lt_of_le_of_lt (Nat.mul_le_mul (show q2 ≤ 4294967295 by omega) (show y0 ≤ 4294967295 by have := HY0.out; omega)) (by decide)
            have hw3 := w64i ((q2 : Int) * (y0 : Int)) (q2 * y0) (by simp) hmb
            have hw4 := w64i ((4294967296 : Int) * (r2 : Int)) (4294967296 * r2) (by simp) (by simp only [BB]; omega)
            have hw5 := w64i (((4294967296 * r2 : Nat) : Int) + (z0 : Int)) (4294967296 * r2 + z0) (by simp) (by have := HZ2.out; simp only [BB]; omega)
            have hM : Hid (∃ m, m = q2 * y0) := Lib.hid ⟨_, rfl⟩
            obtain ⟨m, hm⟩ := hM.out
            obtain ⟨k, hk⟩ : ∃ k, k = 4294967296 * r2 + z0 := ⟨_, rfl⟩
            obtain ⟨k0, hk0⟩ : ∃ k0, k0 = 4294967296 * r2 := ⟨_, rfl⟩
            rw [← hm] at hw3
            rw [← hk, ← hk0] at hw5
            rw [← hk0] at hw4
            have HM := Lib.hid hm
            have HK := Lib.hid hk
            clear hm hk hk0 hM hmb
            by_cases hc : k < m
            · have HLT := Lib.hid (kn_on U z0 y1 y0 q2 r2 HY0.out HY1.out HX2.out HZ2.out HE2.out (Or.inr (by rw [← HM.out, ← HK.out]; exact hc)))
              have hlt1 : t0 < q2 := by have := HT2.out; have := HLT.out; omega
              have hci : (k : Int) < (m : Int) := by omega
              have hone : 1 ≤ q2 := by omega
              obtain ⟨p2, hp⟩ : ∃ p, p = q2 - 1 := ⟨_, rfl⟩
              obtain ⟨v2, hv⟩ : ∃ v, v = r2 + y1 := ⟨_, rfl⟩
              have HNX := Lib.hid (kn_next U y1 q2 r2 HE2.out hone)
              rw [← hp, ← hv] at HNX
              have hw1 := w64i ((q2 : Int) - 1) p2 (by omega) (by simp only [BB]; omega)
              have hw2 := w64i ((r2 : Int) + (y1 : Int)) v2 (by omega) (by have := HY1b.out; simp only [BB]; omega)
              have HTP : Hid (t0 ≤ p2) := Lib.hid (by have := HT2.out; have := HLT.out; omega)
              have hpb : p2 < 8589934592 := by omega
              have hpq : p2 < q2 := by omega
              have HPV := Lib.hid (And.intro hp hv)
              clear hp hv hone
              by_cases hb : 4294967296 ≤ v2
              · have HEQ := Lib.hid (kn_brk U z0 y1 y0 p2 v2 HY0.out HY1.out HX2.out HNX.out (by have := HT2.out; have := HTP.out; omega) hb)
                have hbi : (4294967296 : Int) ≤ (v2 : Int) := by omega
                obtain rfl : p2 = t0 := by have := HT2.out; have := HEQ.out; omega
                clear hb
                go_wp2_with fail
                go_wp2_with fail
                go_ret2
                exact ⟨by first | rfl | exact congrArg (fun x : Int => Ending.returned (Value.tuple #[Value.int IntKind.u64 x, Value.int IntKind.u64 (Rr : Int)])) HRQ.out | exact congrArg (fun x : Int => Ending.returned (Value.tuple #[Value.int IntKind.u64 x, Value.int IntKind.u64 (Rr : Int)])) HRW.out, rfl⟩
              · have hbi : ¬ (4294967296 : Int) ≤ (v2 : Int) := by omega
                go_wp2_with fail
                exact ⟨⟨p2, v2, rfl, rfl, HNX.out, HTP.out, hpb, by omega, by first | trivial | rfl⟩, by simp [intOf] <;> omega⟩
            · have HEQ := Lib.hid (kn_off U z0 y1 y0 q2 r2 HY0.out HY1.out HE2.out (by have := HT2.out; omega) (by rw [← HM.out, ← HK.out]; omega))
              have hci : ¬ (k : Int) < (m : Int) := by omega
              obtain rfl : q2 = t0 := by have := HT2.out; have := HEQ.out; omega
              go_wp2_with fail
              go_wp2_with fail
              go_ret2
              exact ⟨by first | rfl | exact congrArg (fun x : Int => Ending.returned (Value.tuple #[Value.int IntKind.u64 x, Value.int IntKind.u64 (Rr : Int)])) HRQ.out | exact congrArg (fun x : Int => Ending.returned (Value.tuple #[Value.int IntKind.u64 x, Value.int IntKind.u64 (Rr : Int)])) HRW.out, rfl⟩

set_option maxRecDepth 100000 in
set_option maxHeartbeats 1600000 in
theorem dv_0 (lo y : Nat) (w : World) (h0 : 0 < y) (hyb : y < BB) (hlb : lo < BB) :
    Calls Tryz.prog 126 #[.int .u64 0, .int .u64 lo, .int .u64 y] w fun r w' => r = .returned (.tuple #[.int .u64 ((lo / y : Nat) : Int), .int .u64 ((lo % y : Nat) : Int)]) ∧ ∃ n, w' = w.drewN n := by
  have hy : ¬ ((y : Nat) : Int) = 0 := by omega
  have hb1 : (((y : Nat) : Int) == 0) = false := by simpa using hy
  have hle : ¬ y ≤ 0 := by omega
  have hlei : ¬ (y : Int) ≤ 0 := by omega
  have HQ := Lib.hid (show ((lo / y : Nat) : Int) = (lo : Int) / (y : Int) from by push_cast; rfl)
  have HR := Lib.hid (show ((lo % y : Nat) : Int) = (lo : Int) % (y : Int) from by push_cast; rfl)
  have hq := w64i ((lo : Int) / (y : Int)) (lo / y) (by rw [HQ.out]) (Nat.lt_of_le_of_lt (Nat.div_le_self _ _) hlb)
  have hr := w64i ((lo : Int) % (y : Int)) (lo % y) (by rw [HR.out]) (Nat.lt_of_le_of_lt (Nat.mod_le _ _) hlb)
  go_enter Tryz.func126, Tryz.ntmps126
  go_wp2_with fail
  go_quiet (fail)
  go_wp2_with fail
  go_ret2
  exact ⟨by first | rfl | (rw [HQ.out, HR.out]; rfl), nq, rfl⟩

end Go.Proofs.YtbfknapmhkpgcaaGreatDoor
