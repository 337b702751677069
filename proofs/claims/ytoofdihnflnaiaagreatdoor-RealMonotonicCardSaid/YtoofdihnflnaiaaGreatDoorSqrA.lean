/-
  Several texts in one (Sqr1, Sqr2, Sqr).
-/
import Derived.Test.YtoofdihnflnaiaaGreatDoorReal16
import Derived.Test.YtoofdihnflnaiaaGreatDoorStk

namespace Go.Proofs.YtoofdihnflnaiaaGreatDoor
open Go.RowKit
set_option linter.unusedVariables false

set_option maxRecDepth 100000 in
set_option maxHeartbeats 1600000 in
theorem wholeRoot_any (n : Nat) (w : World) (hn : n < 4611686018427387904) :
    Calls Tryz.prog 67 #[.int .i64 n] w fun r w' => r = .returned (.int .i64 (sqr n)) ∧ w' = w := by
  go_enter Tryz.func67, Tryz.ntmps67
  go_wp2_with fail
  go_loopw [3, 4] (fun f b wr => ∃ (Fv k : Nat) (x : Int), k ≤ 31 ∧ f = .int .i64 (Fv : Int) ∧ b = .int .i64 x ∧ x = ((2 ^ k / 2 : Nat) : Int) ∧ Fv + 2 ^ k ≤ 2147483648 ∧ Fv * Fv ≤ n ∧ n < (Fv + 2 ^ k) * (Fv + 2 ^ k) ∧ wr = w) (fun _ b _ => (intOf b).toNat)
  case atStart => exact ⟨0, 31, 1073741824, Nat.le_refl _, rfl, rfl, by decide, by decide, Nat.zero_le _, by simpa using hn, rfl⟩
  case round =>
    obtain ⟨Fv, k, x, hk, rfl, rfl, hx, h1, h2, h3, rfl⟩ := hrel
    rcases k with _ | j
    · have E := Lib.hid (sqr_unique h2 h3)
      obtain rfl : x = 0 := hx
      clear h1 h2 h3 hn
      go_wp2_with fail
      go_ret
      exact ⟨by rw [E.out]; rfl, rfl⟩
    · have hB : (2 : Nat) ^ (j + 1) = 2 * 2 ^ j := by rw [Nat.pow_succ, Nat.mul_comm]
      have hb0 : 0 < 2 ^ j := Nat.pow_pos (by decide)
      rw [hB] at h1 h3
      obtain ⟨B, hBe⟩ : ∃ B, B = 2 ^ j := ⟨_, rfl⟩
      rw [← hBe] at h1 h3 hb0
      rw [hB, ← hBe] at hx
      obtain rfl : x = (B : Int) := by omega
      clear hx
      have hs : (B : Int) / 2 = ((2 ^ j / 2 : Nat) : Int) := by rw [← hBe]; omega
      have HS := Lib.hid hs
      obtain ⟨X, hX⟩ : ∃ X, X = Fv + B := ⟨_, rfl⟩
      have hX2 : X ≤ 2147483648 := by omega
      have hXX : X * X ≤ 4611686018427387904 := Nat.le_trans (Nat.mul_le_mul hX2 hX2) (by decide)
      have ww1 : IntKind.i64.wrap ((Fv : Int) + (B : Int)) = (X : Int) := by rw [i64_in _ (by omega) (by omega)]; omega
      have ww2 : IntKind.i64.wrap ((X : Int) * (X : Int)) = ((X * X : Nat) : Int) := by
        have hm := Int.natCast_mul X X
        rw [← hm]
        exact i64_in _ (by omega) (by omega)
      have hpos : (0 : Int) < (B : Int) := by omega
      by_cases hc : X * X ≤ n
      · have hci : ((X * X : Nat) : Int) ≤ (n : Int) := by omega
        have HN := Lib.hid (show X + 2 ^ j ≤ 2147483648 ∧ X * X ≤ n ∧ n < (X + 2 ^ j) * (X + 2 ^ j) from ⟨by rw [← hBe]; omega, hc, by rw [← hBe, hX, show Fv + B + B = Fv + 2 * B from by omega]; exact h3⟩)
        clear h1 h2 h3 hB hXX hc hX2 hBe hs hX
        go_wp2_with fail
        go_roundw
        case rel => exact ⟨X, j, _, by omega, rfl, rfl, HS.out, HN.out.1, HN.out.2.1, HN.out.2.2, by first | rfl | trivial⟩
        case measure => simp [intOf]; omega
      · have hci : ¬ ((X * X : Nat) : Int) ≤ (n : Int) := by omega
        have HN := Lib.hid (show Fv + 2 ^ j ≤ 2147483648 ∧ Fv * Fv ≤ n ∧ n < (Fv + 2 ^ j) * (Fv + 2 ^ j) from ⟨by rw [← hBe]; omega, h2, by rw [← hBe, ← hX]; omega⟩)
        clear h1 h2 h3 hB hXX hc hX2 hBe hs hX
        go_wp2_with fail
        go_roundw
        case rel => exact ⟨Fv, j, _, by omega, rfl, rfl, HS.out, HN.out.1, HN.out.2.1, HN.out.2.2, by first | rfl | trivial⟩
        case measure => simp [intOf]; omega

end Go.Proofs.YtoofdihnflnaiaaGreatDoor

namespace Go.Proofs.YtoofdihnflnaiaaGreatDoor
open Go.RowKit
set_option linter.unusedVariables false

set_option maxRecDepth 100000 in
set_option maxHeartbeats 1600000 in
theorem root_odd (m e L S0 : Int) (R P : Nat) (T : Bool) (w : World) (m1 : 0 ≤ m) (m2 : m ≤ 16777216) (e1 : -1000 ≤ e) (e2 : e ≤ 1000) (HL : Hid ((Lib.bitLen m.toNat : Int) = L)) (l1 : 0 ≤ L) (l2 : L ≤ 61) (hS0 : IntKind.i64.wrap (62 - L) = S0) (s1 : 37 ≤ S0) (s2 : S0 ≤ 62) (S : Int) (hS : IntKind.i64.wrap (S0 - 1) = S) (s3 : 37 ≤ S) (s4 : S ≤ 62)
    (ht : ((e - S0).tmod 2 != 0) = true) (hP : m * 2 ^ S.toNat = (P : Int)) (p2 : P < 4611686018427387904) (HR : Hid (sqr P = R)) (r2 : R ≤ 2147483648) (hT : ((R : Int) * R != (P : Int)) = T) :
    Calls Tryz.prog 52 #[realV m e] w fun r w' => r = .returned (realV (stk R T) ((e - S).tdiv 2 - 1)) ∧ Below w.heap.size w w' := by
  have HW := Lib.hid (fun w => wholeRoot_any P w p2)
  rw [HR.out] at HW
  have HW1 := i64_in (P : Int) (by omega) (by omega)
  have hm := Int.natCast_mul R R
  have RRn : R * R ≤ 4611686018427387904 := Nat.le_trans (Nat.mul_le_mul r2 r2) (by decide)
  have ww2 : IntKind.i64.wrap ((R : Int) * (R : Int)) = (R : Int) * R := i64_in _ (by omega) (by omega)
  clear RRn hm
  have wd : IntKind.i64.wrap (e - S0) = e - S0 := i64_in _ (by omega) (by omega)
  have wa : IntKind.i64.wrap (e - S) = e - S := i64_in _ (by omega) (by omega)
  have nt : ((e - S).tdiv 2).natAbs = (e - S).natAbs / 2 := Int.natAbs_tdiv _ _
  have wb : IntKind.i64.wrap ((e - S).tdiv 2) = (e - S).tdiv 2 := i64_in _ (by omega) (by omega)
  have wc : IntKind.i64.wrap ((e - S).tdiv 2 - 1) = (e - S).tdiv 2 - 1 := i64_in _ (by omega) (by omega)
  obtain ⟨EX, hEX⟩ : ∃ x, x = (e - S).tdiv 2 := ⟨_, rfl⟩
  rw [← hEX] at wb wc ⊢
  have hEX' := hEX.symm
  clear p2 nt hEX
  go_enter Tryz.func52, Tryz.ntmps52
  go_wp2_with fail
  refine (Tryz.bits_Len m _ (by omega) (by omega)).mono ?_
  rintro r w1 ⟨rfl, rfl⟩
  rw [HL.out]
  go_wp2_with fail
  try rw [hP]
  try rw [HW1]
  refine (HW.out _).mono ?_
  rintro r w2 ⟨rfl, rfl⟩
  have HB0 := Lib.hid ((by repeat (first | exact Below.refl _ _ | refine Below.alloc ?_ (by simp <;> omega) _) : Below w.heap.size w ((w.alloc (Obj.cells #[Value.int IntKind.i64 m, Value.int IntKind.i64 e] 23)).alloc
            (Obj.cells #[Value.int IntKind.i64 0, Value.int IntKind.i64 0] 44))))
  go_wp2_with fail
  go_region_held3 (fun wx => wx.cell? ⟨w.heap.size, 0, none⟩ = some (.int .i64 m) ∧ wx.cell? ⟨w.heap.size, 1, none⟩ = some (.int .i64 e) ∧ w.heap.size < wx.heap.size ∧ Below w.heap.size w wx) (first | (go_keep; done) | ((try go_split_ands); (repeat' apply And.intro) <;> first | with_reducible assumption | (exact carry hbq (by with_reducible assumption)) | (go_simp; done) | (simp only [World.size_alloc, World.size_drew]; omega) | ((repeat (first | with_reducible assumption | with_reducible exact HB0.out | with_reducible refine Below.drew ?_ | with_reducible refine Below.setCell ?_ (by first | omega | (simp; done) | (simp <;> omega)) _)); done) | (exact Nat.lt_of_lt_of_le (by first | with_reducible assumption | (simp <;> omega)) hbq.size) | (simp <;> omega)))
    (first
      | (go_at_call 59; ((with_reducible refine (sticky_any _ _ _ (by omega) (by omega)).mono ?_); rintro r wq ⟨rfl, hbq⟩; have q0 : wq.cell? ⟨w.heap.size + 1, 0, none⟩ = some (.int .i64 0) := carry hbq (by first | with_reducible assumption | go_simp); have : wq.frozen? ⟨w.heap.size + 1, 0, none⟩ = false := carryF hbq (v := .int .i64 0) (by first | with_reducible assumption | go_simp) (by first | with_reducible assumption | go_simp); have q1 : wq.cell? ⟨w.heap.size + 1, 1, none⟩ = some (.int .i64 0) := carry hbq (by first | with_reducible assumption | go_simp); have : wq.frozen? ⟨w.heap.size + 1, 1, none⟩ = false := carryF hbq (v := .int .i64 0) (by first | with_reducible assumption | go_simp) (by first | with_reducible assumption | go_simp); have : w.heap.size + 1 < wq.heap.size := Nat.lt_of_lt_of_le (by first | with_reducible assumption | (simp <;> omega)) hbq.size; have : Below w.heap.size w wq := Below.trans (by first | with_reducible assumption | with_reducible exact HB0.out.drew | with_reducible exact HB0.out) (hbq.mono (by first | omega | (simp <;> omega))))))
  clear HB0
  rename _ ∧ _ ∧ _ ∧ Below w.heap.size w _ => hS
  have HBB := Lib.hid hS.2.2.2
  clear hS
  go_wp2_with fail
  refine bodyPost_ret (v := realV (stk R T) (EX - 1)) (by simp [results, Tryz.results52, go_sem, q0, q1]) rfl ⟨rfl, by repeat (first | with_reducible exact HBB.out | with_reducible exact Below.refl _ _ | with_reducible refine Below.drew ?_ | with_reducible refine belowN ?_ _ | with_reducible refine Below.setCell ?_ (by first | omega | (simp; done) | (simp; omega)) _ | with_reducible refine Below.alloc ?_ (by first | omega | (simp; done) | (simp; omega)) _)⟩

set_option maxRecDepth 100000 in
set_option maxHeartbeats 1600000 in
theorem root_even (m e L S0 : Int) (R P : Nat) (T : Bool) (w : World) (m1 : 0 ≤ m) (m2 : m ≤ 16777216) (e1 : -1000 ≤ e) (e2 : e ≤ 1000) (HL : Hid ((Lib.bitLen m.toNat : Int) = L)) (l1 : 0 ≤ L) (l2 : L ≤ 61) (hS0 : IntKind.i64.wrap (62 - L) = S0) (s1 : 37 ≤ S0) (s2 : S0 ≤ 62) 
    (ht : ((e - S0).tmod 2 != 0) = false) (hP : m * 2 ^ S0.toNat = (P : Int)) (p2 : P < 4611686018427387904) (HR : Hid (sqr P = R)) (r2 : R ≤ 2147483648) (hT : ((R : Int) * R != (P : Int)) = T) :
    Calls Tryz.prog 52 #[realV m e] w fun r w' => r = .returned (realV (stk R T) ((e - S0).tdiv 2 - 1)) ∧ Below w.heap.size w w' := by
  have HW := Lib.hid (fun w => wholeRoot_any P w p2)
  rw [HR.out] at HW
  have HW1 := i64_in (P : Int) (by omega) (by omega)
  have hm := Int.natCast_mul R R
  have RRn : R * R ≤ 4611686018427387904 := Nat.le_trans (Nat.mul_le_mul r2 r2) (by decide)
  have ww2 : IntKind.i64.wrap ((R : Int) * (R : Int)) = (R : Int) * R := i64_in _ (by omega) (by omega)
  clear RRn hm
  have wd : IntKind.i64.wrap (e - S0) = e - S0 := i64_in _ (by omega) (by omega)
  have wa : IntKind.i64.wrap (e - S0) = e - S0 := i64_in _ (by omega) (by omega)
  have nt : ((e - S0).tdiv 2).natAbs = (e - S0).natAbs / 2 := Int.natAbs_tdiv _ _
  have wb : IntKind.i64.wrap ((e - S0).tdiv 2) = (e - S0).tdiv 2 := i64_in _ (by omega) (by omega)
  have wc : IntKind.i64.wrap ((e - S0).tdiv 2 - 1) = (e - S0).tdiv 2 - 1 := i64_in _ (by omega) (by omega)
  obtain ⟨EX, hEX⟩ : ∃ x, x = (e - S0).tdiv 2 := ⟨_, rfl⟩
  rw [← hEX] at wb wc ⊢
  have hEX' := hEX.symm
  clear p2 nt hEX
  go_enter Tryz.func52, Tryz.ntmps52
  go_wp2_with fail
  refine (Tryz.bits_Len m _ (by omega) (by omega)).mono ?_
  rintro r w1 ⟨rfl, rfl⟩
  rw [HL.out]
  go_wp2_with fail
  try rw [hP]
  try rw [HW1]
  refine (HW.out _).mono ?_
  rintro r w2 ⟨rfl, rfl⟩
  have HB0 := Lib.hid ((by repeat (first | exact Below.refl _ _ | refine Below.alloc ?_ (by simp <;> omega) _) : Below w.heap.size w ((w.alloc (Obj.cells #[Value.int IntKind.i64 m, Value.int IntKind.i64 e] 23)).alloc
            (Obj.cells #[Value.int IntKind.i64 0, Value.int IntKind.i64 0] 44))))
  go_wp2_with fail
  go_region_held3 (fun wx => wx.cell? ⟨w.heap.size, 0, none⟩ = some (.int .i64 m) ∧ wx.cell? ⟨w.heap.size, 1, none⟩ = some (.int .i64 e) ∧ w.heap.size < wx.heap.size ∧ Below w.heap.size w wx) (first | (go_keep; done) | ((try go_split_ands); (repeat' apply And.intro) <;> first | with_reducible assumption | (exact carry hbq (by with_reducible assumption)) | (go_simp; done) | (simp only [World.size_alloc, World.size_drew]; omega) | ((repeat (first | with_reducible assumption | with_reducible exact HB0.out | with_reducible refine Below.drew ?_ | with_reducible refine Below.setCell ?_ (by first | omega | (simp; done) | (simp <;> omega)) _)); done) | (exact Nat.lt_of_lt_of_le (by first | with_reducible assumption | (simp <;> omega)) hbq.size) | (simp <;> omega)))
    (first
      | (go_at_call 59; ((with_reducible refine (sticky_any _ _ _ (by omega) (by omega)).mono ?_); rintro r wq ⟨rfl, hbq⟩; have q0 : wq.cell? ⟨w.heap.size + 1, 0, none⟩ = some (.int .i64 0) := carry hbq (by first | with_reducible assumption | go_simp); have : wq.frozen? ⟨w.heap.size + 1, 0, none⟩ = false := carryF hbq (v := .int .i64 0) (by first | with_reducible assumption | go_simp) (by first | with_reducible assumption | go_simp); have q1 : wq.cell? ⟨w.heap.size + 1, 1, none⟩ = some (.int .i64 0) := carry hbq (by first | with_reducible assumption | go_simp); have : wq.frozen? ⟨w.heap.size + 1, 1, none⟩ = false := carryF hbq (v := .int .i64 0) (by first | with_reducible assumption | go_simp) (by first | with_reducible assumption | go_simp); have : w.heap.size + 1 < wq.heap.size := Nat.lt_of_lt_of_le (by first | with_reducible assumption | (simp <;> omega)) hbq.size; have : Below w.heap.size w wq := Below.trans (by first | with_reducible assumption | with_reducible exact HB0.out.drew | with_reducible exact HB0.out) (hbq.mono (by first | omega | (simp <;> omega))))))
  clear HB0
  rename _ ∧ _ ∧ _ ∧ Below w.heap.size w _ => hS
  have HBB := Lib.hid hS.2.2.2
  clear hS
  go_wp2_with fail
  refine bodyPost_ret (v := realV (stk R T) (EX - 1)) (by simp [results, Tryz.results52, go_sem, q0, q1]) rfl ⟨rfl, by repeat (first | with_reducible exact HBB.out | with_reducible exact Below.refl _ _ | with_reducible refine Below.drew ?_ | with_reducible refine belowN ?_ _ | with_reducible refine Below.setCell ?_ (by first | omega | (simp; done) | (simp; omega)) _ | with_reducible refine Below.alloc ?_ (by first | omega | (simp; done) | (simp; omega)) _)⟩

end Go.Proofs.YtoofdihnflnaiaaGreatDoor

namespace Go.Proofs.YtoofdihnflnaiaaGreatDoor
open Go.RowKit
set_option linter.unusedVariables false

def sqL (m : Int) : Int := (Lib.bitLen m.toNat : Int)
def sqO (m e : Int) : Bool := (e - (62 - sqL m)).tmod 2 != 0
def sqS (m e : Int) : Int := if sqO m e = true then 62 - sqL m - 1 else 62 - sqL m
def sqP (m e : Int) : Nat := (m * 2 ^ (sqS m e).toNat).toNat
def sqM (m e : Int) : Int := (sts (sqP m e) 0 : Int)
def sqE (m e : Int) : Int := (e - sqS m e).tdiv 2 - 1

theorem sqL_bd {m : Int} (m1 : 0 ≤ m) (m2 : m < 16777216) : 0 ≤ sqL m ∧ sqL m ≤ 24 ∧ m < 2 ^ (sqL m).toNat ∧ (0 < m → 1 ≤ sqL m ∧ 2 ^ ((sqL m).toNat - 1) ≤ m) := by
  unfold sqL
  by_cases h : m = 0
  · subst h
    have : Lib.bitLen (0 : Int).toNat = 0 := rfl
    rw [this]
    exact ⟨by omega, by omega, by decide, fun h => by omega⟩
  · obtain ⟨k1, k2, k3, k4⟩ := bl_bd m (by omega) (by omega)
    have := Lib.bitLen_le m.toNat 24 (by omega) (by omega)
    generalize Lib.bitLen m.toNat = L at *
    exact ⟨by omega, by omega, by simpa using k4, fun _ => ⟨by omega, by simpa using k3⟩⟩

theorem sq_bd {m e : Int} (m1 : 0 ≤ m) (m2 : m < 16777216) : 37 ≤ sqS m e ∧ sqS m e ≤ 62 ∧ m * 2 ^ (sqS m e).toNat = (sqP m e : Int) ∧ sqP m e < 4611686018427387904 ∧ (0 < m → 1152921504606846976 ≤ sqP m e) := by
  obtain ⟨l1, l2, l3, l4⟩ := sqL_bd m1 m2
  have hs : sqS m e = 62 - sqL m - 1 ∨ sqS m e = 62 - sqL m := by unfold sqS; split <;> simp
  have hp : (0 : Int) < 2 ^ (sqS m e).toNat := pow_pos _
  have hn : m * 2 ^ (sqS m e).toNat = (sqP m e : Int) := by
    unfold sqP
    have := Int.mul_nonneg m1 (Int.le_of_lt hp)
    omega
  refine ⟨by omega, by omega, hn, ?_, fun h0 => ?_⟩
  · have h : m * 2 ^ (sqS m e).toNat < 2 ^ (sqL m).toNat * 2 ^ (sqS m e).toNat := Int.mul_lt_mul_of_pos_right l3 hp
    rw [← Int.pow_add, hn] at h
    have h2 : (2 : Int) ^ ((sqL m).toNat + (sqS m e).toNat) ≤ 2 ^ 62 := by exact_mod_cast Nat.pow_le_pow_right (n := 2) (by decide) (show (sqL m).toNat + (sqS m e).toNat ≤ 62 by omega)
    omega
  · obtain ⟨k1, k2⟩ := l4 h0
    have h : 2 ^ ((sqL m).toNat - 1) * 2 ^ (sqS m e).toNat ≤ m * 2 ^ (sqS m e).toNat := Int.mul_le_mul_of_nonneg_right k2 (Int.le_of_lt hp)
    rw [← Int.pow_add, hn] at h
    have h2 : (2 : Int) ^ 60 ≤ 2 ^ ((sqL m).toNat - 1 + (sqS m e).toNat) := by exact_mod_cast Nat.pow_le_pow_right (n := 2) (by decide) (show 60 ≤ (sqL m).toNat - 1 + (sqS m e).toNat by omega)
    omega

theorem sqr_bd {P : Nat} (h : P < 4611686018427387904) : sqr P ≤ 2147483647 := by
  have := sqr_lt (n := P) (f := 2147483648) (by omega)
  omega

theorem stk_sts (P : Nat) : stk (sqr P : Int) ((sqr P : Int) * (sqr P : Int) != (P : Int)) = (sts P 0 : Int) := by
  rw [← Int.natCast_mul]
  unfold stk sts
  rw [Nat.pow_zero, Nat.mul_one]
  by_cases h : sqr P * sqr P = P
  · rw [if_pos h, if_neg (by rw [h]; simp)]
    omega
  · rw [if_neg h, if_pos (by rw [bne_iff_ne]; exact fun h' => h (Int.ofNat.inj h'))]
    omega

theorem root_any (m e : Int) (w : World) (m1 : 0 ≤ m) (m2 : m < 16777216) (e1 : -1000 ≤ e) (e2 : e ≤ 1000) :
    Calls Tryz.prog 52 #[realV m e] w fun r w' => r = .returned (realV (sqM m e) (sqE m e)) ∧ Below w.heap.size w w' := by
  obtain ⟨b1, b2, b3, b4, _⟩ := sq_bd (e := e) m1 m2
  obtain ⟨l1, l2, _, _⟩ := sqL_bd m1 m2
  have hr := sqr_bd b4
  unfold sqM sqE
  rw [← stk_sts]
  cases ht : sqO m e
  · have hs : sqS m e = 62 - sqL m := by unfold sqS; rw [ht, if_neg (by simp)]
    rw [hs] at b3 ⊢
    exact root_even m e (sqL m) (62 - sqL m) (sqr (sqP m e)) (sqP m e) _ w m1 (by omega) e1 e2 (Lib.hid rfl) l1 (by omega) (i64_in _ (by omega) (by omega)) (by omega) (by omega) ht b3 b4 (Lib.hid rfl) (by omega) rfl
  · have hs : sqS m e = 62 - sqL m - 1 := by unfold sqS; rw [ht, if_pos rfl]
    rw [hs] at b3 ⊢
    exact root_odd m e (sqL m) (62 - sqL m) (sqr (sqP m e)) (sqP m e) _ w m1 (by omega) e1 e2 (Lib.hid rfl) l1 (by omega) (i64_in _ (by omega) (by omega)) (by omega) (by omega) (62 - sqL m - 1) (i64_in _ (by omega) (by omega)) (by omega) (by omega) ht b3 b4 (Lib.hid rfl) (by omega) rfl

set_option maxRecDepth 100000 in
set_option maxHeartbeats 1600000 in
theorem sqc (b : Nat) (m e : Int) (w : World) (c0 : w.cell? ⟨b, 0, none⟩ = some (.int .i64 m)) (c1 : w.cell? ⟨b, 1, none⟩ = some (.int .i64 e)) (zb : b < w.heap.size) (m1 : 0 ≤ m) (m2 : m < 16777216) (e1 : -1000 ≤ e) (e2 : e ≤ 1000) :
    Calls Tryz.prog 51 #[.pointer (some ⟨b, 0, none⟩)] w fun r w' => r = .returned (realV (sqM m e) (sqE m e)) ∧ Below w.heap.size w w' := by
  have HS := Lib.hid (fun w => root_any m e w m1 m2 e1 e2)
  generalize sqM m e = am at HS ⊢
  generalize sqE m e = ae at HS ⊢
  go_enter Tryz.func51, Tryz.ntmps51
  go_wp2_with fail
  refine (HS.out _).mono ?_
  rintro r w1 ⟨rfl, hb1⟩
  have f0_0 : w1.frozen? ⟨w.heap.size, 0, none⟩ = false := carryF hb1 (v := .int .i64 0) (by first | with_reducible assumption | go_simp) (by first | with_reducible assumption | go_simp)
  have f0_1 : w1.frozen? ⟨w.heap.size, 1, none⟩ = false := carryF hb1 (v := .int .i64 0) (by first | with_reducible assumption | go_simp) (by first | with_reducible assumption | go_simp)
  have c0_0 : w1.cell? ⟨w.heap.size, 0, none⟩ = some (.int .i64 0) := carry hb1 (by first | with_reducible assumption | go_simp)
  have c0_1 : w1.cell? ⟨w.heap.size, 1, none⟩ = some (.int .i64 0) := carry hb1 (by first | with_reducible assumption | go_simp)
  have z0 : w.heap.size < w1.heap.size := by have := hb1.size; first | omega | (simp at this; omega)
  have HBB := Lib.hid ((by repeat (first | with_reducible exact Below.refl _ _ | with_reducible refine Below.setCell ?_ (by first | omega | (simp; done) | (simp; omega)) _ | with_reducible refine Below.drew ?_ | with_reducible refine belowN ?_ _ | with_reducible refine Below.alloc ?_ (by first | omega | (simp; done) | (simp; omega)) _) : Below w.heap.size w _).trans (hb1.mono (by first | omega | (simp; done) | (simp; omega))))
  clear hb1
  go_wp2_with fail
  refine bodyPost_ret (v := realV am ae) (by simp [results, Tryz.results51, go_sem, c0_0, c0_1]) rfl ⟨rfl, by repeat (first | with_reducible exact HBB.out | with_reducible exact Below.refl _ _ | with_reducible refine Below.drew ?_ | with_reducible refine belowN ?_ _ | with_reducible refine Below.setCell ?_ (by first | omega | (simp; done) | (simp; omega)) _ | with_reducible refine Below.alloc ?_ (by first | omega | (simp; done) | (simp; omega)) _)⟩

set_option maxRecDepth 100000 in
set_option maxHeartbeats 1600000 in
theorem sqrt_neg (m e : Int) (w : World) (HV : Hid (vr m e = true)) (hm : m < 0) :
    Calls Tryz.prog 25 #[realV m e] w fun r w' => r = .returned (rE 0 0 5) ∧ Below w.heap.size w w' := by
  obtain ⟨m1, m2, e1, e2⟩ := vr_bd HV.out
  go_enter Tryz.func25, Tryz.ntmps25
  go_wp2_with fail
  refine (valid_is HV.out _ (by omega) (by omega)).mono ?_
  rintro r w1 ⟨rfl, hb1⟩
  have f1_0 : w1.frozen? ⟨w.heap.size + 1, 0, none⟩ = false := carryF hb1 (v := .int .i64 0) (by first | with_reducible assumption | go_simp) (by first | with_reducible assumption | go_simp)
  have f1_1 : w1.frozen? ⟨w.heap.size + 1, 1, none⟩ = false := carryF hb1 (v := .int .i64 0) (by first | with_reducible assumption | go_simp) (by first | with_reducible assumption | go_simp)
  have c0_0 : w1.cell? ⟨w.heap.size, 0, none⟩ = some (.int .i64 m) := carry hb1 (by first | with_reducible assumption | go_simp)
  have c0_1 : w1.cell? ⟨w.heap.size, 1, none⟩ = some (.int .i64 e) := carry hb1 (by first | with_reducible assumption | go_simp)
  have z0 : w.heap.size < w1.heap.size := by have := hb1.size; first | omega | (simp at this; omega)
  have c1_0 : w1.cell? ⟨w.heap.size + 1, 0, none⟩ = some (.int .i64 0) := carry hb1 (by first | with_reducible assumption | go_simp)
  have c1_1 : w1.cell? ⟨w.heap.size + 1, 1, none⟩ = some (.int .i64 0) := carry hb1 (by first | with_reducible assumption | go_simp)
  have z1 : w.heap.size + 1 < w1.heap.size := by have := hb1.size; first | omega | (simp at this; omega)
  have HBB := Lib.hid ((by repeat (first | with_reducible exact Below.refl _ _ | with_reducible refine Below.setCell ?_ (by first | omega | (simp; done) | (simp; omega)) _ | with_reducible refine Below.drew ?_ | with_reducible refine belowN ?_ _ | with_reducible refine Below.alloc ?_ (by first | omega | (simp; done) | (simp; omega)) _) : Below w.heap.size w _).trans (hb1.mono (by first | omega | (simp; done) | (simp; omega))))
  clear hb1
  go_wp2_with fail
  refine bodyPost_ret (v := rE 0 0 5) (by simp [results, Tryz.results25, go_sem, c1_0, c1_1]) rfl ⟨rfl, by repeat (first | with_reducible exact HBB.out | with_reducible exact Below.refl _ _ | with_reducible refine Below.drew ?_ | with_reducible refine belowN ?_ _ | with_reducible refine Below.setCell ?_ (by first | omega | (simp; done) | (simp; omega)) _ | with_reducible refine Below.alloc ?_ (by first | omega | (simp; done) | (simp; omega)) _)⟩

set_option maxRecDepth 100000 in
set_option maxHeartbeats 1600000 in
theorem sqrt_ok (m e : Int) (w : World) (HV : Hid (vr m e = true)) (hm : ¬ m < 0) :
    Calls Tryz.prog 25 #[realV m e] w fun r w' => r = .returned (oV (sqM m e) (sqE m e)) ∧ Below w.heap.size w w' := by
  have hmf : ∀ (fn : Fn) (first cap : Array Value) (w : World), (Instr.makeFunc fn first cap).run Tryz.prog w = .ok (.func fn first cap) w := fun _ _ _ _ => rfl
  obtain ⟨m1, m2, e1, e2⟩ := vr_bd HV.out
  have HE := Lib.hid (fun caps W => Go.Proofs.enters_of (P := Tryz.prog) Tryz.func51 (by kernel_rfl) rfl caps W)
  have HB1 := Lib.hid (show -9223372036854775808 ≤ sqM m e ∧ sqM m e ≤ 9223372036854775807 ∧ -2000 ≤ sqE m e ∧ sqE m e ≤ 2000 from by
    obtain ⟨b1, b2, b3, b4, _⟩ := sq_bd (m := m) (e := e) (by omega) (by omega)
    have hr := sqr_bd b4
    have hS : sts (sqP m e) 0 ≤ 2 * sqr (sqP m e) + 1 := by unfold sts; rw [Nat.pow_zero, Nat.mul_one]; split <;> omega
    have hT : ((e - sqS m e).tdiv 2).natAbs = (e - sqS m e).natAbs / 2 := Int.natAbs_tdiv _ _
    unfold sqM sqE
    omega)
  go_enter Tryz.func25, Tryz.ntmps25
  go_wp2_with fail
  refine (valid_is HV.out _ (by omega) (by omega)).mono ?_
  rintro r w1 ⟨rfl, hb1⟩
  have f1_0 : w1.frozen? ⟨w.heap.size + 1, 0, none⟩ = false := carryF hb1 (v := .int .i64 0) (by first | with_reducible assumption | go_simp) (by first | with_reducible assumption | go_simp)
  have f1_1 : w1.frozen? ⟨w.heap.size + 1, 1, none⟩ = false := carryF hb1 (v := .int .i64 0) (by first | with_reducible assumption | go_simp) (by first | with_reducible assumption | go_simp)
  have c0_0 : w1.cell? ⟨w.heap.size, 0, none⟩ = some (.int .i64 m) := carry hb1 (by first | with_reducible assumption | go_simp)
  have c0_1 : w1.cell? ⟨w.heap.size, 1, none⟩ = some (.int .i64 e) := carry hb1 (by first | with_reducible assumption | go_simp)
  have z0 : w.heap.size < w1.heap.size := by have := hb1.size; first | omega | (simp at this; omega)
  have c1_0 : w1.cell? ⟨w.heap.size + 1, 0, none⟩ = some (.int .i64 0) := carry hb1 (by first | with_reducible assumption | go_simp)
  have c1_1 : w1.cell? ⟨w.heap.size + 1, 1, none⟩ = some (.int .i64 0) := carry hb1 (by first | with_reducible assumption | go_simp)
  have z1 : w.heap.size + 1 < w1.heap.size := by have := hb1.size; first | omega | (simp at this; omega)
  have HBB := Lib.hid ((by repeat (first | with_reducible exact Below.refl _ _ | with_reducible refine Below.setCell ?_ (by first | omega | (simp; done) | (simp; omega)) _ | with_reducible refine Below.drew ?_ | with_reducible refine belowN ?_ _ | with_reducible refine Below.alloc ?_ (by first | omega | (simp; done) | (simp; omega)) _) : Below w.heap.size w _).trans (hb1.mono (by first | omega | (simp; done) | (simp; omega))))
  clear hb1
  go_wp2_with fail
  refine (ev_any _ _ (sqM m e) (sqE m e) _ (Lib.hid fun W => HE.out _ W) (Lib.hid fun W hW => sqc w.heap.size m e W (carry hW c0_0) (carry hW c0_1) (Nat.lt_of_lt_of_le z0 hW.size) (by omega) (by omega) (by omega) (by omega)) HB1.out.1 HB1.out.2.1 HB1.out.2.2.1 HB1.out.2.2.2).mono ?_
  rintro r w2 ⟨rfl, hb2⟩
  have f1_0 : w2.frozen? ⟨w.heap.size + 1, 0, none⟩ = false := carryF hb2 (v := .int .i64 0) (by first | with_reducible assumption | go_simp) (by first | with_reducible assumption | go_simp)
  have f1_1 : w2.frozen? ⟨w.heap.size + 1, 1, none⟩ = false := carryF hb2 (v := .int .i64 0) (by first | with_reducible assumption | go_simp) (by first | with_reducible assumption | go_simp)
  have c1_0 : w2.cell? ⟨w.heap.size + 1, 0, none⟩ = some (.int .i64 0) := carry hb2 (by first | with_reducible assumption | go_simp)
  have c1_1 : w2.cell? ⟨w.heap.size + 1, 1, none⟩ = some (.int .i64 0) := carry hb2 (by first | with_reducible assumption | go_simp)
  have z1 : w.heap.size + 1 < w2.heap.size := by have := hb2.size; first | omega | (simp at this; omega)
  have HBB := Lib.hid ((by repeat (first | with_reducible exact HBB.out | with_reducible refine Below.setCell ?_ (by first | omega | (simp; done) | (simp; omega)) _ | with_reducible refine Below.drew ?_ | with_reducible refine belowN ?_ _ | with_reducible refine Below.alloc ?_ (by first | omega | (simp; done) | (simp; omega)) _) : Below w.heap.size w _).trans (hb2.mono (by first | omega | (simp; done) | (simp; omega))))
  clear hb2
  clear HB1
  unfold oV
  generalize hm' : roM (sqM m e) (sqE m e) = am
  generalize he' : roE (sqM m e) (sqE m e) = ae
  generalize hx' : roX (sqM m e) (sqE m e) = ax
  have HQ := Lib.hid (And.intro hm' (And.intro he' hx'))
  clear hm' he' hx'
  go_wp2_with fail
  refine bodyPost_ret (v := rE am ae ax) (by simp [results, Tryz.results25, go_sem, c1_0, c1_1]) rfl ⟨by rw [← HQ.out.1, ← HQ.out.2.1, ← HQ.out.2.2], by repeat (first | with_reducible exact HBB.out | with_reducible exact Below.refl _ _ | with_reducible refine Below.drew ?_ | with_reducible refine belowN ?_ _ | with_reducible refine Below.setCell ?_ (by first | omega | (simp; done) | (simp; omega)) _ | with_reducible refine Below.alloc ?_ (by first | omega | (simp; done) | (simp; omega)) _)⟩

/-- the index of a root, out of the value -/
def SI (U : Int) : Int := (RR (sts U.toNat 74) 0 : Int)

theorem SI_mono {U V : Int} (h : U ≤ V) : SI U ≤ SI V := by
  have := RR_mono (sts_mono (show U.toNat ≤ V.toNat by omega) 74) 0
  unfold SI
  omega

theorem sq_val {m e : Int} (h : vr m e = true) (hm : 0 ≤ m) : rI (sqM m e) (sqE m e) = SI (UU m e) := by
  obtain ⟨m1, m2, e1, e2⟩ := vr_bd h
  obtain ⟨b1, b2, b3, b4, b5⟩ := sq_bd (e := e) hm (by omega)
  by_cases h0 : m = 0
  · subst h0
    have hP : sqP 0 e = 0 := by
      rw [Int.zero_mul] at b3
      omega
    have hz : sts 0 0 = 0 := by decide
    have hz2 : sts 0 74 = 0 := by
      unfold sts
      rw [Nat.zero_mul]
      rfl
    unfold sqM SI
    rw [hP, hz, UU_zero]
    rw [show (0 : Int).toNat = 0 from rfl, hz2, RR_zero]
    simp [rI]
  · have hP := b5 (by omega)
    have hev : (e - sqS m e) % 2 = 0 := by
      unfold sqS
      split
      · rename_i ho
        unfold sqO at ho
        rw [bne_iff_ne] at ho
        have h1 := Int.emod_two_eq (e - (62 - sqL m))
        rcases h1 with h1 | h1
        · exfalso
          apply ho
          exact Int.tmod_eq_zero_of_dvd (Int.dvd_of_emod_eq_zero h1)
        · omega
      · rename_i ho
        unfold sqO at ho
        have h2 : (e - (62 - sqL m)).tmod 2 = 0 := by simpa using ho
        exact Int.emod_eq_zero_of_dvd (Int.dvd_of_tmod_eq_zero h2)
    obtain ⟨hh, hhe⟩ : ∃ hh : Int, e - sqS m e = 2 * hh := ⟨(e - sqS m e) / 2, by omega⟩
    have hE : sqE m e = hh - 1 := by
      unfold sqE
      rw [hhe, Int.mul_tdiv_cancel_left _ (by decide)]
    have hr := sqr_bd b4
    have hS : sts (sqP m e) 0 = 2 * sqr (sqP m e) + (if sqr (sqP m e) * sqr (sqP m e) = sqP m e then 0 else 1) := by unfold sts; rw [Nat.pow_zero, Nat.mul_one]
    have hlow : 1073741824 ≤ sqr (sqP m e) := sqr_ge (by omega)
    have big : 33554432 ≤ sts (sqP m e) 0 := by rw [hS]; omega
    have hbd : sts (sqP m e) 0 ≤ 4294967295 := by rw [hS]; split <;> omega
    obtain ⟨d, hd⟩ : ∃ d : Nat, (d : Int) = hh + 149 := ⟨(hh + 149).toNat, by omega⟩
    unfold sqM SI
    rw [hE, rI_val _ _ 0 (by omega) (by omega) (by omega), show (hh - 1 + 150 + ((0 : Nat) : Int)).toNat = d from by omega]
    have hU : (UU m e).toNat * 4 ^ 74 = sqP m e * 4 ^ d := by
      have hUn : UU m e = ((m.toNat * 2 ^ (e + 150).toNat : Nat) : Int) := by
        unfold UU
        push_cast
        rw [Int.toNat_of_nonneg hm]
      have hPn : sqP m e = m.toNat * 2 ^ (sqS m e).toNat := by
        have : ((m.toNat * 2 ^ (sqS m e).toNat : Nat) : Int) = (sqP m e : Int) := by
          push_cast
          rw [Int.toNat_of_nonneg hm]
          exact b3
        omega
      rw [hUn, Int.toNat_natCast, hPn, show (4 : Nat) = 2 ^ 2 from rfl, ← Nat.pow_mul, ← Nat.pow_mul, Nat.mul_assoc, Nat.mul_assoc, ← Nat.pow_add, ← Nat.pow_add]
      congr 2
      omega
    have hst : sts (UU m e).toNat 74 = sts (sqP m e) (0 + d) := by
      unfold sts
      rw [hU, Nat.zero_add]
    rw [hst, sts_lift big]
    have hc : (sts (sqP m e) 0 : Int) * 2 ^ d = ((sts (sqP m e) 0 * 2 ^ d : Nat) : Int) := by push_cast; rfl
    rw [hc]
    unfold RI
    rw [if_neg (by omega), Int.toNat_natCast]

end Go.Proofs.YtoofdihnflnaiaaGreatDoor
