/- The walk of the statement IntegerPowers. -/
import Derived.Test.YtfklicofohaccaaProg
import Derived.Test.YtfklicofohaccaaIs
import Derived.Test.YtfklicofohaccaaPow
import Derived.WalkKit
import Derived.Below
import Derived.Lib.Hide

namespace Go.Proofs.Ytfklicofohaccaa.integerPowers
open Go.RowKit
set_option linter.unusedVariables false

theorem pow_is {a n v e : Int} (h : powV a n = v ∧ powE a n = e) (w : World) :
    Calls Try.prog 38 #[.int .i64 a, .int .i64 n] w fun e' w' => e' = .returned (pairI v e) ∧ w = w' := by
  obtain ⟨rfl, rfl⟩ := h
  exact pow_any a n w

/-- a power that is valid -/
def PowOK (a n : Int) : Prop := bth a n = true ∧ 0 ≤ n ∧ ¬(a = 0 ∧ n = 0) ∧ vld (pw a (Int.toNat n)) = true
theorem PowOK.r {a n : Int} (h : PowOK a n) : vld n = true := bth_r (And.left h)
theorem PowOK.p {a n : Int} (h : PowOK a n) : 0 ≤ n := And.left (And.right h)

theorem pow_dec (a n : Int) : (PowOK a n ∧ powV a n = pw a (Int.toNat n) ∧ powE a n = 0) ∨ (powE a n == 0) = false := by
  cases hb : bth a n
  · exact .inr (by rw [powE_arg hb]; rfl)
  · by_cases hn : n < 0
    · exact .inr (by rw [powE_neg hn]; rfl)
    · by_cases hz : a = 0 ∧ n = 0
      · exact .inr (by rw [powE_none hz]; rfl)
      · cases hv : vld (pw a n.toNat)
        · exact .inr (by rw [(pow_no hb (by omega) hz hv).2]; rfl)
        · exact .inl ⟨⟨hb, by omega, hz, hv⟩, pow_yes hb (by omega) hz hv⟩
theorem pow_sum {a m n : Int} (h1 : PowOK a m) (h2 : PowOK a n) (hs : vld (m + n) = true) :
    powV a (m + n) = mulV (pw a m.toNat) (pw a n.toNat) ∧ powE a (m + n) = mulE (pw a m.toNat) (pw a n.toNat) := by
  unfold PowOK at h1 h2
  have e : (m + n).toNat = m.toNat + n.toNat := by omega
  have hb := bth_mk (bth_l h1.1) hs
  have hz : ¬(a = 0 ∧ m + n = 0) := fun k => h1.2.2.1 ⟨k.1, by omega⟩
  have hm := bth_mk h1.2.2.2 h2.2.2.2
  cases hv : vld (pw a m.toNat * pw a n.toNat)
  · have k := pow_no hb (by omega) hz (by rw [e, pw_add]; exact hv)
    have l := mul_out hm hv
    exact ⟨k.1.trans l.1.symm, k.2.trans l.2.symm⟩
  · have k := pow_yes hb (by omega) hz (by rw [e, pw_add]; exact hv)
    have l := mul_ok hm hv
    rw [e, pw_add] at k
    exact ⟨k.1.trans l.1.symm, k.2.trans l.2.symm⟩
theorem pow_less {a m : Int} (h1 : PowOK a m) (hm : 0 < m) (hz : ¬(a = 0 ∧ m - 1 = 0)) : powV a (m - 1) = pw a (m - 1).toNat ∧ powE a (m - 1) = 0 := by
  unfold PowOK at h1
  have b := vld_iff.1 (bth_r h1.1)
  exact pow_yes (bth_mk (bth_l h1.1) (vld_mk (by omega))) (by omega) hz (vld_pw_mono a (by omega) h1.2.2.2)
theorem pow_self {a : Int} (ha : vld a = true) : powV a 1 = a ∧ powE a 1 = 0 := by
  have e : pw a (1 : Int).toNat = a := by show pw a 1 = a; rw [show (1 : Nat) = 0 + 1 from rfl, pw_succ, pw_zero, Int.one_mul]
  have k := pow_yes (a := a) (n := 1) (bth_mk ha rfl) (by omega) (by omega) (by rw [e]; exact ha)
  rw [e] at k; exact k

set_option maxRecDepth 100000 in
set_option maxHeartbeats 1600000 in
theorem bad {a m n : Int} (w : World) (ha : vld a = false) :
    Calls Try.prog 10 #[.int .i64 a, .int .i64 m, .int .i64 n] w fun e w' => e = .returned (.bool true) ∧ w = w' := by
  go_enter Try.func10, Try.ntmps10
  go_wp2_with fail
  refine (awake_any _).mono ?_; rintro e w' ⟨rfl, rfl⟩
  go_wp2_with fail
  refine (pow_is (And.intro (pow_bad (powE_arg (bth_no' ha)) (by decide)) (powE_arg (bth_no' ha))) _).mono ?_; rintro e w' ⟨rfl, rfl⟩
  go_wp2_with fail
  refine (pow_is (And.intro (pow_bad (powE_arg (bth_no' ha)) (by decide)) (powE_arg (bth_no' ha))) _).mono ?_; rintro e w' ⟨rfl, rfl⟩
  go_wp2_with fail
  refine (add_any _ _ _).mono ?_; rintro e w' ⟨rfl, rfl⟩
  go_wp2_with fail
  refine (pow_is (And.intro (pow_bad (powE_arg (bth_no' ha)) (by decide)) (powE_arg (bth_no' ha))) _).mono ?_; rintro e w' ⟨rfl, rfl⟩
  go_wp2_with fail
  refine (valid_is ha _).mono ?_; rintro e w' ⟨rfl, rfl⟩
  go_wp2_with fail
  go_ret
  exact ⟨rfl, rfl⟩

set_option maxRecDepth 100000 in
set_option maxHeartbeats 1600000 in
theorem eno {a m n : Int} (w : World) (ha : vld a = true) (hE : (powE a m == 0) = false) :
    Calls Try.prog 10 #[.int .i64 a, .int .i64 m, .int .i64 n] w fun e w' => e = .returned (.bool true) ∧ w = w' := by
  go_enter Try.func10, Try.ntmps10
  go_wp2_with fail
  refine (awake_any _).mono ?_; rintro e w' ⟨rfl, rfl⟩
  go_wp2_with fail
  refine (pow_any _ _ _).mono ?_; rintro e w' ⟨rfl, rfl⟩
  go_wp2_with fail
  refine (pow_any _ _ _).mono ?_; rintro e w' ⟨rfl, rfl⟩
  go_wp2_with fail
  refine (add_any _ _ _).mono ?_; rintro e w' ⟨rfl, rfl⟩
  go_wp2_with fail
  refine (pow_is (pow_self ha) _).mono ?_; rintro e w' ⟨rfl, rfl⟩
  go_wp2_with fail
  refine (valid_is ha _).mono ?_; rintro e w' ⟨rfl, rfl⟩
  go_wp2_with fail
  go_ret
  exact ⟨rfl, rfl⟩

set_option maxRecDepth 100000 in
set_option maxHeartbeats 1600000 in
theorem yz {a m n : Int} (w : World) (ha : vld a = true) (KE : Hid ((PowOK a m) ∧ powV a m = pw a (Int.toNat m) ∧ powE a m = 0)) (KF : Hid ((PowOK a n) ∧ powV a n = pw a (Int.toNat n) ∧ powE a n = 0)) (KG : Hid ((bth m n = true ∧ vld (m + n) = true) ∧ addV m n = m + n ∧ addE m n = 0)) (hm : m = 0) :
    Calls Try.prog 10 #[.int .i64 a, .int .i64 m, .int .i64 n] w fun e w' => e = .returned (.bool true) ∧ w = w' := by
  have hm1 : ¬ 0 < m := by omega
  clear hm
  go_enter Try.func10, Try.ntmps10
  go_wp2_with fail
  refine (awake_any _).mono ?_; rintro e w' ⟨rfl, rfl⟩
  go_wp2_with fail
  refine (pow_is KE.out.2 _).mono ?_; rintro e w' ⟨rfl, rfl⟩
  go_wp2_with fail
  refine (pow_is KF.out.2 _).mono ?_; rintro e w' ⟨rfl, rfl⟩
  go_wp2_with fail
  refine (add_is KG.out.2 _).mono ?_; rintro e w' ⟨rfl, rfl⟩
  go_wp2_with fail
  refine (pow_is (pow_sum KE.out.1 KF.out.1 KG.out.1.2) _).mono ?_; rintro e w' ⟨rfl, rfl⟩
  go_wp2_with fail
  refine (mul_any _ _ _).mono ?_; rintro e w' ⟨rfl, rfl⟩
  go_wp2_with fail
  refine (pow_is (pow_self ha) _).mono ?_; rintro e w' ⟨rfl, rfl⟩
  go_wp2_with fail
  refine (valid_is ha _).mono ?_; rintro e w' ⟨rfl, rfl⟩
  go_wp2_with fail
  go_ret
  exact ⟨rfl, rfl⟩

set_option maxRecDepth 100000 in
set_option maxHeartbeats 1600000 in
theorem yp {a m n : Int} (w : World) (ha : vld a = true) (KE : Hid ((PowOK a m) ∧ powV a m = pw a (Int.toNat m) ∧ powE a m = 0)) (KF : Hid ((PowOK a n) ∧ powV a n = pw a (Int.toNat n) ∧ powE a n = 0)) (KG : Hid ((bth m n = true ∧ vld (m + n) = true) ∧ addV m n = m + n ∧ addE m n = 0)) (hm : 0 < m) (hz : (a != 0) = true) :
    Calls Try.prog 10 #[.int .i64 a, .int .i64 m, .int .i64 n] w fun e w' => e = .returned (.bool true) ∧ w = w' := by
  have ⟨b1, b2⟩ := vld_iff.1 KE.out.1.r
  go_enter Try.func10, Try.ntmps10
  go_wp2_with fail
  refine (awake_any _).mono ?_; rintro e w' ⟨rfl, rfl⟩
  go_wp2_with fail
  refine (pow_is KE.out.2 _).mono ?_; rintro e w' ⟨rfl, rfl⟩
  go_wp2_with fail
  refine (pow_is KF.out.2 _).mono ?_; rintro e w' ⟨rfl, rfl⟩
  go_wp2_with fail
  refine (add_is KG.out.2 _).mono ?_; rintro e w' ⟨rfl, rfl⟩
  go_wp2_with fail
  refine (pow_is (pow_sum KE.out.1 KF.out.1 KG.out.1.2) _).mono ?_; rintro e w' ⟨rfl, rfl⟩
  go_wp2_with fail
  refine (mul_any _ _ _).mono ?_; rintro e w' ⟨rfl, rfl⟩
  go_wp2_with fail
  refine (pow_is (pow_less KE.out.1 hm (by simp at hz; omega)) _).mono ?_; rintro e w' ⟨rfl, rfl⟩
  go_wp2_with fail
  refine (pow_is (pow_self ha) _).mono ?_; rintro e w' ⟨rfl, rfl⟩
  go_wp2_with fail
  refine (valid_is ha _).mono ?_; rintro e w' ⟨rfl, rfl⟩
  go_wp2_with fail
  go_ret
  exact ⟨rfl, rfl⟩

set_option maxRecDepth 100000 in
set_option maxHeartbeats 1600000 in
theorem yq {m n : Int} (w : World) (ha : vld 0 = true) (KE : Hid ((PowOK 0 m) ∧ powV 0 m = pw 0 (Int.toNat m) ∧ powE 0 m = 0)) (KF : Hid ((PowOK 0 n) ∧ powV 0 n = pw 0 (Int.toNat n) ∧ powE 0 n = 0)) (KG : Hid ((bth m n = true ∧ vld (m + n) = true) ∧ addV m n = m + n ∧ addE m n = 0)) (hm : 1 < m) :
    Calls Try.prog 10 #[.int .i64 0, .int .i64 m, .int .i64 n] w fun e w' => e = .returned (.bool true) ∧ w = w' := by
  have ⟨b1, b2⟩ := vld_iff.1 KE.out.1.r
  have hm1 : 0 < m := by omega
  go_enter Try.func10, Try.ntmps10
  go_wp2_with fail
  refine (awake_any _).mono ?_; rintro e w' ⟨rfl, rfl⟩
  go_wp2_with fail
  refine (pow_is KE.out.2 _).mono ?_; rintro e w' ⟨rfl, rfl⟩
  go_wp2_with fail
  refine (pow_is KF.out.2 _).mono ?_; rintro e w' ⟨rfl, rfl⟩
  go_wp2_with fail
  refine (add_is KG.out.2 _).mono ?_; rintro e w' ⟨rfl, rfl⟩
  go_wp2_with fail
  refine (pow_is (pow_sum KE.out.1 KF.out.1 KG.out.1.2) _).mono ?_; rintro e w' ⟨rfl, rfl⟩
  go_wp2_with fail
  refine (mul_any _ _ _).mono ?_; rintro e w' ⟨rfl, rfl⟩
  go_wp2_with fail
  refine (pow_is (pow_less KE.out.1 (by omega) (by omega)) _).mono ?_; rintro e w' ⟨rfl, rfl⟩
  go_wp2_with fail
  refine (pow_is (pow_self ha) _).mono ?_; rintro e w' ⟨rfl, rfl⟩
  go_wp2_with fail
  refine (valid_is ha _).mono ?_; rintro e w' ⟨rfl, rfl⟩
  go_wp2_with fail
  go_ret
  exact ⟨rfl, rfl⟩

set_option maxRecDepth 100000 in
set_option maxHeartbeats 1600000 in
theorem yr {n : Int} (w : World) (ha : vld 0 = true) (KE : Hid ((PowOK 0 1) ∧ powV 0 1 = pw 0 (Int.toNat 1) ∧ powE 0 1 = 0)) (KF : Hid ((PowOK 0 n) ∧ powV 0 n = pw 0 (Int.toNat n) ∧ powE 0 n = 0)) (KG : Hid ((bth 1 n = true ∧ vld (1 + n) = true) ∧ addV 1 n = 1 + n ∧ addE 1 n = 0))  :
    Calls Try.prog 10 #[.int .i64 0, .int .i64 1, .int .i64 n] w fun e w' => e = .returned (.bool true) ∧ w = w' := by
  go_enter Try.func10, Try.ntmps10
  go_wp2_with fail
  refine (awake_any _).mono ?_; rintro e w' ⟨rfl, rfl⟩
  go_wp2_with fail
  refine (pow_is KE.out.2 _).mono ?_; rintro e w' ⟨rfl, rfl⟩
  go_wp2_with fail
  refine (pow_is KF.out.2 _).mono ?_; rintro e w' ⟨rfl, rfl⟩
  go_wp2_with fail
  refine (add_is KG.out.2 _).mono ?_; rintro e w' ⟨rfl, rfl⟩
  go_wp2_with fail
  refine (pow_is (pow_sum KE.out.1 KF.out.1 KG.out.1.2) _).mono ?_; rintro e w' ⟨rfl, rfl⟩
  go_wp2_with fail
  refine (mul_any _ _ _).mono ?_; rintro e w' ⟨rfl, rfl⟩
  go_wp2_with fail
  refine (pow_is (pow_self ha) _).mono ?_; rintro e w' ⟨rfl, rfl⟩
  go_wp2_with fail
  refine (valid_is ha _).mono ?_; rintro e w' ⟨rfl, rfl⟩
  go_wp2_with fail
  go_ret
  exact ⟨rfl, rfl⟩

set_option maxRecDepth 100000 in
set_option maxHeartbeats 1600000 in
theorem fz {a m n : Int} (w : World) (ha : vld a = true) (KE : Hid ((PowOK a m) ∧ powV a m = pw a (Int.toNat m) ∧ powE a m = 0)) (hF : (powE a n == 0) = false) (hm : m = 0) :
    Calls Try.prog 10 #[.int .i64 a, .int .i64 m, .int .i64 n] w fun e w' => e = .returned (.bool true) ∧ w = w' := by
  have hm1 : ¬ 0 < m := by omega
  clear hm
  go_enter Try.func10, Try.ntmps10
  go_wp2_with fail
  refine (awake_any _).mono ?_; rintro e w' ⟨rfl, rfl⟩
  go_wp2_with fail
  refine (pow_is KE.out.2 _).mono ?_; rintro e w' ⟨rfl, rfl⟩
  go_wp2_with fail
  refine (pow_any _ _ _).mono ?_; rintro e w' ⟨rfl, rfl⟩
  go_wp2_with fail
  refine (add_any _ _ _).mono ?_; rintro e w' ⟨rfl, rfl⟩
  go_wp2_with fail
  refine (pow_is (pow_self ha) _).mono ?_; rintro e w' ⟨rfl, rfl⟩
  go_wp2_with fail
  refine (valid_is ha _).mono ?_; rintro e w' ⟨rfl, rfl⟩
  go_wp2_with fail
  go_ret
  exact ⟨rfl, rfl⟩

set_option maxRecDepth 100000 in
set_option maxHeartbeats 1600000 in
theorem fp {a m n : Int} (w : World) (ha : vld a = true) (KE : Hid ((PowOK a m) ∧ powV a m = pw a (Int.toNat m) ∧ powE a m = 0)) (hF : (powE a n == 0) = false) (hm : 0 < m) (hz : (a != 0) = true) :
    Calls Try.prog 10 #[.int .i64 a, .int .i64 m, .int .i64 n] w fun e w' => e = .returned (.bool true) ∧ w = w' := by
  have ⟨b1, b2⟩ := vld_iff.1 KE.out.1.r
  go_enter Try.func10, Try.ntmps10
  go_wp2_with fail
  refine (awake_any _).mono ?_; rintro e w' ⟨rfl, rfl⟩
  go_wp2_with fail
  refine (pow_is KE.out.2 _).mono ?_; rintro e w' ⟨rfl, rfl⟩
  go_wp2_with fail
  refine (pow_any _ _ _).mono ?_; rintro e w' ⟨rfl, rfl⟩
  go_wp2_with fail
  refine (add_any _ _ _).mono ?_; rintro e w' ⟨rfl, rfl⟩
  go_wp2_with fail
  refine (pow_is (pow_less KE.out.1 hm (by simp at hz; omega)) _).mono ?_; rintro e w' ⟨rfl, rfl⟩
  go_wp2_with fail
  refine (pow_is (pow_self ha) _).mono ?_; rintro e w' ⟨rfl, rfl⟩
  go_wp2_with fail
  refine (valid_is ha _).mono ?_; rintro e w' ⟨rfl, rfl⟩
  go_wp2_with fail
  go_ret
  exact ⟨rfl, rfl⟩

set_option maxRecDepth 100000 in
set_option maxHeartbeats 1600000 in
theorem fq {m n : Int} (w : World) (ha : vld 0 = true) (KE : Hid ((PowOK 0 m) ∧ powV 0 m = pw 0 (Int.toNat m) ∧ powE 0 m = 0)) (hF : (powE 0 n == 0) = false) (hm : 1 < m) :
    Calls Try.prog 10 #[.int .i64 0, .int .i64 m, .int .i64 n] w fun e w' => e = .returned (.bool true) ∧ w = w' := by
  have ⟨b1, b2⟩ := vld_iff.1 KE.out.1.r
  have hm1 : 0 < m := by omega
  go_enter Try.func10, Try.ntmps10
  go_wp2_with fail
  refine (awake_any _).mono ?_; rintro e w' ⟨rfl, rfl⟩
  go_wp2_with fail
  refine (pow_is KE.out.2 _).mono ?_; rintro e w' ⟨rfl, rfl⟩
  go_wp2_with fail
  refine (pow_any _ _ _).mono ?_; rintro e w' ⟨rfl, rfl⟩
  go_wp2_with fail
  refine (add_any _ _ _).mono ?_; rintro e w' ⟨rfl, rfl⟩
  go_wp2_with fail
  refine (pow_is (pow_less KE.out.1 (by omega) (by omega)) _).mono ?_; rintro e w' ⟨rfl, rfl⟩
  go_wp2_with fail
  refine (pow_is (pow_self ha) _).mono ?_; rintro e w' ⟨rfl, rfl⟩
  go_wp2_with fail
  refine (valid_is ha _).mono ?_; rintro e w' ⟨rfl, rfl⟩
  go_wp2_with fail
  go_ret
  exact ⟨rfl, rfl⟩

set_option maxRecDepth 100000 in
set_option maxHeartbeats 1600000 in
theorem fr {n : Int} (w : World) (ha : vld 0 = true) (KE : Hid ((PowOK 0 1) ∧ powV 0 1 = pw 0 (Int.toNat 1) ∧ powE 0 1 = 0)) (hF : (powE 0 n == 0) = false)  :
    Calls Try.prog 10 #[.int .i64 0, .int .i64 1, .int .i64 n] w fun e w' => e = .returned (.bool true) ∧ w = w' := by
  go_enter Try.func10, Try.ntmps10
  go_wp2_with fail
  refine (awake_any _).mono ?_; rintro e w' ⟨rfl, rfl⟩
  go_wp2_with fail
  refine (pow_is KE.out.2 _).mono ?_; rintro e w' ⟨rfl, rfl⟩
  go_wp2_with fail
  refine (pow_any _ _ _).mono ?_; rintro e w' ⟨rfl, rfl⟩
  go_wp2_with fail
  refine (add_any _ _ _).mono ?_; rintro e w' ⟨rfl, rfl⟩
  go_wp2_with fail
  refine (pow_is (pow_self ha) _).mono ?_; rintro e w' ⟨rfl, rfl⟩
  go_wp2_with fail
  refine (valid_is ha _).mono ?_; rintro e w' ⟨rfl, rfl⟩
  go_wp2_with fail
  go_ret
  exact ⟨rfl, rfl⟩

set_option maxRecDepth 100000 in
set_option maxHeartbeats 1600000 in
theorem gz {a m n : Int} (w : World) (ha : vld a = true) (KE : Hid ((PowOK a m) ∧ powV a m = pw a (Int.toNat m) ∧ powE a m = 0)) (KF : Hid ((PowOK a n) ∧ powV a n = pw a (Int.toNat n) ∧ powE a n = 0)) (hG : (addE m n == 0) = false) (hm : m = 0) :
    Calls Try.prog 10 #[.int .i64 a, .int .i64 m, .int .i64 n] w fun e w' => e = .returned (.bool true) ∧ w = w' := by
  have hm1 : ¬ 0 < m := by omega
  clear hm
  go_enter Try.func10, Try.ntmps10
  go_wp2_with fail
  refine (awake_any _).mono ?_; rintro e w' ⟨rfl, rfl⟩
  go_wp2_with fail
  refine (pow_is KE.out.2 _).mono ?_; rintro e w' ⟨rfl, rfl⟩
  go_wp2_with fail
  refine (pow_is KF.out.2 _).mono ?_; rintro e w' ⟨rfl, rfl⟩
  go_wp2_with fail
  refine (add_any _ _ _).mono ?_; rintro e w' ⟨rfl, rfl⟩
  go_wp2_with fail
  refine (pow_is (pow_self ha) _).mono ?_; rintro e w' ⟨rfl, rfl⟩
  go_wp2_with fail
  refine (valid_is ha _).mono ?_; rintro e w' ⟨rfl, rfl⟩
  go_wp2_with fail
  go_ret
  exact ⟨rfl, rfl⟩

set_option maxRecDepth 100000 in
set_option maxHeartbeats 1600000 in
theorem gp {a m n : Int} (w : World) (ha : vld a = true) (KE : Hid ((PowOK a m) ∧ powV a m = pw a (Int.toNat m) ∧ powE a m = 0)) (KF : Hid ((PowOK a n) ∧ powV a n = pw a (Int.toNat n) ∧ powE a n = 0)) (hG : (addE m n == 0) = false) (hm : 0 < m) (hz : (a != 0) = true) :
    Calls Try.prog 10 #[.int .i64 a, .int .i64 m, .int .i64 n] w fun e w' => e = .returned (.bool true) ∧ w = w' := by
  have ⟨b1, b2⟩ := vld_iff.1 KE.out.1.r
  go_enter Try.func10, Try.ntmps10
  go_wp2_with fail
  refine (awake_any _).mono ?_; rintro e w' ⟨rfl, rfl⟩
  go_wp2_with fail
  refine (pow_is KE.out.2 _).mono ?_; rintro e w' ⟨rfl, rfl⟩
  go_wp2_with fail
  refine (pow_is KF.out.2 _).mono ?_; rintro e w' ⟨rfl, rfl⟩
  go_wp2_with fail
  refine (add_any _ _ _).mono ?_; rintro e w' ⟨rfl, rfl⟩
  go_wp2_with fail
  refine (pow_is (pow_less KE.out.1 hm (by simp at hz; omega)) _).mono ?_; rintro e w' ⟨rfl, rfl⟩
  go_wp2_with fail
  refine (pow_is (pow_self ha) _).mono ?_; rintro e w' ⟨rfl, rfl⟩
  go_wp2_with fail
  refine (valid_is ha _).mono ?_; rintro e w' ⟨rfl, rfl⟩
  go_wp2_with fail
  go_ret
  exact ⟨rfl, rfl⟩

set_option maxRecDepth 100000 in
set_option maxHeartbeats 1600000 in
theorem gq {m n : Int} (w : World) (ha : vld 0 = true) (KE : Hid ((PowOK 0 m) ∧ powV 0 m = pw 0 (Int.toNat m) ∧ powE 0 m = 0)) (KF : Hid ((PowOK 0 n) ∧ powV 0 n = pw 0 (Int.toNat n) ∧ powE 0 n = 0)) (hG : (addE m n == 0) = false) (hm : 1 < m) :
    Calls Try.prog 10 #[.int .i64 0, .int .i64 m, .int .i64 n] w fun e w' => e = .returned (.bool true) ∧ w = w' := by
  have ⟨b1, b2⟩ := vld_iff.1 KE.out.1.r
  have hm1 : 0 < m := by omega
  go_enter Try.func10, Try.ntmps10
  go_wp2_with fail
  refine (awake_any _).mono ?_; rintro e w' ⟨rfl, rfl⟩
  go_wp2_with fail
  refine (pow_is KE.out.2 _).mono ?_; rintro e w' ⟨rfl, rfl⟩
  go_wp2_with fail
  refine (pow_is KF.out.2 _).mono ?_; rintro e w' ⟨rfl, rfl⟩
  go_wp2_with fail
  refine (add_any _ _ _).mono ?_; rintro e w' ⟨rfl, rfl⟩
  go_wp2_with fail
  refine (pow_is (pow_less KE.out.1 (by omega) (by omega)) _).mono ?_; rintro e w' ⟨rfl, rfl⟩
  go_wp2_with fail
  refine (pow_is (pow_self ha) _).mono ?_; rintro e w' ⟨rfl, rfl⟩
  go_wp2_with fail
  refine (valid_is ha _).mono ?_; rintro e w' ⟨rfl, rfl⟩
  go_wp2_with fail
  go_ret
  exact ⟨rfl, rfl⟩

set_option maxRecDepth 100000 in
set_option maxHeartbeats 1600000 in
theorem gr {n : Int} (w : World) (ha : vld 0 = true) (KE : Hid ((PowOK 0 1) ∧ powV 0 1 = pw 0 (Int.toNat 1) ∧ powE 0 1 = 0)) (KF : Hid ((PowOK 0 n) ∧ powV 0 n = pw 0 (Int.toNat n) ∧ powE 0 n = 0)) (hG : (addE 1 n == 0) = false)  :
    Calls Try.prog 10 #[.int .i64 0, .int .i64 1, .int .i64 n] w fun e w' => e = .returned (.bool true) ∧ w = w' := by
  go_enter Try.func10, Try.ntmps10
  go_wp2_with fail
  refine (awake_any _).mono ?_; rintro e w' ⟨rfl, rfl⟩
  go_wp2_with fail
  refine (pow_is KE.out.2 _).mono ?_; rintro e w' ⟨rfl, rfl⟩
  go_wp2_with fail
  refine (pow_is KF.out.2 _).mono ?_; rintro e w' ⟨rfl, rfl⟩
  go_wp2_with fail
  refine (add_any _ _ _).mono ?_; rintro e w' ⟨rfl, rfl⟩
  go_wp2_with fail
  refine (pow_is (pow_self ha) _).mono ?_; rintro e w' ⟨rfl, rfl⟩
  go_wp2_with fail
  refine (valid_is ha _).mono ?_; rintro e w' ⟨rfl, rfl⟩
  go_wp2_with fail
  go_ret
  exact ⟨rfl, rfl⟩

set_option maxRecDepth 100000 in
set_option maxHeartbeats 1600000 in
theorem run (a0 : Int) (a1 : Int) (a2 : Int) (w : World) (w0 : (Lit.int .i64 a0).wf = true) (w1 : (Lit.int .i64 a1).wf = true) (w2 : (Lit.int .i64 a2).wf = true) :
    Calls Try.prog 10 #[.int .i64 a0, .int .i64 a1, .int .i64 a2] w fun e w' => e = .returned (.bool true) ∧ w = w' := by
  cases ha : vld a0
  · exact bad w ha
  · rcases pow_dec a0 a1 with yE | nE
    · have KE := Lib.hid yE
      rcases pow_dec a0 a2 with yF | nF
      · have KF := Lib.hid yF
        rcases add_dec a1 a2 with yG | nG
        · have KG := Lib.hid yG
          clear yE yF yG
          by_cases hm : a1 = 0
          · exact yz w ha KE KF KG hm
          · have hp : 0 < a1 := by have := KE.out.1.p; omega
            by_cases hz : a0 = 0
            · subst hz
              by_cases h1 : a1 = 1
              · subst h1
                exact yr w ha KE KF KG
              · exact yq w ha KE KF KG (by omega)
            · exact yp w ha KE KF KG hp (by simpa using hz)
        · clear yE yF
          by_cases hm : a1 = 0
          · exact gz w ha KE KF nG hm
          · have hp : 0 < a1 := by have := KE.out.1.p; omega
            by_cases hz : a0 = 0
            · subst hz
              by_cases h1 : a1 = 1
              · subst h1
                exact gr w ha KE KF nG
              · exact gq w ha KE KF nG (by omega)
            · exact gp w ha KE KF nG hp (by simpa using hz)
      · clear yE
        by_cases hm : a1 = 0
        · exact fz w ha KE nF hm
        · have hp : 0 < a1 := by have := KE.out.1.p; omega
          by_cases hz : a0 = 0
          · subst hz
            by_cases h1 : a1 = 1
            · subst h1
              exact fr w ha KE nF
            · exact fq w ha KE nF (by omega)
          · exact fp w ha KE nF hp (by simpa using hz)
    · exact eno w ha nE

end Go.Proofs.Ytfklicofohaccaa.integerPowers
