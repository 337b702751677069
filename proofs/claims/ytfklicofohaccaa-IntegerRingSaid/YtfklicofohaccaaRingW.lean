/- The walk of the statement IntegerRing. -/
import Derived.Test.YtfklicofohaccaaProg
import Derived.Test.YtfklicofohaccaaIs
import Derived.WalkKit
import Derived.Below
import Derived.Lib.Hide

namespace Go.Proofs.Ytfklicofohaccaa.integerRing
open Go.RowKit
set_option linter.unusedVariables false

set_option maxRecDepth 100000 in
set_option maxHeartbeats 1600000 in
theorem sub_back {a b : Int} (h : bth a b = true) (hv : vld (a + b) = true) : subV (a + b) b = a ∧ subE (a + b) b = 0 := by
  have e : a + b - b = a := by omega
  have k := sub_ok (a := a + b) (b := b) (bth_mk hv (bth_r h)) (by rw [e]; exact bth_l h)
  rw [e] at k; exact k
theorem add_assoc' {a b c : Int} (h : bth a b = true) (hv : vld (a + b) = true) (h2 : bth b c = true) (hv2 : vld (b + c) = true) : addV a (b + c) = addV (a + b) c ∧ addE a (b + c) = addE (a + b) c := by
  have e : a + (b + c) = a + b + c := by omega
  simp only [addV, addE, bth_mk (bth_l h) hv2, bth_mk hv (bth_r h2), e]; exact ⟨trivial, trivial⟩
theorem mul_add' {a b c : Int} (h1 : vld a = true) (hv : vld (b + c) = true) (hp : vld (a * b) = true) (hq : vld (a * c) = true) : mulV a (b + c) = addV (a * b) (a * c) ∧ mulE a (b + c) = addE (a * b) (a * c) := by
  simp only [addV, addE, mulV, mulE, bth_mk h1 hv, bth_mk hp hq, Int.mul_add]; exact ⟨trivial, trivial⟩

set_option maxRecDepth 100000 in
set_option maxHeartbeats 1600000 in
theorem run (a0 : Int) (a1 : Int) (a2 : Int) (w : World) (w0 : (Lit.int .i64 a0).wf = true) (w1 : (Lit.int .i64 a1).wf = true) (w2 : (Lit.int .i64 a2).wf = true) :
    Calls Try.prog 8 #[.int .i64 a0, .int .i64 a1, .int .i64 a2] w fun e w' => e = .returned (.bool true) ∧ w = w' := by
  have HE := Lib.hid (add_dec a0 a1)
  have HF := Lib.hid (add_dec a1 a2)
  have HG := Lib.hid (mul_dec a0 a1)
  have HH := Lib.hid (mul_dec a0 a2)
  have C1 := Lib.hid (And.intro (addV_comm a1 a0) (addE_comm a1 a0))
  have C2 := Lib.hid (And.intro (mulV_comm a1 a0) (mulE_comm a1 a0))
  rcases HE.out with yE | nE
  · have KE := Lib.hid yE; clear yE
    rcases HF.out with yF | nF
    · have KF := Lib.hid yF; clear yF
      rcases HG.out with yG | nG
      · have KG := Lib.hid yG; clear yG
        rcases HH.out with yH | nH
        · have KH := Lib.hid yH; clear yH
          go_enter Try.func8, Try.ntmps8
          go_wp2_with fail
          refine (awake_any _).mono ?_; rintro e w' ⟨rfl, rfl⟩
          go_wp2_with fail
          refine (add_is KE.out.2 _).mono ?_; rintro e w' ⟨rfl, rfl⟩
          go_wp2_with fail
          refine (add_is (And.intro (C1.out.1.trans KE.out.2.1) (C1.out.2.trans KE.out.2.2)) _).mono ?_; rintro e w' ⟨rfl, rfl⟩
          go_wp2_with fail
          refine (mul_is KG.out.2 _).mono ?_; rintro e w' ⟨rfl, rfl⟩
          go_wp2_with fail
          refine (mul_is (And.intro (C2.out.1.trans KG.out.2.1) (C2.out.2.trans KG.out.2.2)) _).mono ?_; rintro e w' ⟨rfl, rfl⟩
          go_wp2_with fail
          refine (add_is KF.out.2 _).mono ?_; rintro e w' ⟨rfl, rfl⟩
          go_wp2_with fail
          refine (mul_is KH.out.2 _).mono ?_; rintro e w' ⟨rfl, rfl⟩
          go_wp2_with fail
          refine (sub_is (sub_back KE.out.1.1 KE.out.1.2) _).mono ?_; rintro e w' ⟨rfl, rfl⟩
          go_wp2_with fail
          refine (add_any _ _ _).mono ?_; rintro e w' ⟨rfl, rfl⟩
          go_wp2_with fail
          refine (add_is (add_assoc' KE.out.1.1 KE.out.1.2 KF.out.1.1 KF.out.1.2) _).mono ?_; rintro e w' ⟨rfl, rfl⟩
          go_wp2_with fail
          refine (mul_is (mul_add' (bth_l KG.out.1.1) KF.out.1.2 KG.out.1.2 KH.out.1.2) _).mono ?_; rintro e w' ⟨rfl, rfl⟩
          go_wp2_with fail
          refine (add_any _ _ _).mono ?_; rintro e w' ⟨rfl, rfl⟩
          go_wp2_with fail
          go_ret
          exact ⟨rfl, rfl⟩
        · skip
          go_enter Try.func8, Try.ntmps8
          go_wp2_with fail
          refine (awake_any _).mono ?_; rintro e w' ⟨rfl, rfl⟩
          go_wp2_with fail
          refine (add_is KE.out.2 _).mono ?_; rintro e w' ⟨rfl, rfl⟩
          go_wp2_with fail
          refine (add_is (And.intro (C1.out.1.trans KE.out.2.1) (C1.out.2.trans KE.out.2.2)) _).mono ?_; rintro e w' ⟨rfl, rfl⟩
          go_wp2_with fail
          refine (mul_is KG.out.2 _).mono ?_; rintro e w' ⟨rfl, rfl⟩
          go_wp2_with fail
          refine (mul_is (And.intro (C2.out.1.trans KG.out.2.1) (C2.out.2.trans KG.out.2.2)) _).mono ?_; rintro e w' ⟨rfl, rfl⟩
          go_wp2_with fail
          refine (add_is KF.out.2 _).mono ?_; rintro e w' ⟨rfl, rfl⟩
          go_wp2_with fail
          refine (mul_any _ _ _).mono ?_; rintro e w' ⟨rfl, rfl⟩
          go_wp2_with fail
          refine (sub_is (sub_back KE.out.1.1 KE.out.1.2) _).mono ?_; rintro e w' ⟨rfl, rfl⟩
          go_wp2_with fail
          refine (add_any _ _ _).mono ?_; rintro e w' ⟨rfl, rfl⟩
          go_wp2_with fail
          refine (add_is (add_assoc' KE.out.1.1 KE.out.1.2 KF.out.1.1 KF.out.1.2) _).mono ?_; rintro e w' ⟨rfl, rfl⟩
          go_wp2_with fail
          go_ret
          exact ⟨rfl, rfl⟩
      · skip
        go_enter Try.func8, Try.ntmps8
        go_wp2_with fail
        refine (awake_any _).mono ?_; rintro e w' ⟨rfl, rfl⟩
        go_wp2_with fail
        refine (add_is KE.out.2 _).mono ?_; rintro e w' ⟨rfl, rfl⟩
        go_wp2_with fail
        refine (add_is (And.intro (C1.out.1.trans KE.out.2.1) (C1.out.2.trans KE.out.2.2)) _).mono ?_; rintro e w' ⟨rfl, rfl⟩
        go_wp2_with fail
        refine (mul_any _ _ _).mono ?_; rintro e w' ⟨rfl, rfl⟩
        go_wp2_with fail
        refine (mul_is C2.out _).mono ?_; rintro e w' ⟨rfl, rfl⟩
        go_wp2_with fail
        refine (add_is KF.out.2 _).mono ?_; rintro e w' ⟨rfl, rfl⟩
        go_wp2_with fail
        refine (mul_any _ _ _).mono ?_; rintro e w' ⟨rfl, rfl⟩
        go_wp2_with fail
        refine (sub_is (sub_back KE.out.1.1 KE.out.1.2) _).mono ?_; rintro e w' ⟨rfl, rfl⟩
        go_wp2_with fail
        refine (add_any _ _ _).mono ?_; rintro e w' ⟨rfl, rfl⟩
        go_wp2_with fail
        refine (add_is (add_assoc' KE.out.1.1 KE.out.1.2 KF.out.1.1 KF.out.1.2) _).mono ?_; rintro e w' ⟨rfl, rfl⟩
        go_wp2_with fail
        go_ret
        exact ⟨rfl, rfl⟩
    · skip
      go_enter Try.func8, Try.ntmps8
      go_wp2_with fail
      refine (awake_any _).mono ?_; rintro e w' ⟨rfl, rfl⟩
      go_wp2_with fail
      refine (add_is KE.out.2 _).mono ?_; rintro e w' ⟨rfl, rfl⟩
      go_wp2_with fail
      refine (add_is (And.intro (C1.out.1.trans KE.out.2.1) (C1.out.2.trans KE.out.2.2)) _).mono ?_; rintro e w' ⟨rfl, rfl⟩
      go_wp2_with fail
      refine (mul_any _ _ _).mono ?_; rintro e w' ⟨rfl, rfl⟩
      go_wp2_with fail
      refine (mul_is C2.out _).mono ?_; rintro e w' ⟨rfl, rfl⟩
      go_wp2_with fail
      refine (add_any _ _ _).mono ?_; rintro e w' ⟨rfl, rfl⟩
      go_wp2_with fail
      refine (mul_any _ _ _).mono ?_; rintro e w' ⟨rfl, rfl⟩
      go_wp2_with fail
      refine (sub_is (sub_back KE.out.1.1 KE.out.1.2) _).mono ?_; rintro e w' ⟨rfl, rfl⟩
      go_wp2_with fail
      go_ret
      exact ⟨rfl, rfl⟩
  · skip
    rcases HF.out with yF | nF
    · have KF := Lib.hid yF; clear yF
      rcases HG.out with yG | nG
      · have KG := Lib.hid yG; clear yG
        rcases HH.out with yH | nH
        · have KH := Lib.hid yH; clear yH
          go_enter Try.func8, Try.ntmps8
          go_wp2_with fail
          refine (awake_any _).mono ?_; rintro e w' ⟨rfl, rfl⟩
          go_wp2_with fail
          refine (add_any _ _ _).mono ?_; rintro e w' ⟨rfl, rfl⟩
          go_wp2_with fail
          refine (add_is C1.out _).mono ?_; rintro e w' ⟨rfl, rfl⟩
          go_wp2_with fail
          refine (mul_is KG.out.2 _).mono ?_; rintro e w' ⟨rfl, rfl⟩
          go_wp2_with fail
          refine (mul_is (And.intro (C2.out.1.trans KG.out.2.1) (C2.out.2.trans KG.out.2.2)) _).mono ?_; rintro e w' ⟨rfl, rfl⟩
          go_wp2_with fail
          refine (add_is KF.out.2 _).mono ?_; rintro e w' ⟨rfl, rfl⟩
          go_wp2_with fail
          refine (mul_is KH.out.2 _).mono ?_; rintro e w' ⟨rfl, rfl⟩
          go_wp2_with fail
          refine (mul_is (mul_add' (bth_l KG.out.1.1) KF.out.1.2 KG.out.1.2 KH.out.1.2) _).mono ?_; rintro e w' ⟨rfl, rfl⟩
          go_wp2_with fail
          refine (add_any _ _ _).mono ?_; rintro e w' ⟨rfl, rfl⟩
          go_wp2_with fail
          go_ret
          exact ⟨rfl, rfl⟩
        · skip
          go_enter Try.func8, Try.ntmps8
          go_wp2_with fail
          refine (awake_any _).mono ?_; rintro e w' ⟨rfl, rfl⟩
          go_wp2_with fail
          refine (add_any _ _ _).mono ?_; rintro e w' ⟨rfl, rfl⟩
          go_wp2_with fail
          refine (add_is C1.out _).mono ?_; rintro e w' ⟨rfl, rfl⟩
          go_wp2_with fail
          refine (mul_is KG.out.2 _).mono ?_; rintro e w' ⟨rfl, rfl⟩
          go_wp2_with fail
          refine (mul_is (And.intro (C2.out.1.trans KG.out.2.1) (C2.out.2.trans KG.out.2.2)) _).mono ?_; rintro e w' ⟨rfl, rfl⟩
          go_wp2_with fail
          refine (add_is KF.out.2 _).mono ?_; rintro e w' ⟨rfl, rfl⟩
          go_wp2_with fail
          refine (mul_any _ _ _).mono ?_; rintro e w' ⟨rfl, rfl⟩
          go_wp2_with fail
          go_ret
          exact ⟨rfl, rfl⟩
      · skip
        go_enter Try.func8, Try.ntmps8
        go_wp2_with fail
        refine (awake_any _).mono ?_; rintro e w' ⟨rfl, rfl⟩
        go_wp2_with fail
        refine (add_any _ _ _).mono ?_; rintro e w' ⟨rfl, rfl⟩
        go_wp2_with fail
        refine (add_is C1.out _).mono ?_; rintro e w' ⟨rfl, rfl⟩
        go_wp2_with fail
        refine (mul_any _ _ _).mono ?_; rintro e w' ⟨rfl, rfl⟩
        go_wp2_with fail
        refine (mul_is C2.out _).mono ?_; rintro e w' ⟨rfl, rfl⟩
        go_wp2_with fail
        refine (add_is KF.out.2 _).mono ?_; rintro e w' ⟨rfl, rfl⟩
        go_wp2_with fail
        refine (mul_any _ _ _).mono ?_; rintro e w' ⟨rfl, rfl⟩
        go_wp2_with fail
        go_ret
        exact ⟨rfl, rfl⟩
    · skip
      go_enter Try.func8, Try.ntmps8
      go_wp2_with fail
      refine (awake_any _).mono ?_; rintro e w' ⟨rfl, rfl⟩
      go_wp2_with fail
      refine (add_any _ _ _).mono ?_; rintro e w' ⟨rfl, rfl⟩
      go_wp2_with fail
      refine (add_is C1.out _).mono ?_; rintro e w' ⟨rfl, rfl⟩
      go_wp2_with fail
      refine (mul_any _ _ _).mono ?_; rintro e w' ⟨rfl, rfl⟩
      go_wp2_with fail
      refine (mul_is C2.out _).mono ?_; rintro e w' ⟨rfl, rfl⟩
      go_wp2_with fail
      refine (add_any _ _ _).mono ?_; rintro e w' ⟨rfl, rfl⟩
      go_wp2_with fail
      refine (mul_any _ _ _).mono ?_; rintro e w' ⟨rfl, rfl⟩
      go_wp2_with fail
      go_ret
      exact ⟨rfl, rfl⟩

end Go.Proofs.Ytfklicofohaccaa.integerRing
