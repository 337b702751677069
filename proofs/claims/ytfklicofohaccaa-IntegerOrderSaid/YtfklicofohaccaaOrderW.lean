/- The walk of the statement IntegerOrder. -/
import Derived.Test.YtfklicofohaccaaProg
import Derived.Test.YtfklicofohaccaaIs
import Derived.Deep.DeepCutAuto
import Derived.WalkKit
import Derived.Below
import Derived.Lib.Hide

namespace Go.Proofs.Ytfklicofohaccaa.integerOrder
open Go.RowKit
set_option linter.unusedVariables false

/-- what is known where a test says yes -/
def Good (t : Bool) (P : Prop) : Prop := t = true → P

set_option maxRecDepth 100000 in
set_option maxHeartbeats 1600000 in
theorem short (a b c : Int) (w : World) (h : bth a b = false) :
    Calls Try.prog 11 #[.int .i64 a, .int .i64 b, .int .i64 c] w fun e w' => e = .returned (.bool true) ∧ w = w' := by
  have h2 : bth b a = false := by rw [bth_comm]; exact h
  have hv : (vld a && vld b) = false := h
  have h3 : vld a = false ∨ (vld a = true ∧ vld b = false) := by
    cases ha : vld a
    · exact .inl rfl
    · rw [ha] at hv; exact .inr ⟨rfl, by simpa using hv⟩
  clear hv
  rcases h3 with ha | ⟨ha, hb⟩
  · go_enter Try.func11, Try.ntmps11
    go_wp2_with (first | (go_at_call 29; refine (awake_any _).mono ?_; rintro e w' ⟨rfl, rfl⟩) | (go_at_call 27; refine (cmp_is (cmp_no (by assumption)) _).mono ?_; rintro e w' ⟨rfl, rfl⟩) | (go_at_call 15; refine (valid_is (by assumption) _).mono ?_; rintro e w' ⟨rfl, rfl⟩))
    go_ret
    exact ⟨rfl, rfl⟩
  · go_enter Try.func11, Try.ntmps11
    go_wp2_with (first | (go_at_call 29; refine (awake_any _).mono ?_; rintro e w' ⟨rfl, rfl⟩) | (go_at_call 27; refine (cmp_is (cmp_no (by assumption)) _).mono ?_; rintro e w' ⟨rfl, rfl⟩) | (go_at_call 15; refine (valid_is (by assumption) _).mono ?_; rintro e w' ⟨rfl, rfl⟩))
    go_ret
    exact ⟨rfl, rfl⟩

set_option maxRecDepth 100000 in
set_option maxHeartbeats 1600000 in
theorem mainL (a b c : Int) (w : World) (h : bth a b = true) (hx : cmp3 a b = (-1 : Int)) :
    Calls Try.prog 11 #[.int .i64 a, .int .i64 b, .int .i64 c] w fun e w' => e = .returned (.bool true) ∧ w = w' := by
  have c1 := cmp_ok h hx
  have c2 := cmp_ok (a := b) (b := a) (x := -(-1 : Int)) (by rw [bth_comm]; exact h) (by rw [cmp3_swap, hx])
  have hab : (a == b) = ((-1 : Int) == 0) := by
    rcases cmp3_cases a b with k | k | k <;> rw [hx] at k <;> obtain ⟨k1, k2⟩ := k <;> simp at k2 ⊢ <;> omega
  have C1 := Lib.hid c1
  have C2 := Lib.hid c2
  have HX := Lib.hid hx
  have ⟨⟨b1, b2⟩, b3, b4⟩ := bth_iff.1 h
  clear c1 c2 hx
  have HS := Lib.hid (show (subV a b = a - b ∧ subE a b = 0) ∧ (cmpV (a - b) 0 = (-1 : Int) ∧ cmpE (a - b) 0 = 0) ∨ (subV a b = 0 ∧ subE a b = 3) from by
    cases hv : vld (a - b)
    · exact .inr (sub_out h hv)
    · exact .inl ⟨sub_ok h hv, cmp_ok (bth_mk hv rfl) ((cmp3_sub a b).trans HX.out)⟩)
  have HSum := Lib.hid (show ((addV a c = a + c ∧ addE a c = 0) ∧ (addV b c = b + c ∧ addE b c = 0) ∧ (cmpV (a + c) (b + c) = (-1 : Int) ∧ cmpE (a + c) (b + c) = 0)) ∨ (addE a c == 0) = false ∨ ((addE a c == 0) = true ∧ (addE b c == 0) = false) from by
    cases hvc : vld c
    · exact .inr (.inl (by rw [(add_no (bth_no hvc)).2]; rfl))
    · cases hv1 : vld (a + c)
      · exact .inr (.inl (by rw [(add_out (bth_mk (bth_l h) hvc) hv1).2]; rfl))
      · have e1 := add_ok (bth_mk (bth_l h) hvc) hv1
        cases hv2 : vld (b + c)
        · exact .inr (.inr ⟨by rw [e1.2]; rfl, by rw [(add_out (bth_mk (bth_r h) hvc) hv2).2]; rfl⟩)
        · exact .inl ⟨e1, add_ok (bth_mk (bth_r h) hvc) hv2, cmp_ok (bth_mk hv1 hv2) ((cmp3_add a b c).trans HX.out)⟩)
  have HMul := Lib.hid (show 0 < c → ((mulV a c = a * c ∧ mulE a c = 0) ∧ (mulV b c = b * c ∧ mulE b c = 0) ∧ (cmpV (a * c) (b * c) = (-1 : Int) ∧ cmpE (a * c) (b * c) = 0)) ∨ (mulE a c == 0) = false ∨ ((mulE a c == 0) = true ∧ (mulE b c == 0) = false) from by
    intro hc
    cases hvc : vld c
    · exact .inr (.inl (by rw [(mul_no (bth_no hvc)).2]; rfl))
    · cases hv1 : vld (a * c)
      · exact .inr (.inl (by rw [(mul_out (bth_mk (bth_l h) hvc) hv1).2]; rfl))
      · have e1 := mul_ok (bth_mk (bth_l h) hvc) hv1
        cases hv2 : vld (b * c)
        · exact .inr (.inr ⟨by rw [e1.2]; rfl, by rw [(mul_out (bth_mk (bth_r h) hvc) hv2).2]; rfl⟩)
        · exact .inl ⟨e1, mul_ok (bth_mk (bth_r h) hvc) hv2, cmp_ok (bth_mk hv1 hv2) ((cmp3_mul a b c hc).trans HX.out)⟩)
  have HT := Lib.hid (show (cmpE b c == 0) = false ∨ ((cmpE b c == 0) = true ∧ (((-1 : Int) == cmpV b c) = false ∨ (((-1 : Int) == cmpV b c) = true ∧ cmpV a c = (-1 : Int) ∧ cmpE a c = 0))) from by
    cases hvc : vld c
    · exact .inl (by rw [(cmp_no (bth_no hvc)).2]; rfl)
    · have e1 := cmp_ok (bth_mk (bth_r h) hvc) (rfl : cmp3 b c = cmp3 b c)
      refine .inr ⟨by rw [e1.2]; rfl, ?_⟩
      rw [e1.1]
      cases hq : (-1 : Int) == cmp3 b c
      · exact .inl rfl
      · exact .inr ⟨rfl, cmp_ok (bth_mk (bth_l h) hvc) (cmp3_trans HX.out (by simpa using (beq_iff_eq.1 hq).symm))⟩)
  clear HX h
  go_enter Try.func11, Try.ntmps11
  go_wp2_with fail
  refine (awake_any _).mono ?_; rintro e w' ⟨rfl, rfl⟩
  go_wp2_with fail
  refine (cmp_is C1.out _).mono ?_; rintro e w' ⟨rfl, rfl⟩
  go_wp2_with fail
  refine (cmp_is C2.out _).mono ?_; rintro e w' ⟨rfl, rfl⟩
  go_wp2_with fail
  refine (cmp_any _ _ _).mono ?_; rintro e w' ⟨rfl, rfl⟩
  go_upto_region 9 with fail
  go_cut [92] (fun s wx => ∃ t, s = .bool t ∧ Good t (cmpV a c = (-1 : Int) ∧ cmpE a c = 0) ∧ w = wx)
  case first =>
    rcases HT.out with k1 | ⟨k1, k2 | ⟨k2, k3⟩⟩
    · go_wp2_with fail
      go_meet
      case rel => exact ⟨false, rfl, (fun h => nomatch h), rfl⟩
    · go_wp2_with fail
      go_meet
      case rel => exact ⟨false, rfl, (fun h => nomatch h), rfl⟩
    · have k4 := Lib.hid k3
      clear k3
      go_wp2_with fail
      go_meet
      case rel => exact ⟨true, rfl, fun _ => k4.out, rfl⟩
  case rest =>
  obtain ⟨t, rfl, HG, rfl⟩ := hcut
  go_upto_if 92 with fail
  go_cut [] (fun wx => w = wx)
  case first =>
    cases t
    · go_wp2_with fail
      go_meet
      case rel => rfl
    · go_wp2_with fail
      refine (cmp_is (HG rfl) _).mono ?_; rintro e w' ⟨rfl, rfl⟩
      go_wp2_with fail
      go_meet
      case rel => rfl
  case rest =>
  obtain rfl := hcut
  go_wp2_with fail
  refine (sub_any _ _ _).mono ?_; rintro e w' ⟨rfl, rfl⟩
  generalize subV a b = v1, subE a b = e1 at HS ⊢
  go_upto_if 113 with fail
  go_cut [] (fun wx => w = wx)
  case first =>
    rcases HS.out with ⟨⟨rfl, rfl⟩, k2⟩ | ⟨rfl, rfl⟩
    · have k4 := Lib.hid k2
      clear k2
      go_wp2_with fail
      refine (sign_is k4.out _).mono ?_; rintro e w' ⟨rfl, rfl⟩
      go_wp2_with fail
      go_meet
      case rel => rfl
    · go_wp2_with fail
      go_meet
      case rel => rfl
  case rest =>
  obtain rfl := hcut
  go_wp2_with fail
  refine (add_any _ _ _).mono ?_; rintro e w' ⟨rfl, rfl⟩
  go_wp2_with fail
  refine (add_any _ _ _).mono ?_; rintro e w' ⟨rfl, rfl⟩
  generalize addV a c = v2, addE a c = e2, addV b c = v3, addE b c = e3 at HSum ⊢
  go_upto_region 20 with fail
  go_cut [143] (fun s wx => ∃ t, s = .bool t ∧ Good t (cmpV v2 v3 = (-1 : Int) ∧ cmpE v2 v3 = 0) ∧ w = wx)
  case first =>
    rcases HSum.out with ⟨⟨rfl, rfl⟩, ⟨rfl, rfl⟩, k3⟩ | k1 | ⟨k1, k2⟩
    · have k4 := Lib.hid k3
      clear k3
      go_wp2_with fail
      go_meet
      case rel => exact ⟨true, rfl, fun _ => k4.out, rfl⟩
    · go_wp2_with fail
      go_meet
      case rel => exact ⟨false, rfl, (fun h => nomatch h), rfl⟩
    · go_wp2_with fail
      go_meet
      case rel => exact ⟨false, rfl, (fun h => nomatch h), rfl⟩
  case rest =>
  obtain ⟨t, rfl, HG, rfl⟩ := hcut
  go_upto_if 143 with fail
  go_cut [] (fun wx => w = wx)
  case first =>
    cases t
    · go_wp2_with fail
      go_meet
      case rel => rfl
    · go_wp2_with fail
      refine (cmp_is (HG rfl) _).mono ?_; rintro e w' ⟨rfl, rfl⟩
      go_wp2_with fail
      go_meet
      case rel => rfl
  case rest =>
  obtain rfl := hcut
  go_wp2_with fail
  refine (mul_any _ _ _).mono ?_; rintro e w' ⟨rfl, rfl⟩
  go_wp2_with fail
  refine (mul_any _ _ _).mono ?_; rintro e w' ⟨rfl, rfl⟩
  generalize mulV a c = v4, mulE a c = e4, mulV b c = v5, mulE b c = e5 at HMul ⊢
  by_cases hc : 0 < c
  · rcases HMul.out hc with ⟨⟨rfl, rfl⟩, ⟨rfl, rfl⟩, k3⟩ | k1 | ⟨k1, k2⟩
    · have k4 := Lib.hid k3
      clear k3
      go_wp2_with fail
      refine (cmp_is k4.out _).mono ?_; rintro e w' ⟨rfl, rfl⟩
      go_wp2_with fail
      go_ret
      exact ⟨rfl, rfl⟩
    · go_wp2_with fail
      go_ret
      exact ⟨rfl, rfl⟩
    · go_wp2_with fail
      go_ret
      exact ⟨rfl, rfl⟩
  · go_wp2_with fail
    go_ret
    exact ⟨rfl, rfl⟩

set_option maxRecDepth 100000 in
set_option maxHeartbeats 1600000 in
theorem mainE (a b c : Int) (w : World) (h : bth a b = true) (hx : cmp3 a b = (0 : Int)) :
    Calls Try.prog 11 #[.int .i64 a, .int .i64 b, .int .i64 c] w fun e w' => e = .returned (.bool true) ∧ w = w' := by
  have c1 := cmp_ok h hx
  have c2 := cmp_ok (a := b) (b := a) (x := -(0 : Int)) (by rw [bth_comm]; exact h) (by rw [cmp3_swap, hx])
  have hab : (a == b) = ((0 : Int) == 0) := by
    rcases cmp3_cases a b with k | k | k <;> rw [hx] at k <;> obtain ⟨k1, k2⟩ := k <;> simp at k2 ⊢ <;> omega
  have C1 := Lib.hid c1
  have C2 := Lib.hid c2
  have HX := Lib.hid hx
  have ⟨⟨b1, b2⟩, b3, b4⟩ := bth_iff.1 h
  clear c1 c2 hx
  have HS := Lib.hid (show (subV a b = a - b ∧ subE a b = 0) ∧ (cmpV (a - b) 0 = (0 : Int) ∧ cmpE (a - b) 0 = 0) ∨ (subV a b = 0 ∧ subE a b = 3) from by
    cases hv : vld (a - b)
    · exact .inr (sub_out h hv)
    · exact .inl ⟨sub_ok h hv, cmp_ok (bth_mk hv rfl) ((cmp3_sub a b).trans HX.out)⟩)
  have HSum := Lib.hid (show ((addV a c = a + c ∧ addE a c = 0) ∧ (addV b c = b + c ∧ addE b c = 0) ∧ (cmpV (a + c) (b + c) = (0 : Int) ∧ cmpE (a + c) (b + c) = 0)) ∨ (addE a c == 0) = false ∨ ((addE a c == 0) = true ∧ (addE b c == 0) = false) from by
    cases hvc : vld c
    · exact .inr (.inl (by rw [(add_no (bth_no hvc)).2]; rfl))
    · cases hv1 : vld (a + c)
      · exact .inr (.inl (by rw [(add_out (bth_mk (bth_l h) hvc) hv1).2]; rfl))
      · have e1 := add_ok (bth_mk (bth_l h) hvc) hv1
        cases hv2 : vld (b + c)
        · exact .inr (.inr ⟨by rw [e1.2]; rfl, by rw [(add_out (bth_mk (bth_r h) hvc) hv2).2]; rfl⟩)
        · exact .inl ⟨e1, add_ok (bth_mk (bth_r h) hvc) hv2, cmp_ok (bth_mk hv1 hv2) ((cmp3_add a b c).trans HX.out)⟩)
  have HMul := Lib.hid (show 0 < c → ((mulV a c = a * c ∧ mulE a c = 0) ∧ (mulV b c = b * c ∧ mulE b c = 0) ∧ (cmpV (a * c) (b * c) = (0 : Int) ∧ cmpE (a * c) (b * c) = 0)) ∨ (mulE a c == 0) = false ∨ ((mulE a c == 0) = true ∧ (mulE b c == 0) = false) from by
    intro hc
    cases hvc : vld c
    · exact .inr (.inl (by rw [(mul_no (bth_no hvc)).2]; rfl))
    · cases hv1 : vld (a * c)
      · exact .inr (.inl (by rw [(mul_out (bth_mk (bth_l h) hvc) hv1).2]; rfl))
      · have e1 := mul_ok (bth_mk (bth_l h) hvc) hv1
        cases hv2 : vld (b * c)
        · exact .inr (.inr ⟨by rw [e1.2]; rfl, by rw [(mul_out (bth_mk (bth_r h) hvc) hv2).2]; rfl⟩)
        · exact .inl ⟨e1, mul_ok (bth_mk (bth_r h) hvc) hv2, cmp_ok (bth_mk hv1 hv2) ((cmp3_mul a b c hc).trans HX.out)⟩)
  have HT := Lib.hid (show (cmpE b c == 0) = false ∨ ((cmpE b c == 0) = true ∧ (((0 : Int) == cmpV b c) = false ∨ (((0 : Int) == cmpV b c) = true ∧ cmpV a c = (0 : Int) ∧ cmpE a c = 0))) from by
    cases hvc : vld c
    · exact .inl (by rw [(cmp_no (bth_no hvc)).2]; rfl)
    · have e1 := cmp_ok (bth_mk (bth_r h) hvc) (rfl : cmp3 b c = cmp3 b c)
      refine .inr ⟨by rw [e1.2]; rfl, ?_⟩
      rw [e1.1]
      cases hq : (0 : Int) == cmp3 b c
      · exact .inl rfl
      · exact .inr ⟨rfl, cmp_ok (bth_mk (bth_l h) hvc) (cmp3_trans HX.out (by simpa using (beq_iff_eq.1 hq).symm))⟩)
  clear HX h
  go_enter Try.func11, Try.ntmps11
  go_wp2_with fail
  refine (awake_any _).mono ?_; rintro e w' ⟨rfl, rfl⟩
  go_wp2_with fail
  refine (cmp_is C1.out _).mono ?_; rintro e w' ⟨rfl, rfl⟩
  go_wp2_with fail
  refine (cmp_is C2.out _).mono ?_; rintro e w' ⟨rfl, rfl⟩
  go_wp2_with fail
  refine (cmp_any _ _ _).mono ?_; rintro e w' ⟨rfl, rfl⟩
  go_upto_region 9 with fail
  go_cut [92] (fun s wx => ∃ t, s = .bool t ∧ Good t (cmpV a c = (0 : Int) ∧ cmpE a c = 0) ∧ w = wx)
  case first =>
    rcases HT.out with k1 | ⟨k1, k2 | ⟨k2, k3⟩⟩
    · go_wp2_with fail
      go_meet
      case rel => exact ⟨false, rfl, (fun h => nomatch h), rfl⟩
    · go_wp2_with fail
      go_meet
      case rel => exact ⟨false, rfl, (fun h => nomatch h), rfl⟩
    · have k4 := Lib.hid k3
      clear k3
      go_wp2_with fail
      go_meet
      case rel => exact ⟨true, rfl, fun _ => k4.out, rfl⟩
  case rest =>
  obtain ⟨t, rfl, HG, rfl⟩ := hcut
  go_upto_if 92 with fail
  go_cut [] (fun wx => w = wx)
  case first =>
    cases t
    · go_wp2_with fail
      go_meet
      case rel => rfl
    · go_wp2_with fail
      refine (cmp_is (HG rfl) _).mono ?_; rintro e w' ⟨rfl, rfl⟩
      go_wp2_with fail
      go_meet
      case rel => rfl
  case rest =>
  obtain rfl := hcut
  go_wp2_with fail
  refine (sub_any _ _ _).mono ?_; rintro e w' ⟨rfl, rfl⟩
  generalize subV a b = v1, subE a b = e1 at HS ⊢
  go_upto_if 113 with fail
  go_cut [] (fun wx => w = wx)
  case first =>
    rcases HS.out with ⟨⟨rfl, rfl⟩, k2⟩ | ⟨rfl, rfl⟩
    · have k4 := Lib.hid k2
      clear k2
      go_wp2_with fail
      refine (sign_is k4.out _).mono ?_; rintro e w' ⟨rfl, rfl⟩
      go_wp2_with fail
      go_meet
      case rel => rfl
    · go_wp2_with fail
      go_meet
      case rel => rfl
  case rest =>
  obtain rfl := hcut
  go_wp2_with fail
  refine (add_any _ _ _).mono ?_; rintro e w' ⟨rfl, rfl⟩
  go_wp2_with fail
  refine (add_any _ _ _).mono ?_; rintro e w' ⟨rfl, rfl⟩
  generalize addV a c = v2, addE a c = e2, addV b c = v3, addE b c = e3 at HSum ⊢
  go_upto_region 20 with fail
  go_cut [143] (fun s wx => ∃ t, s = .bool t ∧ Good t (cmpV v2 v3 = (0 : Int) ∧ cmpE v2 v3 = 0) ∧ w = wx)
  case first =>
    rcases HSum.out with ⟨⟨rfl, rfl⟩, ⟨rfl, rfl⟩, k3⟩ | k1 | ⟨k1, k2⟩
    · have k4 := Lib.hid k3
      clear k3
      go_wp2_with fail
      go_meet
      case rel => exact ⟨true, rfl, fun _ => k4.out, rfl⟩
    · go_wp2_with fail
      go_meet
      case rel => exact ⟨false, rfl, (fun h => nomatch h), rfl⟩
    · go_wp2_with fail
      go_meet
      case rel => exact ⟨false, rfl, (fun h => nomatch h), rfl⟩
  case rest =>
  obtain ⟨t, rfl, HG, rfl⟩ := hcut
  go_upto_if 143 with fail
  go_cut [] (fun wx => w = wx)
  case first =>
    cases t
    · go_wp2_with fail
      go_meet
      case rel => rfl
    · go_wp2_with fail
      refine (cmp_is (HG rfl) _).mono ?_; rintro e w' ⟨rfl, rfl⟩
      go_wp2_with fail
      go_meet
      case rel => rfl
  case rest =>
  obtain rfl := hcut
  go_wp2_with fail
  refine (mul_any _ _ _).mono ?_; rintro e w' ⟨rfl, rfl⟩
  go_wp2_with fail
  refine (mul_any _ _ _).mono ?_; rintro e w' ⟨rfl, rfl⟩
  generalize mulV a c = v4, mulE a c = e4, mulV b c = v5, mulE b c = e5 at HMul ⊢
  by_cases hc : 0 < c
  · rcases HMul.out hc with ⟨⟨rfl, rfl⟩, ⟨rfl, rfl⟩, k3⟩ | k1 | ⟨k1, k2⟩
    · have k4 := Lib.hid k3
      clear k3
      go_wp2_with fail
      refine (cmp_is k4.out _).mono ?_; rintro e w' ⟨rfl, rfl⟩
      go_wp2_with fail
      go_ret
      exact ⟨rfl, rfl⟩
    · go_wp2_with fail
      go_ret
      exact ⟨rfl, rfl⟩
    · go_wp2_with fail
      go_ret
      exact ⟨rfl, rfl⟩
  · go_wp2_with fail
    go_ret
    exact ⟨rfl, rfl⟩

set_option maxRecDepth 100000 in
set_option maxHeartbeats 1600000 in
theorem mainG (a b c : Int) (w : World) (h : bth a b = true) (hx : cmp3 a b = (1 : Int)) :
    Calls Try.prog 11 #[.int .i64 a, .int .i64 b, .int .i64 c] w fun e w' => e = .returned (.bool true) ∧ w = w' := by
  have c1 := cmp_ok h hx
  have c2 := cmp_ok (a := b) (b := a) (x := -(1 : Int)) (by rw [bth_comm]; exact h) (by rw [cmp3_swap, hx])
  have hab : (a == b) = ((1 : Int) == 0) := by
    rcases cmp3_cases a b with k | k | k <;> rw [hx] at k <;> obtain ⟨k1, k2⟩ := k <;> simp at k2 ⊢ <;> omega
  have C1 := Lib.hid c1
  have C2 := Lib.hid c2
  have HX := Lib.hid hx
  have ⟨⟨b1, b2⟩, b3, b4⟩ := bth_iff.1 h
  clear c1 c2 hx
  have HS := Lib.hid (show (subV a b = a - b ∧ subE a b = 0) ∧ (cmpV (a - b) 0 = (1 : Int) ∧ cmpE (a - b) 0 = 0) ∨ (subV a b = 0 ∧ subE a b = 3) from by
    cases hv : vld (a - b)
    · exact .inr (sub_out h hv)
    · exact .inl ⟨sub_ok h hv, cmp_ok (bth_mk hv rfl) ((cmp3_sub a b).trans HX.out)⟩)
  have HSum := Lib.hid (show ((addV a c = a + c ∧ addE a c = 0) ∧ (addV b c = b + c ∧ addE b c = 0) ∧ (cmpV (a + c) (b + c) = (1 : Int) ∧ cmpE (a + c) (b + c) = 0)) ∨ (addE a c == 0) = false ∨ ((addE a c == 0) = true ∧ (addE b c == 0) = false) from by
    cases hvc : vld c
    · exact .inr (.inl (by rw [(add_no (bth_no hvc)).2]; rfl))
    · cases hv1 : vld (a + c)
      · exact .inr (.inl (by rw [(add_out (bth_mk (bth_l h) hvc) hv1).2]; rfl))
      · have e1 := add_ok (bth_mk (bth_l h) hvc) hv1
        cases hv2 : vld (b + c)
        · exact .inr (.inr ⟨by rw [e1.2]; rfl, by rw [(add_out (bth_mk (bth_r h) hvc) hv2).2]; rfl⟩)
        · exact .inl ⟨e1, add_ok (bth_mk (bth_r h) hvc) hv2, cmp_ok (bth_mk hv1 hv2) ((cmp3_add a b c).trans HX.out)⟩)
  have HMul := Lib.hid (show 0 < c → ((mulV a c = a * c ∧ mulE a c = 0) ∧ (mulV b c = b * c ∧ mulE b c = 0) ∧ (cmpV (a * c) (b * c) = (1 : Int) ∧ cmpE (a * c) (b * c) = 0)) ∨ (mulE a c == 0) = false ∨ ((mulE a c == 0) = true ∧ (mulE b c == 0) = false) from by
    intro hc
    cases hvc : vld c
    · exact .inr (.inl (by rw [(mul_no (bth_no hvc)).2]; rfl))
    · cases hv1 : vld (a * c)
      · exact .inr (.inl (by rw [(mul_out (bth_mk (bth_l h) hvc) hv1).2]; rfl))
      · have e1 := mul_ok (bth_mk (bth_l h) hvc) hv1
        cases hv2 : vld (b * c)
        · exact .inr (.inr ⟨by rw [e1.2]; rfl, by rw [(mul_out (bth_mk (bth_r h) hvc) hv2).2]; rfl⟩)
        · exact .inl ⟨e1, mul_ok (bth_mk (bth_r h) hvc) hv2, cmp_ok (bth_mk hv1 hv2) ((cmp3_mul a b c hc).trans HX.out)⟩)
  have HT := Lib.hid (show (cmpE b c == 0) = false ∨ ((cmpE b c == 0) = true ∧ (((1 : Int) == cmpV b c) = false ∨ (((1 : Int) == cmpV b c) = true ∧ cmpV a c = (1 : Int) ∧ cmpE a c = 0))) from by
    cases hvc : vld c
    · exact .inl (by rw [(cmp_no (bth_no hvc)).2]; rfl)
    · have e1 := cmp_ok (bth_mk (bth_r h) hvc) (rfl : cmp3 b c = cmp3 b c)
      refine .inr ⟨by rw [e1.2]; rfl, ?_⟩
      rw [e1.1]
      cases hq : (1 : Int) == cmp3 b c
      · exact .inl rfl
      · exact .inr ⟨rfl, cmp_ok (bth_mk (bth_l h) hvc) (cmp3_trans HX.out (by simpa using (beq_iff_eq.1 hq).symm))⟩)
  clear HX h
  go_enter Try.func11, Try.ntmps11
  go_wp2_with fail
  refine (awake_any _).mono ?_; rintro e w' ⟨rfl, rfl⟩
  go_wp2_with fail
  refine (cmp_is C1.out _).mono ?_; rintro e w' ⟨rfl, rfl⟩
  go_wp2_with fail
  refine (cmp_is C2.out _).mono ?_; rintro e w' ⟨rfl, rfl⟩
  go_wp2_with fail
  refine (cmp_any _ _ _).mono ?_; rintro e w' ⟨rfl, rfl⟩
  go_upto_region 9 with fail
  go_cut [92] (fun s wx => ∃ t, s = .bool t ∧ Good t (cmpV a c = (1 : Int) ∧ cmpE a c = 0) ∧ w = wx)
  case first =>
    rcases HT.out with k1 | ⟨k1, k2 | ⟨k2, k3⟩⟩
    · go_wp2_with fail
      go_meet
      case rel => exact ⟨false, rfl, (fun h => nomatch h), rfl⟩
    · go_wp2_with fail
      go_meet
      case rel => exact ⟨false, rfl, (fun h => nomatch h), rfl⟩
    · have k4 := Lib.hid k3
      clear k3
      go_wp2_with fail
      go_meet
      case rel => exact ⟨true, rfl, fun _ => k4.out, rfl⟩
  case rest =>
  obtain ⟨t, rfl, HG, rfl⟩ := hcut
  go_upto_if 92 with fail
  go_cut [] (fun wx => w = wx)
  case first =>
    cases t
    · go_wp2_with fail
      go_meet
      case rel => rfl
    · go_wp2_with fail
      refine (cmp_is (HG rfl) _).mono ?_; rintro e w' ⟨rfl, rfl⟩
      go_wp2_with fail
      go_meet
      case rel => rfl
  case rest =>
  obtain rfl := hcut
  go_wp2_with fail
  refine (sub_any _ _ _).mono ?_; rintro e w' ⟨rfl, rfl⟩
  generalize subV a b = v1, subE a b = e1 at HS ⊢
  go_upto_if 113 with fail
  go_cut [] (fun wx => w = wx)
  case first =>
    rcases HS.out with ⟨⟨rfl, rfl⟩, k2⟩ | ⟨rfl, rfl⟩
    · have k4 := Lib.hid k2
      clear k2
      go_wp2_with fail
      refine (sign_is k4.out _).mono ?_; rintro e w' ⟨rfl, rfl⟩
      go_wp2_with fail
      go_meet
      case rel => rfl
    · go_wp2_with fail
      go_meet
      case rel => rfl
  case rest =>
  obtain rfl := hcut
  go_wp2_with fail
  refine (add_any _ _ _).mono ?_; rintro e w' ⟨rfl, rfl⟩
  go_wp2_with fail
  refine (add_any _ _ _).mono ?_; rintro e w' ⟨rfl, rfl⟩
  generalize addV a c = v2, addE a c = e2, addV b c = v3, addE b c = e3 at HSum ⊢
  go_upto_region 20 with fail
  go_cut [143] (fun s wx => ∃ t, s = .bool t ∧ Good t (cmpV v2 v3 = (1 : Int) ∧ cmpE v2 v3 = 0) ∧ w = wx)
  case first =>
    rcases HSum.out with ⟨⟨rfl, rfl⟩, ⟨rfl, rfl⟩, k3⟩ | k1 | ⟨k1, k2⟩
    · have k4 := Lib.hid k3
      clear k3
      go_wp2_with fail
      go_meet
      case rel => exact ⟨true, rfl, fun _ => k4.out, rfl⟩
    · go_wp2_with fail
      go_meet
      case rel => exact ⟨false, rfl, (fun h => nomatch h), rfl⟩
    · go_wp2_with fail
      go_meet
      case rel => exact ⟨false, rfl, (fun h => nomatch h), rfl⟩
  case rest =>
  obtain ⟨t, rfl, HG, rfl⟩ := hcut
  go_upto_if 143 with fail
  go_cut [] (fun wx => w = wx)
  case first =>
    cases t
    · go_wp2_with fail
      go_meet
      case rel => rfl
    · go_wp2_with fail
      refine (cmp_is (HG rfl) _).mono ?_; rintro e w' ⟨rfl, rfl⟩
      go_wp2_with fail
      go_meet
      case rel => rfl
  case rest =>
  obtain rfl := hcut
  go_wp2_with fail
  refine (mul_any _ _ _).mono ?_; rintro e w' ⟨rfl, rfl⟩
  go_wp2_with fail
  refine (mul_any _ _ _).mono ?_; rintro e w' ⟨rfl, rfl⟩
  generalize mulV a c = v4, mulE a c = e4, mulV b c = v5, mulE b c = e5 at HMul ⊢
  by_cases hc : 0 < c
  · rcases HMul.out hc with ⟨⟨rfl, rfl⟩, ⟨rfl, rfl⟩, k3⟩ | k1 | ⟨k1, k2⟩
    · have k4 := Lib.hid k3
      clear k3
      go_wp2_with fail
      refine (cmp_is k4.out _).mono ?_; rintro e w' ⟨rfl, rfl⟩
      go_wp2_with fail
      go_ret
      exact ⟨rfl, rfl⟩
    · go_wp2_with fail
      go_ret
      exact ⟨rfl, rfl⟩
    · go_wp2_with fail
      go_ret
      exact ⟨rfl, rfl⟩
  · go_wp2_with fail
    go_ret
    exact ⟨rfl, rfl⟩

set_option maxRecDepth 100000 in
set_option maxHeartbeats 1600000 in
theorem run (a0 : Int) (a1 : Int) (a2 : Int) (w : World) (w0 : (Lit.int .i64 a0).wf = true) (w1 : (Lit.int .i64 a1).wf = true) (w2 : (Lit.int .i64 a2).wf = true) :
    Calls Try.prog 11 #[.int .i64 a0, .int .i64 a1, .int .i64 a2] w fun e w' => e = .returned (.bool true) ∧ w = w' := by
  cases h : bth a0 a1
  · exact short a0 a1 a2 w h
  · rcases cmp3_cases a0 a1 with k | k | k
    · exact mainL a0 a1 a2 w h k.2
    · exact mainE a0 a1 a2 w h k.2
    · exact mainG a0 a1 a2 w h k.2

end Go.Proofs.Ytfklicofohaccaa.integerOrder
