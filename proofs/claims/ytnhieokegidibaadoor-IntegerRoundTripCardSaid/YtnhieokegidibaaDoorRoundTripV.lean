/-
  IntegerRoundTrip: the walk.
-/
import Derived.Test.YtnhieokegidibaaDoorTen
import Derived.Outline

namespace Go.Proofs.YtnhieokegidibaaDoor.integerRoundTrip
open Go.RowKit
set_option linter.unusedVariables false

theorem print_is {n : Int} {s : ByteArray} {e : Int} (h : prS n = s ∧ prE n = e) (w : World) (htab : Tab w) :
    Calls Tryd.prog 7 #[.int .i64 n] w fun e' w' => e' = .returned (pairS s e) ∧ Below w.heap.size w w' := by
  obtain ⟨rfl, rfl⟩ := h
  exact print_any n w htab
theorem parse_is {s : ByteArray} {v e : Int} (h : docV s = v ∧ docE s = e) (w : World) (hm : s.size ≤ 9223372036854775807) :
    Calls Tryd.prog 5 #[.string s] w fun e' w' => e' = .returned (pairI v e) ∧ Below w.heap.size w w' := by
  obtain ⟨rfl, rfl⟩ := h
  exact parse_any s w hm
theorem add_run (a1 : ByteArray) (c : UInt8) (h : a1.size ≤ 140737488351232) (w : World) :
    (Op.stringOp .add a1 (bts [c])).run Tryd.prog w = .ok (.string (bts (a1.data.toList ++ [c]))) w := by
  have hs : (bts [c]).size = 1 := bts_size [c]
  rw [run_string_add_sum w _ _ (by omega)]
  have e := ByteArray.mk_append_mk a1.data.toList [c]
  rw [show a1 ++ bts [c] = bts (a1.data.toList ++ [c]) from (congrArg (· ++ bts [c]) (bts_self a1).symm).trans e]
theorem plus_err (a e b : Int) (w : World) (h : (e != 0) = true) :
    Calls Tryd.prog 12 #[.int .i64 a, .int .i64 e, .int .i64 b, .int .i64 0] w fun e' w' => e' = .returned (pairI 0 e) ∧ w = w' := by
  go_enter Tryd.func12, Tryd.ntmps12
  go_wp2_with fail
  go_ret2
  exact ⟨rfl, rfl⟩
theorem plus_ok {a b v e : Int} (h : addV a b = v ∧ addE a b = e) (w : World) :
    Calls Tryd.prog 12 #[.int .i64 a, .int .i64 0, .int .i64 b, .int .i64 0] w fun e' w' => e' = .returned (pairI v e) ∧ w = w' := by
  go_enter Tryd.func12, Tryd.ntmps12
  go_wp2_with fail
  refine (add_is h _).mono ?_
  rintro e w' ⟨rfl, rfl⟩
  go_wp2_with fail
  go_ret2
  exact ⟨rfl, rfl⟩

theorem y_bad (a0 : Int) (a1 : ByteArray) (a2 : Int) (w : World) (w1 : a1.size ≤ 9223372036854775807) (HT : Hid (Lib.TabBelow Tryd.prog w.heap.size w "internal/strconv.uint64pow10" .u64 Lib.pow10Tab)) (HV : Hid (vld a0 = true)) (HP : Hid (prS a0 = bts (Lib.itoa a0) ∧ prE a0 = 0)) (HQ : Hid (docV (bts (Lib.itoa a0)) = a0 ∧ docE (bts (Lib.itoa a0)) = 0)) (HL : Hid ((Lib.itoa a0).length ≤ 9223372036854775807)) (x er : Int) (he : (er != 0) = true) (HX : Hid (docV a1 = x ∧ docE a1 = er)) :
    Calls Tryd.prog 4 #[.int .i64 a0, .string a1, .int .i64 a2] w fun e w' => e = .returned (.bool true) ∧ Below w.heap.size w w' := by
  go_enter Tryd.func4, Tryd.ntmps4
  go_wp2_with fail
  refine (awake_any _).mono ?_
  rintro e w' ⟨rfl, rfl⟩
  go_wp2_with fail
  refine (print_is HP.out _ (HT.out _ (Below.refl _ _))).mono ?_
  rintro e W1 ⟨rfl, hb1⟩
  have HB1 := Lib.hid (hb1)
  have hs1 := HB1.out.size
  clear hb1
  go_wp2_with fail
  refine (parse_is HQ.out _ (by rw [bts_size]; exact HL.out)).mono ?_
  rintro e W2 ⟨rfl, hb2⟩
  have HB2 := Lib.hid (HB1.out.trans (hb2.mono hs1))
  have hs2 := HB2.out.size
  clear hb2
  go_wp2_with fail
  refine (valid_is HV.out _).mono ?_
  rintro e w' ⟨rfl, rfl⟩
  go_wp2_with fail
  refine (parse_is HX.out _ w1).mono ?_
  rintro e W3 ⟨rfl, hb3⟩
  have HB3 := Lib.hid (HB2.out.trans (hb3.mono hs2))
  have hs3 := HB3.out.size
  clear hb3
  go_wp2_with fail
  go_ret
  exact ⟨rfl, HB3.out⟩

theorem y_low (a0 : Int) (a1 : ByteArray) (a2 : Int) (w : World) (w1 : a1.size ≤ 9223372036854775807) (HT : Hid (Lib.TabBelow Tryd.prog w.heap.size w "internal/strconv.uint64pow10" .u64 Lib.pow10Tab)) (HV : Hid (vld a0 = true)) (HP : Hid (prS a0 = bts (Lib.itoa a0) ∧ prE a0 = 0)) (HQ : Hid (docV (bts (Lib.itoa a0)) = a0 ∧ docE (bts (Lib.itoa a0)) = 0)) (HL : Hid ((Lib.itoa a0).length ≤ 9223372036854775807)) (x : Int) (hd : a2 < 0) (HX : Hid (docV a1 = x ∧ docE a1 = 0)) :
    Calls Tryd.prog 4 #[.int .i64 a0, .string a1, .int .i64 a2] w fun e w' => e = .returned (.bool true) ∧ Below w.heap.size w w' := by
  go_enter Tryd.func4, Tryd.ntmps4
  go_wp2_with fail
  refine (awake_any _).mono ?_
  rintro e w' ⟨rfl, rfl⟩
  go_wp2_with fail
  refine (print_is HP.out _ (HT.out _ (Below.refl _ _))).mono ?_
  rintro e W1 ⟨rfl, hb1⟩
  have HB1 := Lib.hid (hb1)
  have hs1 := HB1.out.size
  clear hb1
  go_wp2_with fail
  refine (parse_is HQ.out _ (by rw [bts_size]; exact HL.out)).mono ?_
  rintro e W2 ⟨rfl, hb2⟩
  have HB2 := Lib.hid (HB1.out.trans (hb2.mono hs1))
  have hs2 := HB2.out.size
  clear hb2
  go_wp2_with fail
  refine (valid_is HV.out _).mono ?_
  rintro e w' ⟨rfl, rfl⟩
  go_wp2_with fail
  refine (parse_is HX.out _ w1).mono ?_
  rintro e W3 ⟨rfl, hb3⟩
  have HB3 := Lib.hid (HB2.out.trans (hb3.mono hs2))
  have hs3 := HB3.out.size
  clear hb3
  go_wp2_with fail
  go_ret
  exact ⟨rfl, HB3.out⟩

theorem y_high (a0 : Int) (a1 : ByteArray) (a2 : Int) (w : World) (w1 : a1.size ≤ 9223372036854775807) (HT : Hid (Lib.TabBelow Tryd.prog w.heap.size w "internal/strconv.uint64pow10" .u64 Lib.pow10Tab)) (HV : Hid (vld a0 = true)) (HP : Hid (prS a0 = bts (Lib.itoa a0) ∧ prE a0 = 0)) (HQ : Hid (docV (bts (Lib.itoa a0)) = a0 ∧ docE (bts (Lib.itoa a0)) = 0)) (HL : Hid ((Lib.itoa a0).length ≤ 9223372036854775807)) (x : Int) (hd0 : 0 ≤ a2) (hd : 9 < a2) (HX : Hid (docV a1 = x ∧ docE a1 = 0)) :
    Calls Tryd.prog 4 #[.int .i64 a0, .string a1, .int .i64 a2] w fun e w' => e = .returned (.bool true) ∧ Below w.heap.size w w' := by
  go_enter Tryd.func4, Tryd.ntmps4
  go_wp2_with fail
  refine (awake_any _).mono ?_
  rintro e w' ⟨rfl, rfl⟩
  go_wp2_with fail
  refine (print_is HP.out _ (HT.out _ (Below.refl _ _))).mono ?_
  rintro e W1 ⟨rfl, hb1⟩
  have HB1 := Lib.hid (hb1)
  have hs1 := HB1.out.size
  clear hb1
  go_wp2_with fail
  refine (parse_is HQ.out _ (by rw [bts_size]; exact HL.out)).mono ?_
  rintro e W2 ⟨rfl, hb2⟩
  have HB2 := Lib.hid (HB1.out.trans (hb2.mono hs1))
  have hs2 := HB2.out.size
  clear hb2
  go_wp2_with fail
  refine (valid_is HV.out _).mono ?_
  rintro e w' ⟨rfl, rfl⟩
  go_wp2_with fail
  refine (parse_is HX.out _ w1).mono ?_
  rintro e W3 ⟨rfl, hb3⟩
  have HB3 := Lib.hid (HB2.out.trans (hb3.mono hs2))
  have hs3 := HB3.out.size
  clear hb3
  go_wp2_with fail
  go_ret
  exact ⟨rfl, HB3.out⟩

theorem y_m0 (a0 : Int) (a1 : ByteArray) (a2 : Int) (w : World) (w1 : a1.size ≤ 9223372036854775807) (HT : Hid (Lib.TabBelow Tryd.prog w.heap.size w "internal/strconv.uint64pow10" .u64 Lib.pow10Tab)) (HV : Hid (vld a0 = true)) (HP : Hid (prS a0 = bts (Lib.itoa a0) ∧ prE a0 = 0)) (HQ : Hid (docV (bts (Lib.itoa a0)) = a0 ∧ docE (bts (Lib.itoa a0)) = 0)) (HL : Hid ((Lib.itoa a0).length ≤ 9223372036854775807)) (c : UInt8) (d x : Int) (hd0 : 0 ≤ a2) (hd9 : a2 ≤ 9) (h0 : a1.toList.isEmpty = false) (h1 : 0 < a1.size) (h2 : (a1[0].toNat : Int) = 45) (HX : Hid (docV a1 = x ∧ docE a1 = 0)) (HD : Hid (prS a2 = bts [c] ∧ prE a2 = 0)) (HZ : Hid (docV (bts (a1.data.toList ++ [c])) = 0 ∧ docE (bts (a1.data.toList ++ [c])) = 3)) (HS : Hid (a1.size ≤ 140737488351232)) (HZL : Hid ((bts (a1.data.toList ++ [c])).size ≤ 9223372036854775807)) (HM : Hid (mulV x 10 = 0 ∧ mulE x 10 = 3)) :
    Calls Tryd.prog 4 #[.int .i64 a0, .string a1, .int .i64 a2] w fun e w' => e = .returned (.bool true) ∧ Below w.heap.size w w' := by
  go_enter Tryd.func4, Tryd.ntmps4
  go_wp2_with fail
  refine (awake_any _).mono ?_
  rintro e w' ⟨rfl, rfl⟩
  go_wp2_with fail
  refine (print_is HP.out _ (HT.out _ (Below.refl _ _))).mono ?_
  rintro e W1 ⟨rfl, hb1⟩
  have HB1 := Lib.hid (hb1)
  have hs1 := HB1.out.size
  clear hb1
  go_wp2_with fail
  refine (parse_is HQ.out _ (by rw [bts_size]; exact HL.out)).mono ?_
  rintro e W2 ⟨rfl, hb2⟩
  have HB2 := Lib.hid (HB1.out.trans (hb2.mono hs1))
  have hs2 := HB2.out.size
  clear hb2
  go_wp2_with fail
  refine (valid_is HV.out _).mono ?_
  rintro e w' ⟨rfl, rfl⟩
  go_wp2_with fail
  refine (parse_is HX.out _ w1).mono ?_
  rintro e W3 ⟨rfl, hb3⟩
  have HB3 := Lib.hid (HB2.out.trans (hb3.mono hs2))
  have hs3 := HB3.out.size
  clear hb3
  go_wp2_with fail
  refine (print_is HD.out _ (HT.out _ HB3.out)).mono ?_
  rintro e W4 ⟨rfl, hb4⟩
  have HB4 := Lib.hid (HB3.out.trans (hb4.mono hs3))
  have hs4 := HB4.out.size
  clear hb4
  have hadd := add_run a1 c HS.out
  go_wp2_with fail
  refine (parse_is HZ.out _ HZL.out).mono ?_
  rintro e W5 ⟨rfl, hb5⟩
  have HB5 := Lib.hid (HB4.out.trans (hb5.mono hs4))
  have hs5 := HB5.out.size
  clear hb5
  clear hadd
  go_wp2_with fail
  refine (mul_is HM.out _).mono ?_
  rintro e w' ⟨rfl, rfl⟩
  go_wp2_with fail
  refine (plus_err _ _ _ _ (by decide)).mono ?_
  rintro e w' ⟨rfl, rfl⟩
  go_wp2_with fail
  go_ret
  exact ⟨rfl, HB5.out⟩

theorem y_m1 (a0 : Int) (a1 : ByteArray) (a2 : Int) (w : World) (w1 : a1.size ≤ 9223372036854775807) (HT : Hid (Lib.TabBelow Tryd.prog w.heap.size w "internal/strconv.uint64pow10" .u64 Lib.pow10Tab)) (HV : Hid (vld a0 = true)) (HP : Hid (prS a0 = bts (Lib.itoa a0) ∧ prE a0 = 0)) (HQ : Hid (docV (bts (Lib.itoa a0)) = a0 ∧ docE (bts (Lib.itoa a0)) = 0)) (HL : Hid ((Lib.itoa a0).length ≤ 9223372036854775807)) (c : UInt8) (d x y er t : Int) (hd0 : 0 ≤ a2) (hd9 : a2 ≤ 9) (h0 : a1.toList.isEmpty = false) (h1 : 0 < a1.size) (h2 : (a1[0].toNat : Int) = 45) (HX : Hid (docV a1 = x ∧ docE a1 = 0)) (HD : Hid (prS a2 = bts [c] ∧ prE a2 = 0)) (HZ : Hid (docV (bts (a1.data.toList ++ [c])) = y ∧ docE (bts (a1.data.toList ++ [c])) = er)) (HS : Hid (a1.size ≤ 140737488351232)) (HZL : Hid ((bts (a1.data.toList ++ [c])).size ≤ 9223372036854775807)) (HM : Hid (mulV x 10 = t ∧ mulE x 10 = 0)) (HA : Hid (addV t (-a2) = y ∧ addE t (-a2) = er)) :
    Calls Tryd.prog 4 #[.int .i64 a0, .string a1, .int .i64 a2] w fun e w' => e = .returned (.bool true) ∧ Below w.heap.size w w' := by
  go_enter Tryd.func4, Tryd.ntmps4
  go_wp2_with fail
  refine (awake_any _).mono ?_
  rintro e w' ⟨rfl, rfl⟩
  go_wp2_with fail
  refine (print_is HP.out _ (HT.out _ (Below.refl _ _))).mono ?_
  rintro e W1 ⟨rfl, hb1⟩
  have HB1 := Lib.hid (hb1)
  have hs1 := HB1.out.size
  clear hb1
  go_wp2_with fail
  refine (parse_is HQ.out _ (by rw [bts_size]; exact HL.out)).mono ?_
  rintro e W2 ⟨rfl, hb2⟩
  have HB2 := Lib.hid (HB1.out.trans (hb2.mono hs1))
  have hs2 := HB2.out.size
  clear hb2
  go_wp2_with fail
  refine (valid_is HV.out _).mono ?_
  rintro e w' ⟨rfl, rfl⟩
  go_wp2_with fail
  refine (parse_is HX.out _ w1).mono ?_
  rintro e W3 ⟨rfl, hb3⟩
  have HB3 := Lib.hid (HB2.out.trans (hb3.mono hs2))
  have hs3 := HB3.out.size
  clear hb3
  go_wp2_with fail
  refine (print_is HD.out _ (HT.out _ HB3.out)).mono ?_
  rintro e W4 ⟨rfl, hb4⟩
  have HB4 := Lib.hid (HB3.out.trans (hb4.mono hs3))
  have hs4 := HB4.out.size
  clear hb4
  have hadd := add_run a1 c HS.out
  go_wp2_with fail
  refine (parse_is HZ.out _ HZL.out).mono ?_
  rintro e W5 ⟨rfl, hb5⟩
  have HB5 := Lib.hid (HB4.out.trans (hb5.mono hs4))
  have hs5 := HB5.out.size
  clear hb5
  clear hadd
  go_wp2_with fail
  refine (mul_is HM.out _).mono ?_
  rintro e w' ⟨rfl, rfl⟩
  go_wp2_with fail
  refine (plus_ok HA.out _).mono ?_
  rintro e w' ⟨rfl, rfl⟩
  go_wp2_with fail
  go_ret
  exact ⟨rfl, HB5.out⟩

theorem y_p0 (a0 : Int) (a1 : ByteArray) (a2 : Int) (w : World) (w1 : a1.size ≤ 9223372036854775807) (HT : Hid (Lib.TabBelow Tryd.prog w.heap.size w "internal/strconv.uint64pow10" .u64 Lib.pow10Tab)) (HV : Hid (vld a0 = true)) (HP : Hid (prS a0 = bts (Lib.itoa a0) ∧ prE a0 = 0)) (HQ : Hid (docV (bts (Lib.itoa a0)) = a0 ∧ docE (bts (Lib.itoa a0)) = 0)) (HL : Hid ((Lib.itoa a0).length ≤ 9223372036854775807)) (c : UInt8) (d x : Int) (hd0 : 0 ≤ a2) (hd9 : a2 ≤ 9) (h0 : a1.toList.isEmpty = false) (h1 : 0 < a1.size) (h2 : ((a1[0].toNat : Int) == 45) = false) (HX : Hid (docV a1 = x ∧ docE a1 = 0)) (HD : Hid (prS a2 = bts [c] ∧ prE a2 = 0)) (HZ : Hid (docV (bts (a1.data.toList ++ [c])) = 0 ∧ docE (bts (a1.data.toList ++ [c])) = 3)) (HS : Hid (a1.size ≤ 140737488351232)) (HZL : Hid ((bts (a1.data.toList ++ [c])).size ≤ 9223372036854775807)) (HM : Hid (mulV x 10 = 0 ∧ mulE x 10 = 3)) :
    Calls Tryd.prog 4 #[.int .i64 a0, .string a1, .int .i64 a2] w fun e w' => e = .returned (.bool true) ∧ Below w.heap.size w w' := by
  go_enter Tryd.func4, Tryd.ntmps4
  go_wp2_with fail
  refine (awake_any _).mono ?_
  rintro e w' ⟨rfl, rfl⟩
  go_wp2_with fail
  refine (print_is HP.out _ (HT.out _ (Below.refl _ _))).mono ?_
  rintro e W1 ⟨rfl, hb1⟩
  have HB1 := Lib.hid (hb1)
  have hs1 := HB1.out.size
  clear hb1
  go_wp2_with fail
  refine (parse_is HQ.out _ (by rw [bts_size]; exact HL.out)).mono ?_
  rintro e W2 ⟨rfl, hb2⟩
  have HB2 := Lib.hid (HB1.out.trans (hb2.mono hs1))
  have hs2 := HB2.out.size
  clear hb2
  go_wp2_with fail
  refine (valid_is HV.out _).mono ?_
  rintro e w' ⟨rfl, rfl⟩
  go_wp2_with fail
  refine (parse_is HX.out _ w1).mono ?_
  rintro e W3 ⟨rfl, hb3⟩
  have HB3 := Lib.hid (HB2.out.trans (hb3.mono hs2))
  have hs3 := HB3.out.size
  clear hb3
  go_wp2_with fail
  refine (print_is HD.out _ (HT.out _ HB3.out)).mono ?_
  rintro e W4 ⟨rfl, hb4⟩
  have HB4 := Lib.hid (HB3.out.trans (hb4.mono hs3))
  have hs4 := HB4.out.size
  clear hb4
  have hadd := add_run a1 c HS.out
  go_wp2_with fail
  refine (parse_is HZ.out _ HZL.out).mono ?_
  rintro e W5 ⟨rfl, hb5⟩
  have HB5 := Lib.hid (HB4.out.trans (hb5.mono hs4))
  have hs5 := HB5.out.size
  clear hb5
  clear hadd
  go_wp2_with fail
  refine (mul_is HM.out _).mono ?_
  rintro e w' ⟨rfl, rfl⟩
  go_wp2_with fail
  refine (plus_err _ _ _ _ (by decide)).mono ?_
  rintro e w' ⟨rfl, rfl⟩
  go_wp2_with fail
  go_ret
  exact ⟨rfl, HB5.out⟩

theorem y_p1 (a0 : Int) (a1 : ByteArray) (a2 : Int) (w : World) (w1 : a1.size ≤ 9223372036854775807) (HT : Hid (Lib.TabBelow Tryd.prog w.heap.size w "internal/strconv.uint64pow10" .u64 Lib.pow10Tab)) (HV : Hid (vld a0 = true)) (HP : Hid (prS a0 = bts (Lib.itoa a0) ∧ prE a0 = 0)) (HQ : Hid (docV (bts (Lib.itoa a0)) = a0 ∧ docE (bts (Lib.itoa a0)) = 0)) (HL : Hid ((Lib.itoa a0).length ≤ 9223372036854775807)) (c : UInt8) (d x y er t : Int) (hd0 : 0 ≤ a2) (hd9 : a2 ≤ 9) (h0 : a1.toList.isEmpty = false) (h1 : 0 < a1.size) (h2 : ((a1[0].toNat : Int) == 45) = false) (HX : Hid (docV a1 = x ∧ docE a1 = 0)) (HD : Hid (prS a2 = bts [c] ∧ prE a2 = 0)) (HZ : Hid (docV (bts (a1.data.toList ++ [c])) = y ∧ docE (bts (a1.data.toList ++ [c])) = er)) (HS : Hid (a1.size ≤ 140737488351232)) (HZL : Hid ((bts (a1.data.toList ++ [c])).size ≤ 9223372036854775807)) (HM : Hid (mulV x 10 = t ∧ mulE x 10 = 0)) (HA : Hid (addV t a2 = y ∧ addE t a2 = er)) :
    Calls Tryd.prog 4 #[.int .i64 a0, .string a1, .int .i64 a2] w fun e w' => e = .returned (.bool true) ∧ Below w.heap.size w w' := by
  go_enter Tryd.func4, Tryd.ntmps4
  go_wp2_with fail
  refine (awake_any _).mono ?_
  rintro e w' ⟨rfl, rfl⟩
  go_wp2_with fail
  refine (print_is HP.out _ (HT.out _ (Below.refl _ _))).mono ?_
  rintro e W1 ⟨rfl, hb1⟩
  have HB1 := Lib.hid (hb1)
  have hs1 := HB1.out.size
  clear hb1
  go_wp2_with fail
  refine (parse_is HQ.out _ (by rw [bts_size]; exact HL.out)).mono ?_
  rintro e W2 ⟨rfl, hb2⟩
  have HB2 := Lib.hid (HB1.out.trans (hb2.mono hs1))
  have hs2 := HB2.out.size
  clear hb2
  go_wp2_with fail
  refine (valid_is HV.out _).mono ?_
  rintro e w' ⟨rfl, rfl⟩
  go_wp2_with fail
  refine (parse_is HX.out _ w1).mono ?_
  rintro e W3 ⟨rfl, hb3⟩
  have HB3 := Lib.hid (HB2.out.trans (hb3.mono hs2))
  have hs3 := HB3.out.size
  clear hb3
  go_wp2_with fail
  refine (print_is HD.out _ (HT.out _ HB3.out)).mono ?_
  rintro e W4 ⟨rfl, hb4⟩
  have HB4 := Lib.hid (HB3.out.trans (hb4.mono hs3))
  have hs4 := HB4.out.size
  clear hb4
  have hadd := add_run a1 c HS.out
  go_wp2_with fail
  refine (parse_is HZ.out _ HZL.out).mono ?_
  rintro e W5 ⟨rfl, hb5⟩
  have HB5 := Lib.hid (HB4.out.trans (hb5.mono hs4))
  have hs5 := HB5.out.size
  clear hb5
  clear hadd
  go_wp2_with fail
  refine (mul_is HM.out _).mono ?_
  rintro e w' ⟨rfl, rfl⟩
  go_wp2_with fail
  refine (plus_ok HA.out _).mono ?_
  rintro e w' ⟨rfl, rfl⟩
  go_wp2_with fail
  go_ret
  exact ⟨rfl, HB5.out⟩

theorem n_bad (a0 : Int) (a1 : ByteArray) (a2 : Int) (w : World) (w1 : a1.size ≤ 9223372036854775807) (HT : Hid (Lib.TabBelow Tryd.prog w.heap.size w "internal/strconv.uint64pow10" .u64 Lib.pow10Tab)) (HV : Hid (vld a0 = false)) (HP : Hid (prS a0 = ⟨#[]⟩ ∧ prE a0 = 1)) (x er : Int) (he : (er != 0) = true) (HX : Hid (docV a1 = x ∧ docE a1 = er)) :
    Calls Tryd.prog 4 #[.int .i64 a0, .string a1, .int .i64 a2] w fun e w' => e = .returned (.bool true) ∧ Below w.heap.size w w' := by
  go_enter Tryd.func4, Tryd.ntmps4
  go_wp2_with fail
  refine (awake_any _).mono ?_
  rintro e w' ⟨rfl, rfl⟩
  go_wp2_with fail
  refine (print_is HP.out _ (HT.out _ (Below.refl _ _))).mono ?_
  rintro e W1 ⟨rfl, hb1⟩
  have HB1 := Lib.hid (hb1)
  have hs1 := HB1.out.size
  clear hb1
  go_wp2_with fail
  refine (valid_is HV.out _).mono ?_
  rintro e w' ⟨rfl, rfl⟩
  go_wp2_with fail
  refine (parse_is HX.out _ w1).mono ?_
  rintro e W2 ⟨rfl, hb2⟩
  have HB2 := Lib.hid (HB1.out.trans (hb2.mono hs1))
  have hs2 := HB2.out.size
  clear hb2
  go_wp2_with fail
  go_ret
  exact ⟨rfl, HB2.out⟩

theorem n_low (a0 : Int) (a1 : ByteArray) (a2 : Int) (w : World) (w1 : a1.size ≤ 9223372036854775807) (HT : Hid (Lib.TabBelow Tryd.prog w.heap.size w "internal/strconv.uint64pow10" .u64 Lib.pow10Tab)) (HV : Hid (vld a0 = false)) (HP : Hid (prS a0 = ⟨#[]⟩ ∧ prE a0 = 1)) (x : Int) (hd : a2 < 0) (HX : Hid (docV a1 = x ∧ docE a1 = 0)) :
    Calls Tryd.prog 4 #[.int .i64 a0, .string a1, .int .i64 a2] w fun e w' => e = .returned (.bool true) ∧ Below w.heap.size w w' := by
  go_enter Tryd.func4, Tryd.ntmps4
  go_wp2_with fail
  refine (awake_any _).mono ?_
  rintro e w' ⟨rfl, rfl⟩
  go_wp2_with fail
  refine (print_is HP.out _ (HT.out _ (Below.refl _ _))).mono ?_
  rintro e W1 ⟨rfl, hb1⟩
  have HB1 := Lib.hid (hb1)
  have hs1 := HB1.out.size
  clear hb1
  go_wp2_with fail
  refine (valid_is HV.out _).mono ?_
  rintro e w' ⟨rfl, rfl⟩
  go_wp2_with fail
  refine (parse_is HX.out _ w1).mono ?_
  rintro e W2 ⟨rfl, hb2⟩
  have HB2 := Lib.hid (HB1.out.trans (hb2.mono hs1))
  have hs2 := HB2.out.size
  clear hb2
  go_wp2_with fail
  go_ret
  exact ⟨rfl, HB2.out⟩

theorem n_high (a0 : Int) (a1 : ByteArray) (a2 : Int) (w : World) (w1 : a1.size ≤ 9223372036854775807) (HT : Hid (Lib.TabBelow Tryd.prog w.heap.size w "internal/strconv.uint64pow10" .u64 Lib.pow10Tab)) (HV : Hid (vld a0 = false)) (HP : Hid (prS a0 = ⟨#[]⟩ ∧ prE a0 = 1)) (x : Int) (hd0 : 0 ≤ a2) (hd : 9 < a2) (HX : Hid (docV a1 = x ∧ docE a1 = 0)) :
    Calls Tryd.prog 4 #[.int .i64 a0, .string a1, .int .i64 a2] w fun e w' => e = .returned (.bool true) ∧ Below w.heap.size w w' := by
  go_enter Tryd.func4, Tryd.ntmps4
  go_wp2_with fail
  refine (awake_any _).mono ?_
  rintro e w' ⟨rfl, rfl⟩
  go_wp2_with fail
  refine (print_is HP.out _ (HT.out _ (Below.refl _ _))).mono ?_
  rintro e W1 ⟨rfl, hb1⟩
  have HB1 := Lib.hid (hb1)
  have hs1 := HB1.out.size
  clear hb1
  go_wp2_with fail
  refine (valid_is HV.out _).mono ?_
  rintro e w' ⟨rfl, rfl⟩
  go_wp2_with fail
  refine (parse_is HX.out _ w1).mono ?_
  rintro e W2 ⟨rfl, hb2⟩
  have HB2 := Lib.hid (HB1.out.trans (hb2.mono hs1))
  have hs2 := HB2.out.size
  clear hb2
  go_wp2_with fail
  go_ret
  exact ⟨rfl, HB2.out⟩

theorem n_m0 (a0 : Int) (a1 : ByteArray) (a2 : Int) (w : World) (w1 : a1.size ≤ 9223372036854775807) (HT : Hid (Lib.TabBelow Tryd.prog w.heap.size w "internal/strconv.uint64pow10" .u64 Lib.pow10Tab)) (HV : Hid (vld a0 = false)) (HP : Hid (prS a0 = ⟨#[]⟩ ∧ prE a0 = 1)) (c : UInt8) (d x : Int) (hd0 : 0 ≤ a2) (hd9 : a2 ≤ 9) (h0 : a1.toList.isEmpty = false) (h1 : 0 < a1.size) (h2 : (a1[0].toNat : Int) = 45) (HX : Hid (docV a1 = x ∧ docE a1 = 0)) (HD : Hid (prS a2 = bts [c] ∧ prE a2 = 0)) (HZ : Hid (docV (bts (a1.data.toList ++ [c])) = 0 ∧ docE (bts (a1.data.toList ++ [c])) = 3)) (HS : Hid (a1.size ≤ 140737488351232)) (HZL : Hid ((bts (a1.data.toList ++ [c])).size ≤ 9223372036854775807)) (HM : Hid (mulV x 10 = 0 ∧ mulE x 10 = 3)) :
    Calls Tryd.prog 4 #[.int .i64 a0, .string a1, .int .i64 a2] w fun e w' => e = .returned (.bool true) ∧ Below w.heap.size w w' := by
  go_enter Tryd.func4, Tryd.ntmps4
  go_wp2_with fail
  refine (awake_any _).mono ?_
  rintro e w' ⟨rfl, rfl⟩
  go_wp2_with fail
  refine (print_is HP.out _ (HT.out _ (Below.refl _ _))).mono ?_
  rintro e W1 ⟨rfl, hb1⟩
  have HB1 := Lib.hid (hb1)
  have hs1 := HB1.out.size
  clear hb1
  go_wp2_with fail
  refine (valid_is HV.out _).mono ?_
  rintro e w' ⟨rfl, rfl⟩
  go_wp2_with fail
  refine (parse_is HX.out _ w1).mono ?_
  rintro e W2 ⟨rfl, hb2⟩
  have HB2 := Lib.hid (HB1.out.trans (hb2.mono hs1))
  have hs2 := HB2.out.size
  clear hb2
  go_wp2_with fail
  refine (print_is HD.out _ (HT.out _ HB2.out)).mono ?_
  rintro e W3 ⟨rfl, hb3⟩
  have HB3 := Lib.hid (HB2.out.trans (hb3.mono hs2))
  have hs3 := HB3.out.size
  clear hb3
  have hadd := add_run a1 c HS.out
  go_wp2_with fail
  refine (parse_is HZ.out _ HZL.out).mono ?_
  rintro e W4 ⟨rfl, hb4⟩
  have HB4 := Lib.hid (HB3.out.trans (hb4.mono hs3))
  have hs4 := HB4.out.size
  clear hb4
  clear hadd
  go_wp2_with fail
  refine (mul_is HM.out _).mono ?_
  rintro e w' ⟨rfl, rfl⟩
  go_wp2_with fail
  refine (plus_err _ _ _ _ (by decide)).mono ?_
  rintro e w' ⟨rfl, rfl⟩
  go_wp2_with fail
  go_ret
  exact ⟨rfl, HB4.out⟩

theorem n_m1 (a0 : Int) (a1 : ByteArray) (a2 : Int) (w : World) (w1 : a1.size ≤ 9223372036854775807) (HT : Hid (Lib.TabBelow Tryd.prog w.heap.size w "internal/strconv.uint64pow10" .u64 Lib.pow10Tab)) (HV : Hid (vld a0 = false)) (HP : Hid (prS a0 = ⟨#[]⟩ ∧ prE a0 = 1)) (c : UInt8) (d x y er t : Int) (hd0 : 0 ≤ a2) (hd9 : a2 ≤ 9) (h0 : a1.toList.isEmpty = false) (h1 : 0 < a1.size) (h2 : (a1[0].toNat : Int) = 45) (HX : Hid (docV a1 = x ∧ docE a1 = 0)) (HD : Hid (prS a2 = bts [c] ∧ prE a2 = 0)) (HZ : Hid (docV (bts (a1.data.toList ++ [c])) = y ∧ docE (bts (a1.data.toList ++ [c])) = er)) (HS : Hid (a1.size ≤ 140737488351232)) (HZL : Hid ((bts (a1.data.toList ++ [c])).size ≤ 9223372036854775807)) (HM : Hid (mulV x 10 = t ∧ mulE x 10 = 0)) (HA : Hid (addV t (-a2) = y ∧ addE t (-a2) = er)) :
    Calls Tryd.prog 4 #[.int .i64 a0, .string a1, .int .i64 a2] w fun e w' => e = .returned (.bool true) ∧ Below w.heap.size w w' := by
  go_enter Tryd.func4, Tryd.ntmps4
  go_wp2_with fail
  refine (awake_any _).mono ?_
  rintro e w' ⟨rfl, rfl⟩
  go_wp2_with fail
  refine (print_is HP.out _ (HT.out _ (Below.refl _ _))).mono ?_
  rintro e W1 ⟨rfl, hb1⟩
  have HB1 := Lib.hid (hb1)
  have hs1 := HB1.out.size
  clear hb1
  go_wp2_with fail
  refine (valid_is HV.out _).mono ?_
  rintro e w' ⟨rfl, rfl⟩
  go_wp2_with fail
  refine (parse_is HX.out _ w1).mono ?_
  rintro e W2 ⟨rfl, hb2⟩
  have HB2 := Lib.hid (HB1.out.trans (hb2.mono hs1))
  have hs2 := HB2.out.size
  clear hb2
  go_wp2_with fail
  refine (print_is HD.out _ (HT.out _ HB2.out)).mono ?_
  rintro e W3 ⟨rfl, hb3⟩
  have HB3 := Lib.hid (HB2.out.trans (hb3.mono hs2))
  have hs3 := HB3.out.size
  clear hb3
  have hadd := add_run a1 c HS.out
  go_wp2_with fail
  refine (parse_is HZ.out _ HZL.out).mono ?_
  rintro e W4 ⟨rfl, hb4⟩
  have HB4 := Lib.hid (HB3.out.trans (hb4.mono hs3))
  have hs4 := HB4.out.size
  clear hb4
  clear hadd
  go_wp2_with fail
  refine (mul_is HM.out _).mono ?_
  rintro e w' ⟨rfl, rfl⟩
  go_wp2_with fail
  refine (plus_ok HA.out _).mono ?_
  rintro e w' ⟨rfl, rfl⟩
  go_wp2_with fail
  go_ret
  exact ⟨rfl, HB4.out⟩

theorem n_p0 (a0 : Int) (a1 : ByteArray) (a2 : Int) (w : World) (w1 : a1.size ≤ 9223372036854775807) (HT : Hid (Lib.TabBelow Tryd.prog w.heap.size w "internal/strconv.uint64pow10" .u64 Lib.pow10Tab)) (HV : Hid (vld a0 = false)) (HP : Hid (prS a0 = ⟨#[]⟩ ∧ prE a0 = 1)) (c : UInt8) (d x : Int) (hd0 : 0 ≤ a2) (hd9 : a2 ≤ 9) (h0 : a1.toList.isEmpty = false) (h1 : 0 < a1.size) (h2 : ((a1[0].toNat : Int) == 45) = false) (HX : Hid (docV a1 = x ∧ docE a1 = 0)) (HD : Hid (prS a2 = bts [c] ∧ prE a2 = 0)) (HZ : Hid (docV (bts (a1.data.toList ++ [c])) = 0 ∧ docE (bts (a1.data.toList ++ [c])) = 3)) (HS : Hid (a1.size ≤ 140737488351232)) (HZL : Hid ((bts (a1.data.toList ++ [c])).size ≤ 9223372036854775807)) (HM : Hid (mulV x 10 = 0 ∧ mulE x 10 = 3)) :
    Calls Tryd.prog 4 #[.int .i64 a0, .string a1, .int .i64 a2] w fun e w' => e = .returned (.bool true) ∧ Below w.heap.size w w' := by
  go_enter Tryd.func4, Tryd.ntmps4
  go_wp2_with fail
  refine (awake_any _).mono ?_
  rintro e w' ⟨rfl, rfl⟩
  go_wp2_with fail
  refine (print_is HP.out _ (HT.out _ (Below.refl _ _))).mono ?_
  rintro e W1 ⟨rfl, hb1⟩
  have HB1 := Lib.hid (hb1)
  have hs1 := HB1.out.size
  clear hb1
  go_wp2_with fail
  refine (valid_is HV.out _).mono ?_
  rintro e w' ⟨rfl, rfl⟩
  go_wp2_with fail
  refine (parse_is HX.out _ w1).mono ?_
  rintro e W2 ⟨rfl, hb2⟩
  have HB2 := Lib.hid (HB1.out.trans (hb2.mono hs1))
  have hs2 := HB2.out.size
  clear hb2
  go_wp2_with fail
  refine (print_is HD.out _ (HT.out _ HB2.out)).mono ?_
  rintro e W3 ⟨rfl, hb3⟩
  have HB3 := Lib.hid (HB2.out.trans (hb3.mono hs2))
  have hs3 := HB3.out.size
  clear hb3
  have hadd := add_run a1 c HS.out
  go_wp2_with fail
  refine (parse_is HZ.out _ HZL.out).mono ?_
  rintro e W4 ⟨rfl, hb4⟩
  have HB4 := Lib.hid (HB3.out.trans (hb4.mono hs3))
  have hs4 := HB4.out.size
  clear hb4
  clear hadd
  go_wp2_with fail
  refine (mul_is HM.out _).mono ?_
  rintro e w' ⟨rfl, rfl⟩
  go_wp2_with fail
  refine (plus_err _ _ _ _ (by decide)).mono ?_
  rintro e w' ⟨rfl, rfl⟩
  go_wp2_with fail
  go_ret
  exact ⟨rfl, HB4.out⟩

theorem n_p1 (a0 : Int) (a1 : ByteArray) (a2 : Int) (w : World) (w1 : a1.size ≤ 9223372036854775807) (HT : Hid (Lib.TabBelow Tryd.prog w.heap.size w "internal/strconv.uint64pow10" .u64 Lib.pow10Tab)) (HV : Hid (vld a0 = false)) (HP : Hid (prS a0 = ⟨#[]⟩ ∧ prE a0 = 1)) (c : UInt8) (d x y er t : Int) (hd0 : 0 ≤ a2) (hd9 : a2 ≤ 9) (h0 : a1.toList.isEmpty = false) (h1 : 0 < a1.size) (h2 : ((a1[0].toNat : Int) == 45) = false) (HX : Hid (docV a1 = x ∧ docE a1 = 0)) (HD : Hid (prS a2 = bts [c] ∧ prE a2 = 0)) (HZ : Hid (docV (bts (a1.data.toList ++ [c])) = y ∧ docE (bts (a1.data.toList ++ [c])) = er)) (HS : Hid (a1.size ≤ 140737488351232)) (HZL : Hid ((bts (a1.data.toList ++ [c])).size ≤ 9223372036854775807)) (HM : Hid (mulV x 10 = t ∧ mulE x 10 = 0)) (HA : Hid (addV t a2 = y ∧ addE t a2 = er)) :
    Calls Tryd.prog 4 #[.int .i64 a0, .string a1, .int .i64 a2] w fun e w' => e = .returned (.bool true) ∧ Below w.heap.size w w' := by
  go_enter Tryd.func4, Tryd.ntmps4
  go_wp2_with fail
  refine (awake_any _).mono ?_
  rintro e w' ⟨rfl, rfl⟩
  go_wp2_with fail
  refine (print_is HP.out _ (HT.out _ (Below.refl _ _))).mono ?_
  rintro e W1 ⟨rfl, hb1⟩
  have HB1 := Lib.hid (hb1)
  have hs1 := HB1.out.size
  clear hb1
  go_wp2_with fail
  refine (valid_is HV.out _).mono ?_
  rintro e w' ⟨rfl, rfl⟩
  go_wp2_with fail
  refine (parse_is HX.out _ w1).mono ?_
  rintro e W2 ⟨rfl, hb2⟩
  have HB2 := Lib.hid (HB1.out.trans (hb2.mono hs1))
  have hs2 := HB2.out.size
  clear hb2
  go_wp2_with fail
  refine (print_is HD.out _ (HT.out _ HB2.out)).mono ?_
  rintro e W3 ⟨rfl, hb3⟩
  have HB3 := Lib.hid (HB2.out.trans (hb3.mono hs2))
  have hs3 := HB3.out.size
  clear hb3
  have hadd := add_run a1 c HS.out
  go_wp2_with fail
  refine (parse_is HZ.out _ HZL.out).mono ?_
  rintro e W4 ⟨rfl, hb4⟩
  have HB4 := Lib.hid (HB3.out.trans (hb4.mono hs3))
  have hs4 := HB4.out.size
  clear hb4
  clear hadd
  go_wp2_with fail
  refine (mul_is HM.out _).mono ?_
  rintro e w' ⟨rfl, rfl⟩
  go_wp2_with fail
  refine (plus_ok HA.out _).mono ?_
  rintro e w' ⟨rfl, rfl⟩
  go_wp2_with fail
  go_ret
  exact ⟨rfl, HB4.out⟩

end Go.Proofs.YtnhieokegidibaaDoor.integerRoundTrip
