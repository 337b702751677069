/- The walk of the statement IntegerTrips. -/
import Derived.Test.YtfklicofohaccabProg
import Derived.Test.YtfklicofohaccabTrip
import Derived.WalkKit
import Derived.Below
import Derived.Lib.Hide

namespace Go.Proofs.Ytfklicofohaccab.integerTrips
open Go.RowKit
set_option linter.unusedVariables false

set_option maxRecDepth 100000 in
set_option maxHeartbeats 1600000 in
theorem bad1 {f s l : Int} (w : World) (H : Hid (trV f s l = 0 ∧ trO f s l = false ∧ trE f s l = 1)) (hf : vld f = false) :
    Calls Try.prog 7 #[.int .i64 f, .int .i64 s, .int .i64 l] w fun e w' => e = .returned (.bool true) ∧ w = w' := by
  go_enter Try.func7, Try.ntmps7
  go_wp2_with fail
  refine (awake_any _).mono ?_; rintro e w' ⟨rfl, rfl⟩
  go_wp2_with fail
  refine (trips_is H.out _).mono ?_; rintro e w' ⟨rfl, rfl⟩
  go_wp2_with fail
  refine (valid_is hf _).mono ?_; rintro e w' ⟨rfl, rfl⟩
  go_wp2_with fail
  go_ret
  exact ⟨rfl, rfl⟩

set_option maxRecDepth 100000 in
set_option maxHeartbeats 1600000 in
theorem bad2 {f s l : Int} (w : World) (H : Hid (trV f s l = 0 ∧ trO f s l = false ∧ trE f s l = 1)) (hf : vld f = true) (hs : vld s = false) :
    Calls Try.prog 7 #[.int .i64 f, .int .i64 s, .int .i64 l] w fun e w' => e = .returned (.bool true) ∧ w = w' := by
  go_enter Try.func7, Try.ntmps7
  go_wp2_with fail
  refine (awake_any _).mono ?_; rintro e w' ⟨rfl, rfl⟩
  go_wp2_with fail
  refine (trips_is H.out _).mono ?_; rintro e w' ⟨rfl, rfl⟩
  go_wp2_with fail
  refine (valid_is hf _).mono ?_; rintro e w' ⟨rfl, rfl⟩
  go_wp2_with fail
  refine (valid_is hs _).mono ?_; rintro e w' ⟨rfl, rfl⟩
  go_wp2_with fail
  go_ret
  exact ⟨rfl, rfl⟩

set_option maxRecDepth 100000 in
set_option maxHeartbeats 1600000 in
theorem bad3 {f s l : Int} (w : World) (H : Hid (trV f s l = 0 ∧ trO f s l = false ∧ trE f s l = 1)) (hf : vld f = true) (hs : vld s = true) (hl : vld l = false) :
    Calls Try.prog 7 #[.int .i64 f, .int .i64 s, .int .i64 l] w fun e w' => e = .returned (.bool true) ∧ w = w' := by
  go_enter Try.func7, Try.ntmps7
  go_wp2_with fail
  refine (awake_any _).mono ?_; rintro e w' ⟨rfl, rfl⟩
  go_wp2_with fail
  refine (trips_is H.out _).mono ?_; rintro e w' ⟨rfl, rfl⟩
  go_wp2_with fail
  refine (valid_is hf _).mono ?_; rintro e w' ⟨rfl, rfl⟩
  go_wp2_with fail
  refine (valid_is hs _).mono ?_; rintro e w' ⟨rfl, rfl⟩
  go_wp2_with fail
  refine (valid_is hl _).mono ?_; rintro e w' ⟨rfl, rfl⟩
  go_wp2_with fail
  go_ret
  exact ⟨rfl, rfl⟩

set_option maxRecDepth 100000 in
set_option maxHeartbeats 1600000 in
theorem nil1 {f s l : Int} (w : World) (H : Hid (trV f s l = 0 ∧ trO f s l = false ∧ trE f s l = 5)) (HV : Hid (vld f = true ∧ vld s = true ∧ vld l = true)) (hz : (s == 0) = true) :
    Calls Try.prog 7 #[.int .i64 f, .int .i64 s, .int .i64 l] w fun e w' => e = .returned (.bool true) ∧ w = w' := by
  go_enter Try.func7, Try.ntmps7
  go_wp2_with fail
  refine (awake_any _).mono ?_; rintro e w' ⟨rfl, rfl⟩
  go_wp2_with fail
  refine (trips_is H.out _).mono ?_; rintro e w' ⟨rfl, rfl⟩
  go_wp2_with fail
  refine (valid_is HV.out.1 _).mono ?_; rintro e w' ⟨rfl, rfl⟩
  go_wp2_with fail
  refine (valid_is HV.out.2.1 _).mono ?_; rintro e w' ⟨rfl, rfl⟩
  go_wp2_with fail
  refine (valid_is HV.out.2.2 _).mono ?_; rintro e w' ⟨rfl, rfl⟩
  go_wp2_with fail
  go_ret
  exact ⟨rfl, rfl⟩

set_option maxRecDepth 100000 in
set_option maxHeartbeats 1600000 in
theorem noTrip {f s l x : Int} (w : World) (H : Hid (trV f s l = 0 ∧ trO f s l = false ∧ trE f s l = 0)) (HV : Hid (vld f = true ∧ vld s = true ∧ vld l = true)) (hz : (s == 0) = false) (H1 : Hid (cmpV f l = x ∧ cmpE f l = 0)) (H2 : Hid (cmpV s 0 = x ∧ cmpE s 0 = 0)) :
    Calls Try.prog 7 #[.int .i64 f, .int .i64 s, .int .i64 l] w fun e w' => e = .returned (.bool true) ∧ w = w' := by
  go_enter Try.func7, Try.ntmps7
  go_wp2_with fail
  refine (awake_any _).mono ?_; rintro e w' ⟨rfl, rfl⟩
  go_wp2_with fail
  refine (trips_is H.out _).mono ?_; rintro e w' ⟨rfl, rfl⟩
  go_wp2_with fail
  refine (valid_is HV.out.1 _).mono ?_; rintro e w' ⟨rfl, rfl⟩
  go_wp2_with fail
  refine (valid_is HV.out.2.1 _).mono ?_; rintro e w' ⟨rfl, rfl⟩
  go_wp2_with fail
  refine (valid_is HV.out.2.2 _).mono ?_; rintro e w' ⟨rfl, rfl⟩
  go_wp2_with fail
  refine (cmp_is H1.out _).mono ?_; rintro e w' ⟨rfl, rfl⟩
  go_wp2_with fail
  refine (sign_is H2.out _).mono ?_; rintro e w' ⟨rfl, rfl⟩
  go_wp2_with fail
  go_ret
  exact ⟨rfl, rfl⟩

set_option maxRecDepth 100000 in
set_option maxHeartbeats 1600000 in
theorem last0 {f s l : Int} (w : World) (H : Hid (trV f s l = 1 ∧ trO f s l = true ∧ trE f s l = 0)) (HV : Hid (vld f = true ∧ vld s = true ∧ vld l = true)) (hz : (s == 0) = false) (H1 : Hid (cmpV f l = (-1) ∧ cmpE f l = 0)) (H2 : Hid (cmpV s 0 = 1 ∧ cmpE s 0 = 0)) (H3 : Hid (addV f s = 0 ∧ addE f s = 3)) :
    Calls Try.prog 7 #[.int .i64 f, .int .i64 s, .int .i64 l] w fun e w' => e = .returned (.bool true) ∧ w = w' := by
  go_enter Try.func7, Try.ntmps7
  go_wp2_with fail
  refine (awake_any _).mono ?_; rintro e w' ⟨rfl, rfl⟩
  go_wp2_with fail
  refine (trips_is H.out _).mono ?_; rintro e w' ⟨rfl, rfl⟩
  go_wp2_with fail
  refine (valid_is HV.out.1 _).mono ?_; rintro e w' ⟨rfl, rfl⟩
  go_wp2_with fail
  refine (valid_is HV.out.2.1 _).mono ?_; rintro e w' ⟨rfl, rfl⟩
  go_wp2_with fail
  refine (valid_is HV.out.2.2 _).mono ?_; rintro e w' ⟨rfl, rfl⟩
  go_wp2_with fail
  refine (cmp_is H1.out _).mono ?_; rintro e w' ⟨rfl, rfl⟩
  go_wp2_with fail
  refine (sign_is H2.out _).mono ?_; rintro e w' ⟨rfl, rfl⟩
  go_wp2_with fail
  refine (add_is H3.out _).mono ?_; rintro e w' ⟨rfl, rfl⟩
  go_wp2_with fail
  go_ret
  exact ⟨rfl, rfl⟩

set_option maxRecDepth 100000 in
set_option maxHeartbeats 1600000 in
theorem more0 {f s l n : Int} {o : Bool} (w : World) (H : Hid (trV f s l = n ∧ trO f s l = o ∧ trE f s l = 0)) (HV : Hid (vld f = true ∧ vld s = true ∧ vld l = true)) (hz : (s == 0) = false) (h1 : 1 ≤ n) (h2 : n ≤ 4294967295) (H1 : Hid (cmpV f l = (-1) ∧ cmpE f l = 0)) (H2 : Hid (cmpV s 0 = 1 ∧ cmpE s 0 = 0)) (H3 : Hid (addV f s = f + s ∧ addE f s = 0)) (H4 : Hid (trV (f + s) s l = n - 1 ∧ trO (f + s) s l = o ∧ trE (f + s) s l = 0)) :
    Calls Try.prog 7 #[.int .i64 f, .int .i64 s, .int .i64 l] w fun e w' => e = .returned (.bool true) ∧ w = w' := by
  go_enter Try.func7, Try.ntmps7
  go_wp2_with fail
  refine (awake_any _).mono ?_; rintro e w' ⟨rfl, rfl⟩
  go_wp2_with fail
  refine (trips_is H.out _).mono ?_; rintro e w' ⟨rfl, rfl⟩
  go_wp2_with fail
  refine (valid_is HV.out.1 _).mono ?_; rintro e w' ⟨rfl, rfl⟩
  go_wp2_with fail
  refine (valid_is HV.out.2.1 _).mono ?_; rintro e w' ⟨rfl, rfl⟩
  go_wp2_with fail
  refine (valid_is HV.out.2.2 _).mono ?_; rintro e w' ⟨rfl, rfl⟩
  go_wp2_with fail
  refine (cmp_is H1.out _).mono ?_; rintro e w' ⟨rfl, rfl⟩
  go_wp2_with fail
  refine (sign_is H2.out _).mono ?_; rintro e w' ⟨rfl, rfl⟩
  go_wp2_with fail
  refine (add_is H3.out _).mono ?_; rintro e w' ⟨rfl, rfl⟩
  go_wp2_with fail
  refine (trips_is H4.out _).mono ?_; rintro e w' ⟨rfl, rfl⟩
  go_wp2_with fail
  go_ret
  exact ⟨rfl, rfl⟩

set_option maxRecDepth 100000 in
set_option maxHeartbeats 1600000 in
theorem last1 {f s l : Int} (w : World) (H : Hid (trV f s l = 1 ∧ trO f s l = true ∧ trE f s l = 0)) (HV : Hid (vld f = true ∧ vld s = true ∧ vld l = true)) (hz : (s == 0) = false) (H1 : Hid (cmpV f l = 0 ∧ cmpE f l = 0)) (H2 : Hid (cmpV s 0 = 1 ∧ cmpE s 0 = 0)) (H3 : Hid (addV f s = 0 ∧ addE f s = 3)) :
    Calls Try.prog 7 #[.int .i64 f, .int .i64 s, .int .i64 l] w fun e w' => e = .returned (.bool true) ∧ w = w' := by
  go_enter Try.func7, Try.ntmps7
  go_wp2_with fail
  refine (awake_any _).mono ?_; rintro e w' ⟨rfl, rfl⟩
  go_wp2_with fail
  refine (trips_is H.out _).mono ?_; rintro e w' ⟨rfl, rfl⟩
  go_wp2_with fail
  refine (valid_is HV.out.1 _).mono ?_; rintro e w' ⟨rfl, rfl⟩
  go_wp2_with fail
  refine (valid_is HV.out.2.1 _).mono ?_; rintro e w' ⟨rfl, rfl⟩
  go_wp2_with fail
  refine (valid_is HV.out.2.2 _).mono ?_; rintro e w' ⟨rfl, rfl⟩
  go_wp2_with fail
  refine (cmp_is H1.out _).mono ?_; rintro e w' ⟨rfl, rfl⟩
  go_wp2_with fail
  refine (sign_is H2.out _).mono ?_; rintro e w' ⟨rfl, rfl⟩
  go_wp2_with fail
  refine (add_is H3.out _).mono ?_; rintro e w' ⟨rfl, rfl⟩
  go_wp2_with fail
  go_ret
  exact ⟨rfl, rfl⟩

set_option maxRecDepth 100000 in
set_option maxHeartbeats 1600000 in
theorem more1 {f s l n : Int} {o : Bool} (w : World) (H : Hid (trV f s l = n ∧ trO f s l = o ∧ trE f s l = 0)) (HV : Hid (vld f = true ∧ vld s = true ∧ vld l = true)) (hz : (s == 0) = false) (h1 : 1 ≤ n) (h2 : n ≤ 4294967295) (H1 : Hid (cmpV f l = 0 ∧ cmpE f l = 0)) (H2 : Hid (cmpV s 0 = 1 ∧ cmpE s 0 = 0)) (H3 : Hid (addV f s = f + s ∧ addE f s = 0)) (H4 : Hid (trV (f + s) s l = n - 1 ∧ trO (f + s) s l = o ∧ trE (f + s) s l = 0)) :
    Calls Try.prog 7 #[.int .i64 f, .int .i64 s, .int .i64 l] w fun e w' => e = .returned (.bool true) ∧ w = w' := by
  go_enter Try.func7, Try.ntmps7
  go_wp2_with fail
  refine (awake_any _).mono ?_; rintro e w' ⟨rfl, rfl⟩
  go_wp2_with fail
  refine (trips_is H.out _).mono ?_; rintro e w' ⟨rfl, rfl⟩
  go_wp2_with fail
  refine (valid_is HV.out.1 _).mono ?_; rintro e w' ⟨rfl, rfl⟩
  go_wp2_with fail
  refine (valid_is HV.out.2.1 _).mono ?_; rintro e w' ⟨rfl, rfl⟩
  go_wp2_with fail
  refine (valid_is HV.out.2.2 _).mono ?_; rintro e w' ⟨rfl, rfl⟩
  go_wp2_with fail
  refine (cmp_is H1.out _).mono ?_; rintro e w' ⟨rfl, rfl⟩
  go_wp2_with fail
  refine (sign_is H2.out _).mono ?_; rintro e w' ⟨rfl, rfl⟩
  go_wp2_with fail
  refine (add_is H3.out _).mono ?_; rintro e w' ⟨rfl, rfl⟩
  go_wp2_with fail
  refine (trips_is H4.out _).mono ?_; rintro e w' ⟨rfl, rfl⟩
  go_wp2_with fail
  go_ret
  exact ⟨rfl, rfl⟩

set_option maxRecDepth 100000 in
set_option maxHeartbeats 1600000 in
theorem last2 {f s l : Int} (w : World) (H : Hid (trV f s l = 1 ∧ trO f s l = true ∧ trE f s l = 0)) (HV : Hid (vld f = true ∧ vld s = true ∧ vld l = true)) (hz : (s == 0) = false) (H1 : Hid (cmpV f l = 0 ∧ cmpE f l = 0)) (H2 : Hid (cmpV s 0 = (-1) ∧ cmpE s 0 = 0)) (H3 : Hid (addV f s = 0 ∧ addE f s = 3)) :
    Calls Try.prog 7 #[.int .i64 f, .int .i64 s, .int .i64 l] w fun e w' => e = .returned (.bool true) ∧ w = w' := by
  go_enter Try.func7, Try.ntmps7
  go_wp2_with fail
  refine (awake_any _).mono ?_; rintro e w' ⟨rfl, rfl⟩
  go_wp2_with fail
  refine (trips_is H.out _).mono ?_; rintro e w' ⟨rfl, rfl⟩
  go_wp2_with fail
  refine (valid_is HV.out.1 _).mono ?_; rintro e w' ⟨rfl, rfl⟩
  go_wp2_with fail
  refine (valid_is HV.out.2.1 _).mono ?_; rintro e w' ⟨rfl, rfl⟩
  go_wp2_with fail
  refine (valid_is HV.out.2.2 _).mono ?_; rintro e w' ⟨rfl, rfl⟩
  go_wp2_with fail
  refine (cmp_is H1.out _).mono ?_; rintro e w' ⟨rfl, rfl⟩
  go_wp2_with fail
  refine (sign_is H2.out _).mono ?_; rintro e w' ⟨rfl, rfl⟩
  go_wp2_with fail
  refine (add_is H3.out _).mono ?_; rintro e w' ⟨rfl, rfl⟩
  go_wp2_with fail
  go_ret
  exact ⟨rfl, rfl⟩

set_option maxRecDepth 100000 in
set_option maxHeartbeats 1600000 in
theorem more2 {f s l n : Int} {o : Bool} (w : World) (H : Hid (trV f s l = n ∧ trO f s l = o ∧ trE f s l = 0)) (HV : Hid (vld f = true ∧ vld s = true ∧ vld l = true)) (hz : (s == 0) = false) (h1 : 1 ≤ n) (h2 : n ≤ 4294967295) (H1 : Hid (cmpV f l = 0 ∧ cmpE f l = 0)) (H2 : Hid (cmpV s 0 = (-1) ∧ cmpE s 0 = 0)) (H3 : Hid (addV f s = f + s ∧ addE f s = 0)) (H4 : Hid (trV (f + s) s l = n - 1 ∧ trO (f + s) s l = o ∧ trE (f + s) s l = 0)) :
    Calls Try.prog 7 #[.int .i64 f, .int .i64 s, .int .i64 l] w fun e w' => e = .returned (.bool true) ∧ w = w' := by
  go_enter Try.func7, Try.ntmps7
  go_wp2_with fail
  refine (awake_any _).mono ?_; rintro e w' ⟨rfl, rfl⟩
  go_wp2_with fail
  refine (trips_is H.out _).mono ?_; rintro e w' ⟨rfl, rfl⟩
  go_wp2_with fail
  refine (valid_is HV.out.1 _).mono ?_; rintro e w' ⟨rfl, rfl⟩
  go_wp2_with fail
  refine (valid_is HV.out.2.1 _).mono ?_; rintro e w' ⟨rfl, rfl⟩
  go_wp2_with fail
  refine (valid_is HV.out.2.2 _).mono ?_; rintro e w' ⟨rfl, rfl⟩
  go_wp2_with fail
  refine (cmp_is H1.out _).mono ?_; rintro e w' ⟨rfl, rfl⟩
  go_wp2_with fail
  refine (sign_is H2.out _).mono ?_; rintro e w' ⟨rfl, rfl⟩
  go_wp2_with fail
  refine (add_is H3.out _).mono ?_; rintro e w' ⟨rfl, rfl⟩
  go_wp2_with fail
  refine (trips_is H4.out _).mono ?_; rintro e w' ⟨rfl, rfl⟩
  go_wp2_with fail
  go_ret
  exact ⟨rfl, rfl⟩

set_option maxRecDepth 100000 in
set_option maxHeartbeats 1600000 in
theorem last3 {f s l : Int} (w : World) (H : Hid (trV f s l = 1 ∧ trO f s l = true ∧ trE f s l = 0)) (HV : Hid (vld f = true ∧ vld s = true ∧ vld l = true)) (hz : (s == 0) = false) (H1 : Hid (cmpV f l = 1 ∧ cmpE f l = 0)) (H2 : Hid (cmpV s 0 = (-1) ∧ cmpE s 0 = 0)) (H3 : Hid (addV f s = 0 ∧ addE f s = 3)) :
    Calls Try.prog 7 #[.int .i64 f, .int .i64 s, .int .i64 l] w fun e w' => e = .returned (.bool true) ∧ w = w' := by
  go_enter Try.func7, Try.ntmps7
  go_wp2_with fail
  refine (awake_any _).mono ?_; rintro e w' ⟨rfl, rfl⟩
  go_wp2_with fail
  refine (trips_is H.out _).mono ?_; rintro e w' ⟨rfl, rfl⟩
  go_wp2_with fail
  refine (valid_is HV.out.1 _).mono ?_; rintro e w' ⟨rfl, rfl⟩
  go_wp2_with fail
  refine (valid_is HV.out.2.1 _).mono ?_; rintro e w' ⟨rfl, rfl⟩
  go_wp2_with fail
  refine (valid_is HV.out.2.2 _).mono ?_; rintro e w' ⟨rfl, rfl⟩
  go_wp2_with fail
  refine (cmp_is H1.out _).mono ?_; rintro e w' ⟨rfl, rfl⟩
  go_wp2_with fail
  refine (sign_is H2.out _).mono ?_; rintro e w' ⟨rfl, rfl⟩
  go_wp2_with fail
  refine (add_is H3.out _).mono ?_; rintro e w' ⟨rfl, rfl⟩
  go_wp2_with fail
  go_ret
  exact ⟨rfl, rfl⟩

set_option maxRecDepth 100000 in
set_option maxHeartbeats 1600000 in
theorem more3 {f s l n : Int} {o : Bool} (w : World) (H : Hid (trV f s l = n ∧ trO f s l = o ∧ trE f s l = 0)) (HV : Hid (vld f = true ∧ vld s = true ∧ vld l = true)) (hz : (s == 0) = false) (h1 : 1 ≤ n) (h2 : n ≤ 4294967295) (H1 : Hid (cmpV f l = 1 ∧ cmpE f l = 0)) (H2 : Hid (cmpV s 0 = (-1) ∧ cmpE s 0 = 0)) (H3 : Hid (addV f s = f + s ∧ addE f s = 0)) (H4 : Hid (trV (f + s) s l = n - 1 ∧ trO (f + s) s l = o ∧ trE (f + s) s l = 0)) :
    Calls Try.prog 7 #[.int .i64 f, .int .i64 s, .int .i64 l] w fun e w' => e = .returned (.bool true) ∧ w = w' := by
  go_enter Try.func7, Try.ntmps7
  go_wp2_with fail
  refine (awake_any _).mono ?_; rintro e w' ⟨rfl, rfl⟩
  go_wp2_with fail
  refine (trips_is H.out _).mono ?_; rintro e w' ⟨rfl, rfl⟩
  go_wp2_with fail
  refine (valid_is HV.out.1 _).mono ?_; rintro e w' ⟨rfl, rfl⟩
  go_wp2_with fail
  refine (valid_is HV.out.2.1 _).mono ?_; rintro e w' ⟨rfl, rfl⟩
  go_wp2_with fail
  refine (valid_is HV.out.2.2 _).mono ?_; rintro e w' ⟨rfl, rfl⟩
  go_wp2_with fail
  refine (cmp_is H1.out _).mono ?_; rintro e w' ⟨rfl, rfl⟩
  go_wp2_with fail
  refine (sign_is H2.out _).mono ?_; rintro e w' ⟨rfl, rfl⟩
  go_wp2_with fail
  refine (add_is H3.out _).mono ?_; rintro e w' ⟨rfl, rfl⟩
  go_wp2_with fail
  refine (trips_is H4.out _).mono ?_; rintro e w' ⟨rfl, rfl⟩
  go_wp2_with fail
  go_ret
  exact ⟨rfl, rfl⟩

set_option maxRecDepth 100000 in
set_option maxHeartbeats 1600000 in
theorem run (a0 : Int) (a1 : Int) (a2 : Int) (w : World) (w0 : (Lit.int .i64 a0).wf = true) (w1 : (Lit.int .i64 a1).wf = true) (w2 : (Lit.int .i64 a2).wf = true) :
    Calls Try.prog 7 #[.int .i64 a0, .int .i64 a1, .int .i64 a2] w fun e w' => e = .returned (.bool true) ∧ w = w' := by
  cases hf : vld a0
  · have h : trE a0 a1 a2 = 1 := by simp [trE, bth, hf]
    have k := tr_bad h (by decide)
    exact bad1 w (Lib.hid ⟨k.1, k.2, h⟩) hf
  · cases hs : vld a1
    · have h : trE a0 a1 a2 = 1 := by simp [trE, hs]
      have k := tr_bad h (by decide)
      exact bad2 w (Lib.hid ⟨k.1, k.2, h⟩) hf hs
    · cases hl : vld a2
      · have h : trE a0 a1 a2 = 1 := by simp [trE, bth, hl]
        have k := tr_bad h (by decide)
        exact bad3 w (Lib.hid ⟨k.1, k.2, h⟩) hf hs hl
      · have HV := Lib.hid (And.intro hf (And.intro hs hl))
        by_cases hz : a1 = 0
        · have h : trE a0 a1 a2 = 5 := by rw [hz] at hs ⊢; simp [trE, bth, hf, hs, hl]
          have k := tr_bad h (by decide)
          exact nil1 w (Lib.hid ⟨k.1, k.2, h⟩) HV (by simpa using hz)
        · have hE : trE a0 a1 a2 = 0 := trE_ok.2 ⟨bth_mk hf hl, hs, hz⟩
          have hz' : (a1 == 0) = false := by simpa using hz
          have ⟨e1, e2⟩ := tr_vals hE
          have b1 := vld_iff.1 hf
          have b2 := vld_iff.1 hs
          have b3 := vld_iff.1 hl
          have c1 := cmp_ok (bth_mk hf hl) (rfl : cmp3 a0 a2 = cmp3 a0 a2)
          have c2 := cmp_ok (bth_mk hs (rfl : vld 0 = true)) (rfl : cmp3 a1 0 = cmp3 a1 0)
          have zn := trN_zero (f := a0) (l := a2) hz
          by_cases hn : trN a0 a1 a2 = 0
          · have c3 : cmp3 a0 a2 = cmp3 a1 0 := by
              rcases zn.1 hn with ⟨k1, k2⟩ | ⟨k1, k2⟩
              · rw [cmp3_gt k1, cmp3_gt k2]
              · rw [cmp3_lt k1, cmp3_lt k2]
            rw [c3] at c1
            rw [hn] at e1 e2
            rw [Int.zero_mul, Int.add_zero, hf] at e2
            exact noTrip w (Lib.hid ⟨e1, e2, hE⟩) HV hz' (Lib.hid c1) (Lib.hid c2)
          · have nb := trN_bds b1 b2 b3
            cases hv : vld (a0 + a1)
            · have ⟨t1, t2⟩ := trN_out hz b1 hn b3 hv
              have a3 := add_out (bth_mk hf hs) hv
              rw [t2, hv] at e2
              rw [t1] at e1
              have hc : (a0 < a2 ∧ 0 < a1) ∨ (a0 = a2 ∧ 0 < a1) ∨ (a0 = a2 ∧ a1 < 0) ∨ (a2 < a0 ∧ a1 < 0) := by omega
              rcases hc with ⟨k1, k2⟩ | ⟨k1, k2⟩ | ⟨k1, k2⟩ | ⟨k1, k2⟩
              · rw [cmp3_lt k1] at c1; rw [cmp3_gt k2] at c2
                exact last0 w (Lib.hid ⟨e1, e2, hE⟩) HV hz' (Lib.hid c1) (Lib.hid c2) (Lib.hid a3)
              · rw [cmp3_eq (by omega) (by omega)] at c1; rw [cmp3_gt k2] at c2
                exact last1 w (Lib.hid ⟨e1, e2, hE⟩) HV hz' (Lib.hid c1) (Lib.hid c2) (Lib.hid a3)
              · rw [cmp3_eq (by omega) (by omega)] at c1; rw [cmp3_lt k2] at c2
                exact last2 w (Lib.hid ⟨e1, e2, hE⟩) HV hz' (Lib.hid c1) (Lib.hid c2) (Lib.hid a3)
              · rw [cmp3_gt k1] at c1; rw [cmp3_lt k2] at c2
                exact last3 w (Lib.hid ⟨e1, e2, hE⟩) HV hz' (Lib.hid c1) (Lib.hid c2) (Lib.hid a3)
            · have ⟨t1, t2⟩ := trN_next hn
              have a3 := add_ok (bth_mk hf hs) hv
              have hE2 : trE (a0 + a1) a1 a2 = 0 := trE_ok.2 ⟨bth_mk hv hl, hs, hz⟩
              have ⟨e3, e4⟩ := tr_vals hE2
              rw [t1] at e3
              rw [t2, ← e2] at e4
              rw [← e1] at e3 nb hn
              have hc : (a0 < a2 ∧ 0 < a1) ∨ (a0 = a2 ∧ 0 < a1) ∨ (a0 = a2 ∧ a1 < 0) ∨ (a2 < a0 ∧ a1 < 0) := by omega
              rcases hc with ⟨k1, k2⟩ | ⟨k1, k2⟩ | ⟨k1, k2⟩ | ⟨k1, k2⟩
              · rw [cmp3_lt k1] at c1; rw [cmp3_gt k2] at c2
                exact more0 w (Lib.hid ⟨rfl, rfl, hE⟩) HV hz' (by omega) (by omega) (Lib.hid c1) (Lib.hid c2) (Lib.hid a3) (Lib.hid ⟨e3, e4, hE2⟩)
              · rw [cmp3_eq (by omega) (by omega)] at c1; rw [cmp3_gt k2] at c2
                exact more1 w (Lib.hid ⟨rfl, rfl, hE⟩) HV hz' (by omega) (by omega) (Lib.hid c1) (Lib.hid c2) (Lib.hid a3) (Lib.hid ⟨e3, e4, hE2⟩)
              · rw [cmp3_eq (by omega) (by omega)] at c1; rw [cmp3_lt k2] at c2
                exact more2 w (Lib.hid ⟨rfl, rfl, hE⟩) HV hz' (by omega) (by omega) (Lib.hid c1) (Lib.hid c2) (Lib.hid a3) (Lib.hid ⟨e3, e4, hE2⟩)
              · rw [cmp3_gt k1] at c1; rw [cmp3_lt k2] at c2
                exact more3 w (Lib.hid ⟨rfl, rfl, hE⟩) HV hz' (by omega) (by omega) (Lib.hid c1) (Lib.hid c2) (Lib.hid a3) (Lib.hid ⟨e3, e4, hE2⟩)

end Go.Proofs.Ytfklicofohaccab.integerTrips
