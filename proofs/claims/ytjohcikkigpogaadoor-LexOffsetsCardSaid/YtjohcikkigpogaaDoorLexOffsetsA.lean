/-
  LexOffsets: the walks, one for each way.
-/
import Derived.Test.YtjohcikkigpogaaDoorLexOrd
import Derived.Test.YtjohcikkigpogaaDoorTok7
import Derived.Test.YtjohcikkigpogaaDoorLex17
import Derived.WalkKit

namespace Go.Proofs.YtjohcikkigpogaaDoor.lexOffsets
open Go.RowKit
set_option linter.unusedVariables false

set_option maxRecDepth 100000 in
set_option maxHeartbeats 1600000 in
theorem run_P1_A1 (s : ByteArray) (i j a b c d : Int) (w : World) (AW : Hid (Calls Tryd.prog 10 #[] w fun e w' => e = .returned (.bool true) ∧ Below w.heap.size w w'))
    (er at_ : Int) (he : (er == 0) = false) (LX : Hid (∀ w1, Below w.heap.size w w1 → Calls Tryd.prog 11 #[.string s] w1 fun r w' => r = .returned (.tuple #[.slice none 0 0, .int .i64 er, .int .i64 at_]) ∧ Below w1.heap.size w1 w'))
    (x1 : ¬ 0 ≤ i)
    (L1 : Hid (∀ w1 : World, Calls Tryd.prog 16 #[.string s, .int .i64 i] w1 fun e w' => e = .returned (.tuple #[.int .i64 0, .int .i64 0, .int .i64 1]) ∧ w1 = w'))
    (L2 : Hid (∀ w1 : World, Calls Tryd.prog 16 #[.string s, .int .i64 j] w1 fun e w' => e = .returned (.tuple #[.int .i64 c, .int .i64 d, .int .i64 1]) ∧ w1 = w')) :
    Calls Tryd.prog 5 #[.string s, .int .i64 i, .int .i64 j] w fun e w' => e = .returned (.bool true) ∧ Below w.heap.size w w' := by
  go_enter Tryd.func5, Tryd.ntmps5
  go_wp2_with fail
  refine AW.out.mono ?_
  rintro e w1 ⟨rfl, hb1⟩
  have B1 := Lib.hid hb1
  clear hb1
  go_wp2_with fail
  refine (LX.out w1 B1.out).mono ?_
  rintro e w2 ⟨rfl, hb2⟩
  have B2 := Lib.hid (B1.out.trans (hb2.mono B1.out.size))
  clear hb2
  go_wp2_with fail
  refine (L1.out w2).mono ?_
  rintro e w' ⟨rfl, rfl⟩
  go_wp2_with fail
  refine (L2.out w2).mono ?_
  rintro e w' ⟨rfl, rfl⟩
  go_wp2_with fail
  first | go_ret | skip
  exact ⟨rfl, B2.out⟩

set_option maxRecDepth 100000 in
set_option maxHeartbeats 1600000 in
theorem run_P1_A2 (s : ByteArray) (i j a b c d : Int) (w : World) (AW : Hid (Calls Tryd.prog 10 #[] w fun e w' => e = .returned (.bool true) ∧ Below w.heap.size w w'))
    (er at_ : Int) (he : (er == 0) = false) (LX : Hid (∀ w1, Below w.heap.size w w1 → Calls Tryd.prog 11 #[.string s] w1 fun r w' => r = .returned (.tuple #[.slice none 0 0, .int .i64 er, .int .i64 at_]) ∧ Below w1.heap.size w1 w'))
    (x1 : ¬ 0 ≤ i)
    (L1 : Hid (∀ w1 : World, Calls Tryd.prog 16 #[.string s, .int .i64 i] w1 fun e w' => e = .returned (.tuple #[.int .i64 0, .int .i64 0, .int .i64 1]) ∧ w1 = w'))
    (L2 : Hid (∀ w1 : World, Calls Tryd.prog 16 #[.string s, .int .i64 j] w1 fun e w' => e = .returned (.tuple #[.int .i64 c, .int .i64 d, .int .i64 0]) ∧ w1 = w')) :
    Calls Tryd.prog 5 #[.string s, .int .i64 i, .int .i64 j] w fun e w' => e = .returned (.bool true) ∧ Below w.heap.size w w' := by
  go_enter Tryd.func5, Tryd.ntmps5
  go_wp2_with fail
  refine AW.out.mono ?_
  rintro e w1 ⟨rfl, hb1⟩
  have B1 := Lib.hid hb1
  clear hb1
  go_wp2_with fail
  refine (LX.out w1 B1.out).mono ?_
  rintro e w2 ⟨rfl, hb2⟩
  have B2 := Lib.hid (B1.out.trans (hb2.mono B1.out.size))
  clear hb2
  go_wp2_with fail
  refine (L1.out w2).mono ?_
  rintro e w' ⟨rfl, rfl⟩
  go_wp2_with fail
  refine (L2.out w2).mono ?_
  rintro e w' ⟨rfl, rfl⟩
  go_wp2_with fail
  first | go_ret | skip
  exact ⟨rfl, B2.out⟩

set_option maxRecDepth 100000 in
set_option maxHeartbeats 1600000 in
theorem run_P1_A3 (s : ByteArray) (i j a b c d : Int) (w : World) (AW : Hid (Calls Tryd.prog 10 #[] w fun e w' => e = .returned (.bool true) ∧ Below w.heap.size w w'))
    (er at_ : Int) (he : (er == 0) = false) (LX : Hid (∀ w1, Below w.heap.size w w1 → Calls Tryd.prog 11 #[.string s] w1 fun r w' => r = .returned (.tuple #[.slice none 0 0, .int .i64 er, .int .i64 at_]) ∧ Below w1.heap.size w1 w'))
    (x1 : 0 ≤ i) (x2 : ¬ i ≤ (s.size : Int))
    (L1 : Hid (∀ w1 : World, Calls Tryd.prog 16 #[.string s, .int .i64 i] w1 fun e w' => e = .returned (.tuple #[.int .i64 0, .int .i64 0, .int .i64 1]) ∧ w1 = w'))
    (L2 : Hid (∀ w1 : World, Calls Tryd.prog 16 #[.string s, .int .i64 j] w1 fun e w' => e = .returned (.tuple #[.int .i64 c, .int .i64 d, .int .i64 1]) ∧ w1 = w')) :
    Calls Tryd.prog 5 #[.string s, .int .i64 i, .int .i64 j] w fun e w' => e = .returned (.bool true) ∧ Below w.heap.size w w' := by
  go_enter Tryd.func5, Tryd.ntmps5
  go_wp2_with fail
  refine AW.out.mono ?_
  rintro e w1 ⟨rfl, hb1⟩
  have B1 := Lib.hid hb1
  clear hb1
  go_wp2_with fail
  refine (LX.out w1 B1.out).mono ?_
  rintro e w2 ⟨rfl, hb2⟩
  have B2 := Lib.hid (B1.out.trans (hb2.mono B1.out.size))
  clear hb2
  go_wp2_with fail
  refine (L1.out w2).mono ?_
  rintro e w' ⟨rfl, rfl⟩
  go_wp2_with fail
  refine (L2.out w2).mono ?_
  rintro e w' ⟨rfl, rfl⟩
  go_wp2_with fail
  first | go_ret | skip
  exact ⟨rfl, B2.out⟩

set_option maxRecDepth 100000 in
set_option maxHeartbeats 1600000 in
theorem run_P1_A4 (s : ByteArray) (i j a b c d : Int) (w : World) (AW : Hid (Calls Tryd.prog 10 #[] w fun e w' => e = .returned (.bool true) ∧ Below w.heap.size w w'))
    (er at_ : Int) (he : (er == 0) = false) (LX : Hid (∀ w1, Below w.heap.size w w1 → Calls Tryd.prog 11 #[.string s] w1 fun r w' => r = .returned (.tuple #[.slice none 0 0, .int .i64 er, .int .i64 at_]) ∧ Below w1.heap.size w1 w'))
    (x1 : 0 ≤ i) (x2 : ¬ i ≤ (s.size : Int))
    (L1 : Hid (∀ w1 : World, Calls Tryd.prog 16 #[.string s, .int .i64 i] w1 fun e w' => e = .returned (.tuple #[.int .i64 0, .int .i64 0, .int .i64 1]) ∧ w1 = w'))
    (L2 : Hid (∀ w1 : World, Calls Tryd.prog 16 #[.string s, .int .i64 j] w1 fun e w' => e = .returned (.tuple #[.int .i64 c, .int .i64 d, .int .i64 0]) ∧ w1 = w')) :
    Calls Tryd.prog 5 #[.string s, .int .i64 i, .int .i64 j] w fun e w' => e = .returned (.bool true) ∧ Below w.heap.size w w' := by
  go_enter Tryd.func5, Tryd.ntmps5
  go_wp2_with fail
  refine AW.out.mono ?_
  rintro e w1 ⟨rfl, hb1⟩
  have B1 := Lib.hid hb1
  clear hb1
  go_wp2_with fail
  refine (LX.out w1 B1.out).mono ?_
  rintro e w2 ⟨rfl, hb2⟩
  have B2 := Lib.hid (B1.out.trans (hb2.mono B1.out.size))
  clear hb2
  go_wp2_with fail
  refine (L1.out w2).mono ?_
  rintro e w' ⟨rfl, rfl⟩
  go_wp2_with fail
  refine (L2.out w2).mono ?_
  rintro e w' ⟨rfl, rfl⟩
  go_wp2_with fail
  first | go_ret | skip
  exact ⟨rfl, B2.out⟩

set_option maxRecDepth 100000 in
set_option maxHeartbeats 1600000 in
theorem run_P1_B (s : ByteArray) (i j a b c d : Int) (w : World) (AW : Hid (Calls Tryd.prog 10 #[] w fun e w' => e = .returned (.bool true) ∧ Below w.heap.size w w'))
    (er at_ : Int) (he : (er == 0) = false) (LX : Hid (∀ w1, Below w.heap.size w w1 → Calls Tryd.prog 11 #[.string s] w1 fun r w' => r = .returned (.tuple #[.slice none 0 0, .int .i64 er, .int .i64 at_]) ∧ Below w1.heap.size w1 w'))
    (x1 : 0 ≤ i) (x2 : i ≤ (s.size : Int)) (y1 : ¬ a < 1) (y2 : ¬ b < 1)
    (L1 : Hid (∀ w1 : World, Calls Tryd.prog 16 #[.string s, .int .i64 i] w1 fun e w' => e = .returned (.tuple #[.int .i64 a, .int .i64 b, .int .i64 0]) ∧ w1 = w'))
    (L2 : Hid (∀ w1 : World, Calls Tryd.prog 16 #[.string s, .int .i64 j] w1 fun e w' => e = .returned (.tuple #[.int .i64 c, .int .i64 d, .int .i64 1]) ∧ w1 = w')) :
    Calls Tryd.prog 5 #[.string s, .int .i64 i, .int .i64 j] w fun e w' => e = .returned (.bool true) ∧ Below w.heap.size w w' := by
  go_enter Tryd.func5, Tryd.ntmps5
  go_wp2_with fail
  refine AW.out.mono ?_
  rintro e w1 ⟨rfl, hb1⟩
  have B1 := Lib.hid hb1
  clear hb1
  go_wp2_with fail
  refine (LX.out w1 B1.out).mono ?_
  rintro e w2 ⟨rfl, hb2⟩
  have B2 := Lib.hid (B1.out.trans (hb2.mono B1.out.size))
  clear hb2
  go_wp2_with fail
  refine (L1.out w2).mono ?_
  rintro e w' ⟨rfl, rfl⟩
  go_wp2_with fail
  refine (L2.out w2).mono ?_
  rintro e w' ⟨rfl, rfl⟩
  go_wp2_with fail
  first | go_ret | skip
  exact ⟨rfl, B2.out⟩

set_option maxRecDepth 100000 in
set_option maxHeartbeats 1600000 in
theorem run_P1_C1 (s : ByteArray) (i j a b c d : Int) (w : World) (AW : Hid (Calls Tryd.prog 10 #[] w fun e w' => e = .returned (.bool true) ∧ Below w.heap.size w w'))
    (er at_ : Int) (he : (er == 0) = false) (LX : Hid (∀ w1, Below w.heap.size w w1 → Calls Tryd.prog 11 #[.string s] w1 fun r w' => r = .returned (.tuple #[.slice none 0 0, .int .i64 er, .int .i64 at_]) ∧ Below w1.heap.size w1 w'))
    (x1 : 0 ≤ i) (x2 : i ≤ (s.size : Int)) (y1 : ¬ a < 1) (y2 : ¬ b < 1) (z1 : i < j) (z2 : a < c)
    (L1 : Hid (∀ w1 : World, Calls Tryd.prog 16 #[.string s, .int .i64 i] w1 fun e w' => e = .returned (.tuple #[.int .i64 a, .int .i64 b, .int .i64 0]) ∧ w1 = w'))
    (L2 : Hid (∀ w1 : World, Calls Tryd.prog 16 #[.string s, .int .i64 j] w1 fun e w' => e = .returned (.tuple #[.int .i64 c, .int .i64 d, .int .i64 0]) ∧ w1 = w')) :
    Calls Tryd.prog 5 #[.string s, .int .i64 i, .int .i64 j] w fun e w' => e = .returned (.bool true) ∧ Below w.heap.size w w' := by
  go_enter Tryd.func5, Tryd.ntmps5
  go_wp2_with fail
  refine AW.out.mono ?_
  rintro e w1 ⟨rfl, hb1⟩
  have B1 := Lib.hid hb1
  clear hb1
  go_wp2_with fail
  refine (LX.out w1 B1.out).mono ?_
  rintro e w2 ⟨rfl, hb2⟩
  have B2 := Lib.hid (B1.out.trans (hb2.mono B1.out.size))
  clear hb2
  go_wp2_with fail
  refine (L1.out w2).mono ?_
  rintro e w' ⟨rfl, rfl⟩
  go_wp2_with fail
  refine (L2.out w2).mono ?_
  rintro e w' ⟨rfl, rfl⟩
  go_wp2_with fail
  first | go_ret | skip
  exact ⟨rfl, B2.out⟩

set_option maxRecDepth 100000 in
set_option maxHeartbeats 1600000 in
theorem run_P1_C2 (s : ByteArray) (i j a b c d : Int) (w : World) (AW : Hid (Calls Tryd.prog 10 #[] w fun e w' => e = .returned (.bool true) ∧ Below w.heap.size w w'))
    (er at_ : Int) (he : (er == 0) = false) (LX : Hid (∀ w1, Below w.heap.size w w1 → Calls Tryd.prog 11 #[.string s] w1 fun r w' => r = .returned (.tuple #[.slice none 0 0, .int .i64 er, .int .i64 at_]) ∧ Below w1.heap.size w1 w'))
    (x1 : 0 ≤ i) (x2 : i ≤ (s.size : Int)) (y1 : ¬ a < 1) (y2 : ¬ b < 1) (z1 : i < j) (z2 : b < d)
    (L1 : Hid (∀ w1 : World, Calls Tryd.prog 16 #[.string s, .int .i64 i] w1 fun e w' => e = .returned (.tuple #[.int .i64 a, .int .i64 b, .int .i64 0]) ∧ w1 = w'))
    (L2 : Hid (∀ w1 : World, Calls Tryd.prog 16 #[.string s, .int .i64 j] w1 fun e w' => e = .returned (.tuple #[.int .i64 a, .int .i64 d, .int .i64 0]) ∧ w1 = w')) :
    Calls Tryd.prog 5 #[.string s, .int .i64 i, .int .i64 j] w fun e w' => e = .returned (.bool true) ∧ Below w.heap.size w w' := by
  go_enter Tryd.func5, Tryd.ntmps5
  go_wp2_with fail
  refine AW.out.mono ?_
  rintro e w1 ⟨rfl, hb1⟩
  have B1 := Lib.hid hb1
  clear hb1
  go_wp2_with fail
  refine (LX.out w1 B1.out).mono ?_
  rintro e w2 ⟨rfl, hb2⟩
  have B2 := Lib.hid (B1.out.trans (hb2.mono B1.out.size))
  clear hb2
  go_wp2_with fail
  refine (L1.out w2).mono ?_
  rintro e w' ⟨rfl, rfl⟩
  go_wp2_with fail
  refine (L2.out w2).mono ?_
  rintro e w' ⟨rfl, rfl⟩
  go_wp2_with fail
  first | go_ret | skip
  exact ⟨rfl, B2.out⟩

set_option maxRecDepth 100000 in
set_option maxHeartbeats 1600000 in
theorem run_P1_D1 (s : ByteArray) (i j a b c d : Int) (w : World) (AW : Hid (Calls Tryd.prog 10 #[] w fun e w' => e = .returned (.bool true) ∧ Below w.heap.size w w'))
    (er at_ : Int) (he : (er == 0) = false) (LX : Hid (∀ w1, Below w.heap.size w w1 → Calls Tryd.prog 11 #[.string s] w1 fun r w' => r = .returned (.tuple #[.slice none 0 0, .int .i64 er, .int .i64 at_]) ∧ Below w1.heap.size w1 w'))
    (x1 : 0 ≤ i) (x2 : i ≤ (s.size : Int)) (y1 : ¬ a < 1) (y2 : ¬ b < 1) (z0 : ¬ i < j) (z1 : j < i) (z2 : c < a)
    (L1 : Hid (∀ w1 : World, Calls Tryd.prog 16 #[.string s, .int .i64 i] w1 fun e w' => e = .returned (.tuple #[.int .i64 a, .int .i64 b, .int .i64 0]) ∧ w1 = w'))
    (L2 : Hid (∀ w1 : World, Calls Tryd.prog 16 #[.string s, .int .i64 j] w1 fun e w' => e = .returned (.tuple #[.int .i64 c, .int .i64 d, .int .i64 0]) ∧ w1 = w')) :
    Calls Tryd.prog 5 #[.string s, .int .i64 i, .int .i64 j] w fun e w' => e = .returned (.bool true) ∧ Below w.heap.size w w' := by
  go_enter Tryd.func5, Tryd.ntmps5
  go_wp2_with fail
  refine AW.out.mono ?_
  rintro e w1 ⟨rfl, hb1⟩
  have B1 := Lib.hid hb1
  clear hb1
  go_wp2_with fail
  refine (LX.out w1 B1.out).mono ?_
  rintro e w2 ⟨rfl, hb2⟩
  have B2 := Lib.hid (B1.out.trans (hb2.mono B1.out.size))
  clear hb2
  go_wp2_with fail
  refine (L1.out w2).mono ?_
  rintro e w' ⟨rfl, rfl⟩
  go_wp2_with fail
  refine (L2.out w2).mono ?_
  rintro e w' ⟨rfl, rfl⟩
  go_wp2_with fail
  first | go_ret | skip
  exact ⟨rfl, B2.out⟩

set_option maxRecDepth 100000 in
set_option maxHeartbeats 1600000 in
theorem run_P1_D2 (s : ByteArray) (i j a b c d : Int) (w : World) (AW : Hid (Calls Tryd.prog 10 #[] w fun e w' => e = .returned (.bool true) ∧ Below w.heap.size w w'))
    (er at_ : Int) (he : (er == 0) = false) (LX : Hid (∀ w1, Below w.heap.size w w1 → Calls Tryd.prog 11 #[.string s] w1 fun r w' => r = .returned (.tuple #[.slice none 0 0, .int .i64 er, .int .i64 at_]) ∧ Below w1.heap.size w1 w'))
    (x1 : 0 ≤ i) (x2 : i ≤ (s.size : Int)) (y1 : ¬ a < 1) (y2 : ¬ b < 1) (z0 : ¬ i < j) (z1 : j < i) (z2 : d < b)
    (L1 : Hid (∀ w1 : World, Calls Tryd.prog 16 #[.string s, .int .i64 i] w1 fun e w' => e = .returned (.tuple #[.int .i64 a, .int .i64 b, .int .i64 0]) ∧ w1 = w'))
    (L2 : Hid (∀ w1 : World, Calls Tryd.prog 16 #[.string s, .int .i64 j] w1 fun e w' => e = .returned (.tuple #[.int .i64 a, .int .i64 d, .int .i64 0]) ∧ w1 = w')) :
    Calls Tryd.prog 5 #[.string s, .int .i64 i, .int .i64 j] w fun e w' => e = .returned (.bool true) ∧ Below w.heap.size w w' := by
  go_enter Tryd.func5, Tryd.ntmps5
  go_wp2_with fail
  refine AW.out.mono ?_
  rintro e w1 ⟨rfl, hb1⟩
  have B1 := Lib.hid hb1
  clear hb1
  go_wp2_with fail
  refine (LX.out w1 B1.out).mono ?_
  rintro e w2 ⟨rfl, hb2⟩
  have B2 := Lib.hid (B1.out.trans (hb2.mono B1.out.size))
  clear hb2
  go_wp2_with fail
  refine (L1.out w2).mono ?_
  rintro e w' ⟨rfl, rfl⟩
  go_wp2_with fail
  refine (L2.out w2).mono ?_
  rintro e w' ⟨rfl, rfl⟩
  go_wp2_with fail
  first | go_ret | skip
  exact ⟨rfl, B2.out⟩

set_option maxRecDepth 100000 in
set_option maxHeartbeats 1600000 in
theorem run_P1_E (s : ByteArray) (i j a b c d : Int) (w : World) (AW : Hid (Calls Tryd.prog 10 #[] w fun e w' => e = .returned (.bool true) ∧ Below w.heap.size w w'))
    (er at_ : Int) (he : (er == 0) = false) (LX : Hid (∀ w1, Below w.heap.size w w1 → Calls Tryd.prog 11 #[.string s] w1 fun r w' => r = .returned (.tuple #[.slice none 0 0, .int .i64 er, .int .i64 at_]) ∧ Below w1.heap.size w1 w'))
    (x1 : 0 ≤ i) (x2 : i ≤ (s.size : Int)) (y1 : ¬ a < 1) (y2 : ¬ b < 1) (z0 : ¬ i < j) (z1 : ¬ j < i)
    (L1 : Hid (∀ w1 : World, Calls Tryd.prog 16 #[.string s, .int .i64 i] w1 fun e w' => e = .returned (.tuple #[.int .i64 a, .int .i64 b, .int .i64 0]) ∧ w1 = w'))
    (L2 : Hid (∀ w1 : World, Calls Tryd.prog 16 #[.string s, .int .i64 j] w1 fun e w' => e = .returned (.tuple #[.int .i64 a, .int .i64 b, .int .i64 0]) ∧ w1 = w')) :
    Calls Tryd.prog 5 #[.string s, .int .i64 i, .int .i64 j] w fun e w' => e = .returned (.bool true) ∧ Below w.heap.size w w' := by
  go_enter Tryd.func5, Tryd.ntmps5
  go_wp2_with fail
  refine AW.out.mono ?_
  rintro e w1 ⟨rfl, hb1⟩
  have B1 := Lib.hid hb1
  clear hb1
  go_wp2_with fail
  refine (LX.out w1 B1.out).mono ?_
  rintro e w2 ⟨rfl, hb2⟩
  have B2 := Lib.hid (B1.out.trans (hb2.mono B1.out.size))
  clear hb2
  go_wp2_with fail
  refine (L1.out w2).mono ?_
  rintro e w' ⟨rfl, rfl⟩
  go_wp2_with fail
  refine (L2.out w2).mono ?_
  rintro e w' ⟨rfl, rfl⟩
  go_wp2_with fail
  first | go_ret | skip
  exact ⟨rfl, B2.out⟩

set_option maxRecDepth 100000 in
set_option maxHeartbeats 1600000 in
theorem run_P2_A1 (s : ByteArray) (i j a b c d : Int) (w : World) (AW : Hid (Calls Tryd.prog 10 #[] w fun e w' => e = .returned (.bool true) ∧ Below w.heap.size w w'))
    (l : List To) (hl : l.length ≤ 131072) (LX : Hid (∀ w1, Below w.heap.size w w1 → Calls Tryd.prog 11 #[.string s] w1 fun r w' => ∃ o q, r = .returned (.tuple #[.slice o l.length q, .int .i64 0, .int .i64 0]) ∧ Row w' o l ∧ Below w1.heap.size w1 w')) (hp : ¬ 0 ≤ i)
    (x1 : ¬ 0 ≤ i)
    (L1 : Hid (∀ w1 : World, Calls Tryd.prog 16 #[.string s, .int .i64 i] w1 fun e w' => e = .returned (.tuple #[.int .i64 0, .int .i64 0, .int .i64 1]) ∧ w1 = w'))
    (L2 : Hid (∀ w1 : World, Calls Tryd.prog 16 #[.string s, .int .i64 j] w1 fun e w' => e = .returned (.tuple #[.int .i64 c, .int .i64 d, .int .i64 1]) ∧ w1 = w')) :
    Calls Tryd.prog 5 #[.string s, .int .i64 i, .int .i64 j] w fun e w' => e = .returned (.bool true) ∧ Below w.heap.size w w' := by
  have hli : (l.length : Int) ≤ 131072 := by omega
  go_enter Tryd.func5, Tryd.ntmps5
  go_wp2_with fail
  refine AW.out.mono ?_
  rintro e w1 ⟨rfl, hb1⟩
  have B1 := Lib.hid hb1
  clear hb1
  go_wp2_with fail
  refine (LX.out w1 B1.out).mono ?_
  rintro e w2 ⟨o, q, rfl, hrow, hb2⟩
  have RW := Lib.hid hrow
  have B2 := Lib.hid (B1.out.trans (hb2.mono B1.out.size))
  clear hb2 hrow
  go_wp2_with fail
  refine (L1.out w2).mono ?_
  rintro e w' ⟨rfl, rfl⟩
  go_wp2_with fail
  refine (L2.out w2).mono ?_
  rintro e w' ⟨rfl, rfl⟩
  go_wp2_with fail
  first | go_ret | skip
  exact ⟨rfl, B2.out⟩

set_option maxRecDepth 100000 in
set_option maxHeartbeats 1600000 in
theorem run_P2_A2 (s : ByteArray) (i j a b c d : Int) (w : World) (AW : Hid (Calls Tryd.prog 10 #[] w fun e w' => e = .returned (.bool true) ∧ Below w.heap.size w w'))
    (l : List To) (hl : l.length ≤ 131072) (LX : Hid (∀ w1, Below w.heap.size w w1 → Calls Tryd.prog 11 #[.string s] w1 fun r w' => ∃ o q, r = .returned (.tuple #[.slice o l.length q, .int .i64 0, .int .i64 0]) ∧ Row w' o l ∧ Below w1.heap.size w1 w')) (hp : ¬ 0 ≤ i)
    (x1 : ¬ 0 ≤ i)
    (L1 : Hid (∀ w1 : World, Calls Tryd.prog 16 #[.string s, .int .i64 i] w1 fun e w' => e = .returned (.tuple #[.int .i64 0, .int .i64 0, .int .i64 1]) ∧ w1 = w'))
    (L2 : Hid (∀ w1 : World, Calls Tryd.prog 16 #[.string s, .int .i64 j] w1 fun e w' => e = .returned (.tuple #[.int .i64 c, .int .i64 d, .int .i64 0]) ∧ w1 = w')) :
    Calls Tryd.prog 5 #[.string s, .int .i64 i, .int .i64 j] w fun e w' => e = .returned (.bool true) ∧ Below w.heap.size w w' := by
  have hli : (l.length : Int) ≤ 131072 := by omega
  go_enter Tryd.func5, Tryd.ntmps5
  go_wp2_with fail
  refine AW.out.mono ?_
  rintro e w1 ⟨rfl, hb1⟩
  have B1 := Lib.hid hb1
  clear hb1
  go_wp2_with fail
  refine (LX.out w1 B1.out).mono ?_
  rintro e w2 ⟨o, q, rfl, hrow, hb2⟩
  have RW := Lib.hid hrow
  have B2 := Lib.hid (B1.out.trans (hb2.mono B1.out.size))
  clear hb2 hrow
  go_wp2_with fail
  refine (L1.out w2).mono ?_
  rintro e w' ⟨rfl, rfl⟩
  go_wp2_with fail
  refine (L2.out w2).mono ?_
  rintro e w' ⟨rfl, rfl⟩
  go_wp2_with fail
  first | go_ret | skip
  exact ⟨rfl, B2.out⟩

end Go.Proofs.YtjohcikkigpogaaDoor.lexOffsets
