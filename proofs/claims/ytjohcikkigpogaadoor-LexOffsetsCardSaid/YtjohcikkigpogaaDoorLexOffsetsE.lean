/-
  LexOffsets: the walks, one for each way.
-/
import Derived.Test.YtjohcikkigpogaaDoorLexOrd
import Derived.Test.YtjohcikkigpogaaDoorTok7
import Derived.Test.YtjohcikkigpogaaDoorLex17
import Derived.WalkKit

namespace Go.Proofs.YtjohcikkigpogaaDoor.lexOffsets
open Go.RowKit
set_option linter.unusedVariables false

set_option maxRecDepth 100000 in
set_option maxHeartbeats 1600000 in
theorem run_P6_A3 (s : ByteArray) (j a b c d : Int) (w : World) (AW : Hid (Calls Tryd.prog 10 #[] w fun e w' => e = .returned (.bool true) ∧ Below w.heap.size w w'))
    (l : List To) (hl : l.length ≤ 131072) (LX : Hid (∀ w1, Below w.heap.size w w1 → Calls Tryd.prog 11 #[.string s] w1 fun r w' => ∃ o q, r = .returned (.tuple #[.slice o l.length q, .int .i64 0, .int .i64 0]) ∧ Row w' o l ∧ Below w1.heap.size w1 w')) (k : Nat) (hk : k < l.length) (t : To) (hT : l[k] = t) (h5 : t.ofs ≤ j) (h6 : j < t.en) (hf : fndV l j 0 = .tuple #[.int .i64 k, .int .i64 0])
    (x1 : 0 ≤ (k : Int)) (x2 : ¬ (k : Int) ≤ (s.size : Int))
    (L1 : Hid (∀ w1 : World, Calls Tryd.prog 16 #[.string s, .int .i64 (k : Int)] w1 fun e w' => e = .returned (.tuple #[.int .i64 0, .int .i64 0, .int .i64 1]) ∧ w1 = w'))
    (L2 : Hid (∀ w1 : World, Calls Tryd.prog 16 #[.string s, .int .i64 j] w1 fun e w' => e = .returned (.tuple #[.int .i64 c, .int .i64 d, .int .i64 1]) ∧ w1 = w')) :
    Calls Tryd.prog 5 #[.string s, .int .i64 (k : Int), .int .i64 j] w fun e w' => e = .returned (.bool true) ∧ Below w.heap.size w w' := by
  have hli : (l.length : Int) ≤ 131072 := by omega
  have HF := Lib.hid hf
  clear hf
  go_enter Tryd.func5, Tryd.ntmps5
  go_wp2_with fail
  refine AW.out.mono ?_
  rintro e w1 ⟨rfl, hb1⟩
  have B1 := Lib.hid hb1
  clear hb1
  go_wp2_with fail
  refine (LX.out w1 B1.out).mono ?_
  rintro e w2 ⟨o, q, rfl, hrow, hb2⟩
  have RW := Lib.hid hrow
  have B2 := Lib.hid (B1.out.trans (hb2.mono B1.out.size))
  clear hb2 hrow
  obtain ⟨g, rfl, ha⟩ := RW.out k hk
  obtain ⟨lt, c0, c1, c2, c3, c4, c5, c6⟩ := ha
  have HT := Lib.hid hT
  rw [hT] at c5 c6
  have hki : (k : Int) < (l.length : Int) := by omega
  have hk0 : (0 : Int) ≤ (k : Int) := by omega
  go_wp2_with fail
  refine (find_any _ q l j w2 RW.out (by unfold maxLen; omega)).mono ?_
  rintro e w3 ⟨rfl, hb3⟩
  have B3 := Lib.hid (B2.out.trans (hb3.mono B2.out.size))
  clear hb3
  rw [HF.out]
  go_wp2_with fail
  refine (L1.out w3).mono ?_
  rintro e w' ⟨rfl, rfl⟩
  go_wp2_with fail
  refine (L2.out w3).mono ?_
  rintro e w' ⟨rfl, rfl⟩
  go_wp2_with fail
  first | go_ret | skip
  exact ⟨rfl, B3.out⟩

set_option maxRecDepth 100000 in
set_option maxHeartbeats 1600000 in
theorem run_P6_A4 (s : ByteArray) (j a b c d : Int) (w : World) (AW : Hid (Calls Tryd.prog 10 #[] w fun e w' => e = .returned (.bool true) ∧ Below w.heap.size w w'))
    (l : List To) (hl : l.length ≤ 131072) (LX : Hid (∀ w1, Below w.heap.size w w1 → Calls Tryd.prog 11 #[.string s] w1 fun r w' => ∃ o q, r = .returned (.tuple #[.slice o l.length q, .int .i64 0, .int .i64 0]) ∧ Row w' o l ∧ Below w1.heap.size w1 w')) (k : Nat) (hk : k < l.length) (t : To) (hT : l[k] = t) (h5 : t.ofs ≤ j) (h6 : j < t.en) (hf : fndV l j 0 = .tuple #[.int .i64 k, .int .i64 0])
    (x1 : 0 ≤ (k : Int)) (x2 : ¬ (k : Int) ≤ (s.size : Int))
    (L1 : Hid (∀ w1 : World, Calls Tryd.prog 16 #[.string s, .int .i64 (k : Int)] w1 fun e w' => e = .returned (.tuple #[.int .i64 0, .int .i64 0, .int .i64 1]) ∧ w1 = w'))
    (L2 : Hid (∀ w1 : World, Calls Tryd.prog 16 #[.string s, .int .i64 j] w1 fun e w' => e = .returned (.tuple #[.int .i64 c, .int .i64 d, .int .i64 0]) ∧ w1 = w')) :
    Calls Tryd.prog 5 #[.string s, .int .i64 (k : Int), .int .i64 j] w fun e w' => e = .returned (.bool true) ∧ Below w.heap.size w w' := by
  have hli : (l.length : Int) ≤ 131072 := by omega
  have HF := Lib.hid hf
  clear hf
  go_enter Tryd.func5, Tryd.ntmps5
  go_wp2_with fail
  refine AW.out.mono ?_
  rintro e w1 ⟨rfl, hb1⟩
  have B1 := Lib.hid hb1
  clear hb1
  go_wp2_with fail
  refine (LX.out w1 B1.out).mono ?_
  rintro e w2 ⟨o, q, rfl, hrow, hb2⟩
  have RW := Lib.hid hrow
  have B2 := Lib.hid (B1.out.trans (hb2.mono B1.out.size))
  clear hb2 hrow
  obtain ⟨g, rfl, ha⟩ := RW.out k hk
  obtain ⟨lt, c0, c1, c2, c3, c4, c5, c6⟩ := ha
  have HT := Lib.hid hT
  rw [hT] at c5 c6
  have hki : (k : Int) < (l.length : Int) := by omega
  have hk0 : (0 : Int) ≤ (k : Int) := by omega
  go_wp2_with fail
  refine (find_any _ q l j w2 RW.out (by unfold maxLen; omega)).mono ?_
  rintro e w3 ⟨rfl, hb3⟩
  have B3 := Lib.hid (B2.out.trans (hb3.mono B2.out.size))
  clear hb3
  rw [HF.out]
  go_wp2_with fail
  refine (L1.out w3).mono ?_
  rintro e w' ⟨rfl, rfl⟩
  go_wp2_with fail
  refine (L2.out w3).mono ?_
  rintro e w' ⟨rfl, rfl⟩
  go_wp2_with fail
  first | go_ret | skip
  exact ⟨rfl, B3.out⟩

set_option maxRecDepth 100000 in
set_option maxHeartbeats 1600000 in
theorem run_P6_B (s : ByteArray) (j a b c d : Int) (w : World) (AW : Hid (Calls Tryd.prog 10 #[] w fun e w' => e = .returned (.bool true) ∧ Below w.heap.size w w'))
    (l : List To) (hl : l.length ≤ 131072) (LX : Hid (∀ w1, Below w.heap.size w w1 → Calls Tryd.prog 11 #[.string s] w1 fun r w' => ∃ o q, r = .returned (.tuple #[.slice o l.length q, .int .i64 0, .int .i64 0]) ∧ Row w' o l ∧ Below w1.heap.size w1 w')) (k : Nat) (hk : k < l.length) (t : To) (hT : l[k] = t) (h5 : t.ofs ≤ j) (h6 : j < t.en) (hf : fndV l j 0 = .tuple #[.int .i64 k, .int .i64 0])
    (x1 : 0 ≤ (k : Int)) (x2 : (k : Int) ≤ (s.size : Int)) (y1 : ¬ a < 1) (y2 : ¬ b < 1)
    (L1 : Hid (∀ w1 : World, Calls Tryd.prog 16 #[.string s, .int .i64 (k : Int)] w1 fun e w' => e = .returned (.tuple #[.int .i64 a, .int .i64 b, .int .i64 0]) ∧ w1 = w'))
    (L2 : Hid (∀ w1 : World, Calls Tryd.prog 16 #[.string s, .int .i64 j] w1 fun e w' => e = .returned (.tuple #[.int .i64 c, .int .i64 d, .int .i64 1]) ∧ w1 = w')) :
    Calls Tryd.prog 5 #[.string s, .int .i64 (k : Int), .int .i64 j] w fun e w' => e = .returned (.bool true) ∧ Below w.heap.size w w' := by
  have hli : (l.length : Int) ≤ 131072 := by omega
  have HF := Lib.hid hf
  clear hf
  go_enter Tryd.func5, Tryd.ntmps5
  go_wp2_with fail
  refine AW.out.mono ?_
  rintro e w1 ⟨rfl, hb1⟩
  have B1 := Lib.hid hb1
  clear hb1
  go_wp2_with fail
  refine (LX.out w1 B1.out).mono ?_
  rintro e w2 ⟨o, q, rfl, hrow, hb2⟩
  have RW := Lib.hid hrow
  have B2 := Lib.hid (B1.out.trans (hb2.mono B1.out.size))
  clear hb2 hrow
  obtain ⟨g, rfl, ha⟩ := RW.out k hk
  obtain ⟨lt, c0, c1, c2, c3, c4, c5, c6⟩ := ha
  have HT := Lib.hid hT
  rw [hT] at c5 c6
  have hki : (k : Int) < (l.length : Int) := by omega
  have hk0 : (0 : Int) ≤ (k : Int) := by omega
  go_wp2_with fail
  refine (find_any _ q l j w2 RW.out (by unfold maxLen; omega)).mono ?_
  rintro e w3 ⟨rfl, hb3⟩
  have B3 := Lib.hid (B2.out.trans (hb3.mono B2.out.size))
  clear hb3
  rw [HF.out]
  go_wp2_with fail
  refine (L1.out w3).mono ?_
  rintro e w' ⟨rfl, rfl⟩
  go_wp2_with fail
  refine (L2.out w3).mono ?_
  rintro e w' ⟨rfl, rfl⟩
  go_wp2_with fail
  first | go_ret | skip
  exact ⟨rfl, B3.out⟩

set_option maxRecDepth 100000 in
set_option maxHeartbeats 1600000 in
theorem run_P6_C1 (s : ByteArray) (j a b c d : Int) (w : World) (AW : Hid (Calls Tryd.prog 10 #[] w fun e w' => e = .returned (.bool true) ∧ Below w.heap.size w w'))
    (l : List To) (hl : l.length ≤ 131072) (LX : Hid (∀ w1, Below w.heap.size w w1 → Calls Tryd.prog 11 #[.string s] w1 fun r w' => ∃ o q, r = .returned (.tuple #[.slice o l.length q, .int .i64 0, .int .i64 0]) ∧ Row w' o l ∧ Below w1.heap.size w1 w')) (k : Nat) (hk : k < l.length) (t : To) (hT : l[k] = t) (h5 : t.ofs ≤ j) (h6 : j < t.en) (hf : fndV l j 0 = .tuple #[.int .i64 k, .int .i64 0])
    (x1 : 0 ≤ (k : Int)) (x2 : (k : Int) ≤ (s.size : Int)) (y1 : ¬ a < 1) (y2 : ¬ b < 1) (z1 : (k : Int) < j) (z2 : a < c)
    (L1 : Hid (∀ w1 : World, Calls Tryd.prog 16 #[.string s, .int .i64 (k : Int)] w1 fun e w' => e = .returned (.tuple #[.int .i64 a, .int .i64 b, .int .i64 0]) ∧ w1 = w'))
    (L2 : Hid (∀ w1 : World, Calls Tryd.prog 16 #[.string s, .int .i64 j] w1 fun e w' => e = .returned (.tuple #[.int .i64 c, .int .i64 d, .int .i64 0]) ∧ w1 = w')) :
    Calls Tryd.prog 5 #[.string s, .int .i64 (k : Int), .int .i64 j] w fun e w' => e = .returned (.bool true) ∧ Below w.heap.size w w' := by
  have hli : (l.length : Int) ≤ 131072 := by omega
  have HF := Lib.hid hf
  clear hf
  go_enter Tryd.func5, Tryd.ntmps5
  go_wp2_with fail
  refine AW.out.mono ?_
  rintro e w1 ⟨rfl, hb1⟩
  have B1 := Lib.hid hb1
  clear hb1
  go_wp2_with fail
  refine (LX.out w1 B1.out).mono ?_
  rintro e w2 ⟨o, q, rfl, hrow, hb2⟩
  have RW := Lib.hid hrow
  have B2 := Lib.hid (B1.out.trans (hb2.mono B1.out.size))
  clear hb2 hrow
  obtain ⟨g, rfl, ha⟩ := RW.out k hk
  obtain ⟨lt, c0, c1, c2, c3, c4, c5, c6⟩ := ha
  have HT := Lib.hid hT
  rw [hT] at c5 c6
  have hki : (k : Int) < (l.length : Int) := by omega
  have hk0 : (0 : Int) ≤ (k : Int) := by omega
  go_wp2_with fail
  refine (find_any _ q l j w2 RW.out (by unfold maxLen; omega)).mono ?_
  rintro e w3 ⟨rfl, hb3⟩
  have B3 := Lib.hid (B2.out.trans (hb3.mono B2.out.size))
  clear hb3
  rw [HF.out]
  go_wp2_with fail
  refine (L1.out w3).mono ?_
  rintro e w' ⟨rfl, rfl⟩
  go_wp2_with fail
  refine (L2.out w3).mono ?_
  rintro e w' ⟨rfl, rfl⟩
  go_wp2_with fail
  first | go_ret | skip
  exact ⟨rfl, B3.out⟩

set_option maxRecDepth 100000 in
set_option maxHeartbeats 1600000 in
theorem run_P6_C2 (s : ByteArray) (j a b c d : Int) (w : World) (AW : Hid (Calls Tryd.prog 10 #[] w fun e w' => e = .returned (.bool true) ∧ Below w.heap.size w w'))
    (l : List To) (hl : l.length ≤ 131072) (LX : Hid (∀ w1, Below w.heap.size w w1 → Calls Tryd.prog 11 #[.string s] w1 fun r w' => ∃ o q, r = .returned (.tuple #[.slice o l.length q, .int .i64 0, .int .i64 0]) ∧ Row w' o l ∧ Below w1.heap.size w1 w')) (k : Nat) (hk : k < l.length) (t : To) (hT : l[k] = t) (h5 : t.ofs ≤ j) (h6 : j < t.en) (hf : fndV l j 0 = .tuple #[.int .i64 k, .int .i64 0])
    (x1 : 0 ≤ (k : Int)) (x2 : (k : Int) ≤ (s.size : Int)) (y1 : ¬ a < 1) (y2 : ¬ b < 1) (z1 : (k : Int) < j) (z2 : b < d)
    (L1 : Hid (∀ w1 : World, Calls Tryd.prog 16 #[.string s, .int .i64 (k : Int)] w1 fun e w' => e = .returned (.tuple #[.int .i64 a, .int .i64 b, .int .i64 0]) ∧ w1 = w'))
    (L2 : Hid (∀ w1 : World, Calls Tryd.prog 16 #[.string s, .int .i64 j] w1 fun e w' => e = .returned (.tuple #[.int .i64 a, .int .i64 d, .int .i64 0]) ∧ w1 = w')) :
    Calls Tryd.prog 5 #[.string s, .int .i64 (k : Int), .int .i64 j] w fun e w' => e = .returned (.bool true) ∧ Below w.heap.size w w' := by
  have hli : (l.length : Int) ≤ 131072 := by omega
  have HF := Lib.hid hf
  clear hf
  go_enter Tryd.func5, Tryd.ntmps5
  go_wp2_with fail
  refine AW.out.mono ?_
  rintro e w1 ⟨rfl, hb1⟩
  have B1 := Lib.hid hb1
  clear hb1
  go_wp2_with fail
  refine (LX.out w1 B1.out).mono ?_
  rintro e w2 ⟨o, q, rfl, hrow, hb2⟩
  have RW := Lib.hid hrow
  have B2 := Lib.hid (B1.out.trans (hb2.mono B1.out.size))
  clear hb2 hrow
  obtain ⟨g, rfl, ha⟩ := RW.out k hk
  obtain ⟨lt, c0, c1, c2, c3, c4, c5, c6⟩ := ha
  have HT := Lib.hid hT
  rw [hT] at c5 c6
  have hki : (k : Int) < (l.length : Int) := by omega
  have hk0 : (0 : Int) ≤ (k : Int) := by omega
  go_wp2_with fail
  refine (find_any _ q l j w2 RW.out (by unfold maxLen; omega)).mono ?_
  rintro e w3 ⟨rfl, hb3⟩
  have B3 := Lib.hid (B2.out.trans (hb3.mono B2.out.size))
  clear hb3
  rw [HF.out]
  go_wp2_with fail
  refine (L1.out w3).mono ?_
  rintro e w' ⟨rfl, rfl⟩
  go_wp2_with fail
  refine (L2.out w3).mono ?_
  rintro e w' ⟨rfl, rfl⟩
  go_wp2_with fail
  first | go_ret | skip
  exact ⟨rfl, B3.out⟩

set_option maxRecDepth 100000 in
set_option maxHeartbeats 1600000 in
theorem run_P6_D1 (s : ByteArray) (j a b c d : Int) (w : World) (AW : Hid (Calls Tryd.prog 10 #[] w fun e w' => e = .returned (.bool true) ∧ Below w.heap.size w w'))
    (l : List To) (hl : l.length ≤ 131072) (LX : Hid (∀ w1, Below w.heap.size w w1 → Calls Tryd.prog 11 #[.string s] w1 fun r w' => ∃ o q, r = .returned (.tuple #[.slice o l.length q, .int .i64 0, .int .i64 0]) ∧ Row w' o l ∧ Below w1.heap.size w1 w')) (k : Nat) (hk : k < l.length) (t : To) (hT : l[k] = t) (h5 : t.ofs ≤ j) (h6 : j < t.en) (hf : fndV l j 0 = .tuple #[.int .i64 k, .int .i64 0])
    (x1 : 0 ≤ (k : Int)) (x2 : (k : Int) ≤ (s.size : Int)) (y1 : ¬ a < 1) (y2 : ¬ b < 1) (z0 : ¬ (k : Int) < j) (z1 : j < (k : Int)) (z2 : c < a)
    (L1 : Hid (∀ w1 : World, Calls Tryd.prog 16 #[.string s, .int .i64 (k : Int)] w1 fun e w' => e = .returned (.tuple #[.int .i64 a, .int .i64 b, .int .i64 0]) ∧ w1 = w'))
    (L2 : Hid (∀ w1 : World, Calls Tryd.prog 16 #[.string s, .int .i64 j] w1 fun e w' => e = .returned (.tuple #[.int .i64 c, .int .i64 d, .int .i64 0]) ∧ w1 = w')) :
    Calls Tryd.prog 5 #[.string s, .int .i64 (k : Int), .int .i64 j] w fun e w' => e = .returned (.bool true) ∧ Below w.heap.size w w' := by
  have hli : (l.length : Int) ≤ 131072 := by omega
  have HF := Lib.hid hf
  clear hf
  go_enter Tryd.func5, Tryd.ntmps5
  go_wp2_with fail
  refine AW.out.mono ?_
  rintro e w1 ⟨rfl, hb1⟩
  have B1 := Lib.hid hb1
  clear hb1
  go_wp2_with fail
  refine (LX.out w1 B1.out).mono ?_
  rintro e w2 ⟨o, q, rfl, hrow, hb2⟩
  have RW := Lib.hid hrow
  have B2 := Lib.hid (B1.out.trans (hb2.mono B1.out.size))
  clear hb2 hrow
  obtain ⟨g, rfl, ha⟩ := RW.out k hk
  obtain ⟨lt, c0, c1, c2, c3, c4, c5, c6⟩ := ha
  have HT := Lib.hid hT
  rw [hT] at c5 c6
  have hki : (k : Int) < (l.length : Int) := by omega
  have hk0 : (0 : Int) ≤ (k : Int) := by omega
  go_wp2_with fail
  refine (find_any _ q l j w2 RW.out (by unfold maxLen; omega)).mono ?_
  rintro e w3 ⟨rfl, hb3⟩
  have B3 := Lib.hid (B2.out.trans (hb3.mono B2.out.size))
  clear hb3
  rw [HF.out]
  go_wp2_with fail
  refine (L1.out w3).mono ?_
  rintro e w' ⟨rfl, rfl⟩
  go_wp2_with fail
  refine (L2.out w3).mono ?_
  rintro e w' ⟨rfl, rfl⟩
  go_wp2_with fail
  first | go_ret | skip
  exact ⟨rfl, B3.out⟩

set_option maxRecDepth 100000 in
set_option maxHeartbeats 1600000 in
theorem run_P6_D2 (s : ByteArray) (j a b c d : Int) (w : World) (AW : Hid (Calls Tryd.prog 10 #[] w fun e w' => e = .returned (.bool true) ∧ Below w.heap.size w w'))
    (l : List To) (hl : l.length ≤ 131072) (LX : Hid (∀ w1, Below w.heap.size w w1 → Calls Tryd.prog 11 #[.string s] w1 fun r w' => ∃ o q, r = .returned (.tuple #[.slice o l.length q, .int .i64 0, .int .i64 0]) ∧ Row w' o l ∧ Below w1.heap.size w1 w')) (k : Nat) (hk : k < l.length) (t : To) (hT : l[k] = t) (h5 : t.ofs ≤ j) (h6 : j < t.en) (hf : fndV l j 0 = .tuple #[.int .i64 k, .int .i64 0])
    (x1 : 0 ≤ (k : Int)) (x2 : (k : Int) ≤ (s.size : Int)) (y1 : ¬ a < 1) (y2 : ¬ b < 1) (z0 : ¬ (k : Int) < j) (z1 : j < (k : Int)) (z2 : d < b)
    (L1 : Hid (∀ w1 : World, Calls Tryd.prog 16 #[.string s, .int .i64 (k : Int)] w1 fun e w' => e = .returned (.tuple #[.int .i64 a, .int .i64 b, .int .i64 0]) ∧ w1 = w'))
    (L2 : Hid (∀ w1 : World, Calls Tryd.prog 16 #[.string s, .int .i64 j] w1 fun e w' => e = .returned (.tuple #[.int .i64 a, .int .i64 d, .int .i64 0]) ∧ w1 = w')) :
    Calls Tryd.prog 5 #[.string s, .int .i64 (k : Int), .int .i64 j] w fun e w' => e = .returned (.bool true) ∧ Below w.heap.size w w' := by
  have hli : (l.length : Int) ≤ 131072 := by omega
  have HF := Lib.hid hf
  clear hf
  go_enter Tryd.func5, Tryd.ntmps5
  go_wp2_with fail
  refine AW.out.mono ?_
  rintro e w1 ⟨rfl, hb1⟩
  have B1 := Lib.hid hb1
  clear hb1
  go_wp2_with fail
  refine (LX.out w1 B1.out).mono ?_
  rintro e w2 ⟨o, q, rfl, hrow, hb2⟩
  have RW := Lib.hid hrow
  have B2 := Lib.hid (B1.out.trans (hb2.mono B1.out.size))
  clear hb2 hrow
  obtain ⟨g, rfl, ha⟩ := RW.out k hk
  obtain ⟨lt, c0, c1, c2, c3, c4, c5, c6⟩ := ha
  have HT := Lib.hid hT
  rw [hT] at c5 c6
  have hki : (k : Int) < (l.length : Int) := by omega
  have hk0 : (0 : Int) ≤ (k : Int) := by omega
  go_wp2_with fail
  refine (find_any _ q l j w2 RW.out (by unfold maxLen; omega)).mono ?_
  rintro e w3 ⟨rfl, hb3⟩
  have B3 := Lib.hid (B2.out.trans (hb3.mono B2.out.size))
  clear hb3
  rw [HF.out]
  go_wp2_with fail
  refine (L1.out w3).mono ?_
  rintro e w' ⟨rfl, rfl⟩
  go_wp2_with fail
  refine (L2.out w3).mono ?_
  rintro e w' ⟨rfl, rfl⟩
  go_wp2_with fail
  first | go_ret | skip
  exact ⟨rfl, B3.out⟩

set_option maxRecDepth 100000 in
set_option maxHeartbeats 1600000 in
theorem run_P6_E (s : ByteArray) (j a b c d : Int) (w : World) (AW : Hid (Calls Tryd.prog 10 #[] w fun e w' => e = .returned (.bool true) ∧ Below w.heap.size w w'))
    (l : List To) (hl : l.length ≤ 131072) (LX : Hid (∀ w1, Below w.heap.size w w1 → Calls Tryd.prog 11 #[.string s] w1 fun r w' => ∃ o q, r = .returned (.tuple #[.slice o l.length q, .int .i64 0, .int .i64 0]) ∧ Row w' o l ∧ Below w1.heap.size w1 w')) (k : Nat) (hk : k < l.length) (t : To) (hT : l[k] = t) (h5 : t.ofs ≤ j) (h6 : j < t.en) (hf : fndV l j 0 = .tuple #[.int .i64 k, .int .i64 0])
    (x1 : 0 ≤ (k : Int)) (x2 : (k : Int) ≤ (s.size : Int)) (y1 : ¬ a < 1) (y2 : ¬ b < 1) (z0 : ¬ (k : Int) < j) (z1 : ¬ j < (k : Int))
    (L1 : Hid (∀ w1 : World, Calls Tryd.prog 16 #[.string s, .int .i64 (k : Int)] w1 fun e w' => e = .returned (.tuple #[.int .i64 a, .int .i64 b, .int .i64 0]) ∧ w1 = w'))
    (L2 : Hid (∀ w1 : World, Calls Tryd.prog 16 #[.string s, .int .i64 j] w1 fun e w' => e = .returned (.tuple #[.int .i64 a, .int .i64 b, .int .i64 0]) ∧ w1 = w')) :
    Calls Tryd.prog 5 #[.string s, .int .i64 (k : Int), .int .i64 j] w fun e w' => e = .returned (.bool true) ∧ Below w.heap.size w w' := by
  have hli : (l.length : Int) ≤ 131072 := by omega
  have HF := Lib.hid hf
  clear hf
  go_enter Tryd.func5, Tryd.ntmps5
  go_wp2_with fail
  refine AW.out.mono ?_
  rintro e w1 ⟨rfl, hb1⟩
  have B1 := Lib.hid hb1
  clear hb1
  go_wp2_with fail
  refine (LX.out w1 B1.out).mono ?_
  rintro e w2 ⟨o, q, rfl, hrow, hb2⟩
  have RW := Lib.hid hrow
  have B2 := Lib.hid (B1.out.trans (hb2.mono B1.out.size))
  clear hb2 hrow
  obtain ⟨g, rfl, ha⟩ := RW.out k hk
  obtain ⟨lt, c0, c1, c2, c3, c4, c5, c6⟩ := ha
  have HT := Lib.hid hT
  rw [hT] at c5 c6
  have hki : (k : Int) < (l.length : Int) := by omega
  have hk0 : (0 : Int) ≤ (k : Int) := by omega
  go_wp2_with fail
  refine (find_any _ q l j w2 RW.out (by unfold maxLen; omega)).mono ?_
  rintro e w3 ⟨rfl, hb3⟩
  have B3 := Lib.hid (B2.out.trans (hb3.mono B2.out.size))
  clear hb3
  rw [HF.out]
  go_wp2_with fail
  refine (L1.out w3).mono ?_
  rintro e w' ⟨rfl, rfl⟩
  go_wp2_with fail
  refine (L2.out w3).mono ?_
  rintro e w' ⟨rfl, rfl⟩
  go_wp2_with fail
  first | go_ret | skip
  exact ⟨rfl, B3.out⟩

end Go.Proofs.YtjohcikkigpogaaDoor.lexOffsets
