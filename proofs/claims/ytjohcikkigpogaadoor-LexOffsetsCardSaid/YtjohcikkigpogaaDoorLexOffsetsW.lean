/-
  LexOffsets: the ways together.
-/
import Derived.Test.YtjohcikkigpogaaDoorLexOffsetsA
import Derived.Test.YtjohcikkigpogaaDoorLexOffsetsB
import Derived.Test.YtjohcikkigpogaaDoorLexOffsetsC
import Derived.Test.YtjohcikkigpogaaDoorLexOffsetsD
import Derived.Test.YtjohcikkigpogaaDoorLexOffsetsE

namespace Go.Proofs.YtjohcikkigpogaaDoor.lexOffsets
open Go.RowKit
set_option linter.unusedVariables false

theorem lc_one (s : ByteArray) (n : Nat) : ¬ (lc s n).1 < 1 ∧ ¬ (lc s n).2 < 1 := by
  have := lc_bd s n
  omega

theorem lc_up (s : ByteArray) (x y : Int) (hx : 0 ≤ x) (hy : x < y) : (lc s x.toNat).1 < (lc s y.toNat).1 ∨ (lc s x.toNat).1 = (lc s y.toNat).1 ∧ (lc s x.toNat).2 < (lc s y.toNat).2 := by
  have h := lc_lt s x.toNat (y.toNat - x.toNat - 1)
  rwa [show x.toNat + (y.toNat - x.toNat - 1) + 1 = y.toNat from by omega] at h

set_option maxRecDepth 100000 in
set_option maxHeartbeats 1600000 in
theorem fin_P1 (s : ByteArray) (i j : Int) (w : World) (AW : Hid (Calls Tryd.prog 10 #[] w fun e w' => e = .returned (.bool true) ∧ Below w.heap.size w w'))
    (er at_ : Int) (he : (er == 0) = false) (LX : Hid (∀ w1, Below w.heap.size w w1 → Calls Tryd.prog 11 #[.string s] w1 fun r w' => r = .returned (.tuple #[.slice none 0 0, .int .i64 er, .int .i64 at_]) ∧ Below w1.heap.size w1 w'))
    (LO : ∀ x : Int, x < 0 ∨ (s.size : Int) < x → ∀ w1 : World, Calls Tryd.prog 16 #[.string s, .int .i64 x] w1 fun e w' => e = .returned (.tuple #[.int .i64 0, .int .i64 0, .int .i64 1]) ∧ w1 = w')
    (LI : ∀ x : Int, 0 ≤ x → x ≤ (s.size : Int) → ∀ w1 : World, Calls Tryd.prog 16 #[.string s, .int .i64 x] w1 fun e w' => e = .returned (.tuple #[.int .i64 (lc s x.toNat).1, .int .i64 (lc s x.toNat).2, .int .i64 0]) ∧ w1 = w') :
    Calls Tryd.prog 5 #[.string s, .int .i64 i, .int .i64 j] w fun e w' => e = .returned (.bool true) ∧ Below w.heap.size w w' := by
  by_cases x1 : 0 ≤ i
  · by_cases x2 : i ≤ (s.size : Int)
    · by_cases hj : 0 ≤ j ∧ j ≤ (s.size : Int)
      · rcases Int.lt_trichotomy (i) j with h | h | h
        · rcases lc_up s (i) j x1 h with g | ⟨g1, g2⟩
          · exact run_P1_C1 s i j (lc s (i).toNat).1 (lc s (i).toNat).2 (lc s j.toNat).1 (lc s j.toNat).2 w AW er at_ he LX x1 x2 (lc_one s _).1 (lc_one s _).2 h g (Lib.hid (LI i x1 x2)) (Lib.hid (LI j (by omega) (by omega)))
          · exact run_P1_C2 s i j (lc s (i).toNat).1 (lc s (i).toNat).2 0 (lc s j.toNat).2 w AW er at_ he LX x1 x2 (lc_one s _).1 (lc_one s _).2 h g2 (Lib.hid (LI i x1 x2)) (Lib.hid (by rw [g1]; exact LI j (by omega) (by omega)))
        · have h0 : ¬ (i) < j := by omega
          have h1 : ¬ j < (i) := by omega
          exact run_P1_E s i j (lc s (i).toNat).1 (lc s (i).toNat).2 0 0 w AW er at_ he LX x1 x2 (lc_one s _).1 (lc_one s _).2 h0 h1 (Lib.hid (LI i x1 x2)) (Lib.hid (by rw [h]; exact LI j (by omega) (by omega)))
        · have h0 : ¬ (i) < j := by omega
          rcases lc_up s j (i) (by omega) h with g | ⟨g1, g2⟩
          · exact run_P1_D1 s i j (lc s (i).toNat).1 (lc s (i).toNat).2 (lc s j.toNat).1 (lc s j.toNat).2 w AW er at_ he LX x1 x2 (lc_one s _).1 (lc_one s _).2 h0 h g (Lib.hid (LI i x1 x2)) (Lib.hid (LI j (by omega) (by omega)))
          · exact run_P1_D2 s i j (lc s (i).toNat).1 (lc s (i).toNat).2 0 (lc s j.toNat).2 w AW er at_ he LX x1 x2 (lc_one s _).1 (lc_one s _).2 h0 h g2 (Lib.hid (LI i x1 x2)) (Lib.hid (by rw [← g1]; exact LI j (by omega) (by omega)))
      · exact run_P1_B s i j (lc s (i).toNat).1 (lc s (i).toNat).2 0 0 w AW er at_ he LX x1 x2 (lc_one s _).1 (lc_one s _).2 (Lib.hid (LI i x1 x2)) (Lib.hid (LO j (by omega)))
    · by_cases hj : 0 ≤ j ∧ j ≤ (s.size : Int)
      · exact run_P1_A4 s i j 0 0 (lc s j.toNat).1 (lc s j.toNat).2 w AW er at_ he LX x1 x2 (Lib.hid (LO i (by omega))) (Lib.hid (LI j (by omega) (by omega)))
      · exact run_P1_A3 s i j 0 0 0 0 w AW er at_ he LX x1 x2 (Lib.hid (LO i (by omega))) (Lib.hid (LO j (by omega)))
  · by_cases hj : 0 ≤ j ∧ j ≤ (s.size : Int)
    · exact run_P1_A2 s i j 0 0 (lc s j.toNat).1 (lc s j.toNat).2 w AW er at_ he LX x1 (Lib.hid (LO i (by omega))) (Lib.hid (LI j (by omega) (by omega)))
    · exact run_P1_A1 s i j 0 0 0 0 w AW er at_ he LX x1 (Lib.hid (LO i (by omega))) (Lib.hid (LO j (by omega)))

set_option maxRecDepth 100000 in
set_option maxHeartbeats 1600000 in
theorem fin_P2 (s : ByteArray) (i j : Int) (w : World) (AW : Hid (Calls Tryd.prog 10 #[] w fun e w' => e = .returned (.bool true) ∧ Below w.heap.size w w'))
    (l : List To) (hl : l.length ≤ 131072) (LX : Hid (∀ w1, Below w.heap.size w w1 → Calls Tryd.prog 11 #[.string s] w1 fun r w' => ∃ o q, r = .returned (.tuple #[.slice o l.length q, .int .i64 0, .int .i64 0]) ∧ Row w' o l ∧ Below w1.heap.size w1 w')) (hp : ¬ 0 ≤ i)
    (LO : ∀ x : Int, x < 0 ∨ (s.size : Int) < x → ∀ w1 : World, Calls Tryd.prog 16 #[.string s, .int .i64 x] w1 fun e w' => e = .returned (.tuple #[.int .i64 0, .int .i64 0, .int .i64 1]) ∧ w1 = w')
    (LI : ∀ x : Int, 0 ≤ x → x ≤ (s.size : Int) → ∀ w1 : World, Calls Tryd.prog 16 #[.string s, .int .i64 x] w1 fun e w' => e = .returned (.tuple #[.int .i64 (lc s x.toNat).1, .int .i64 (lc s x.toNat).2, .int .i64 0]) ∧ w1 = w') :
    Calls Tryd.prog 5 #[.string s, .int .i64 i, .int .i64 j] w fun e w' => e = .returned (.bool true) ∧ Below w.heap.size w w' := by
  by_cases x1 : 0 ≤ i
  · exact absurd x1 hp
  · by_cases hj : 0 ≤ j ∧ j ≤ (s.size : Int)
    · exact run_P2_A2 s i j 0 0 (lc s j.toNat).1 (lc s j.toNat).2 w AW l hl LX hp x1 (Lib.hid (LO i (by omega))) (Lib.hid (LI j (by omega) (by omega)))
    · exact run_P2_A1 s i j 0 0 0 0 w AW l hl LX hp x1 (Lib.hid (LO i (by omega))) (Lib.hid (LO j (by omega)))

set_option maxRecDepth 100000 in
set_option maxHeartbeats 1600000 in
theorem fin_P3 (s : ByteArray) (i j : Int) (w : World) (AW : Hid (Calls Tryd.prog 10 #[] w fun e w' => e = .returned (.bool true) ∧ Below w.heap.size w w'))
    (l : List To) (hl : l.length ≤ 131072) (LX : Hid (∀ w1, Below w.heap.size w w1 → Calls Tryd.prog 11 #[.string s] w1 fun r w' => ∃ o q, r = .returned (.tuple #[.slice o l.length q, .int .i64 0, .int .i64 0]) ∧ Row w' o l ∧ Below w1.heap.size w1 w')) (hp : 0 ≤ i) (hp2 : ¬ i < (l.length : Int))
    (LO : ∀ x : Int, x < 0 ∨ (s.size : Int) < x → ∀ w1 : World, Calls Tryd.prog 16 #[.string s, .int .i64 x] w1 fun e w' => e = .returned (.tuple #[.int .i64 0, .int .i64 0, .int .i64 1]) ∧ w1 = w')
    (LI : ∀ x : Int, 0 ≤ x → x ≤ (s.size : Int) → ∀ w1 : World, Calls Tryd.prog 16 #[.string s, .int .i64 x] w1 fun e w' => e = .returned (.tuple #[.int .i64 (lc s x.toNat).1, .int .i64 (lc s x.toNat).2, .int .i64 0]) ∧ w1 = w') :
    Calls Tryd.prog 5 #[.string s, .int .i64 i, .int .i64 j] w fun e w' => e = .returned (.bool true) ∧ Below w.heap.size w w' := by
  by_cases x1 : 0 ≤ i
  · by_cases x2 : i ≤ (s.size : Int)
    · by_cases hj : 0 ≤ j ∧ j ≤ (s.size : Int)
      · rcases Int.lt_trichotomy (i) j with h | h | h
        · rcases lc_up s (i) j x1 h with g | ⟨g1, g2⟩
          · exact run_P3_C1 s i j (lc s (i).toNat).1 (lc s (i).toNat).2 (lc s j.toNat).1 (lc s j.toNat).2 w AW l hl LX hp hp2 x1 x2 (lc_one s _).1 (lc_one s _).2 h g (Lib.hid (LI i x1 x2)) (Lib.hid (LI j (by omega) (by omega)))
          · exact run_P3_C2 s i j (lc s (i).toNat).1 (lc s (i).toNat).2 0 (lc s j.toNat).2 w AW l hl LX hp hp2 x1 x2 (lc_one s _).1 (lc_one s _).2 h g2 (Lib.hid (LI i x1 x2)) (Lib.hid (by rw [g1]; exact LI j (by omega) (by omega)))
        · have h0 : ¬ (i) < j := by omega
          have h1 : ¬ j < (i) := by omega
          exact run_P3_E s i j (lc s (i).toNat).1 (lc s (i).toNat).2 0 0 w AW l hl LX hp hp2 x1 x2 (lc_one s _).1 (lc_one s _).2 h0 h1 (Lib.hid (LI i x1 x2)) (Lib.hid (by rw [h]; exact LI j (by omega) (by omega)))
        · have h0 : ¬ (i) < j := by omega
          rcases lc_up s j (i) (by omega) h with g | ⟨g1, g2⟩
          · exact run_P3_D1 s i j (lc s (i).toNat).1 (lc s (i).toNat).2 (lc s j.toNat).1 (lc s j.toNat).2 w AW l hl LX hp hp2 x1 x2 (lc_one s _).1 (lc_one s _).2 h0 h g (Lib.hid (LI i x1 x2)) (Lib.hid (LI j (by omega) (by omega)))
          · exact run_P3_D2 s i j (lc s (i).toNat).1 (lc s (i).toNat).2 0 (lc s j.toNat).2 w AW l hl LX hp hp2 x1 x2 (lc_one s _).1 (lc_one s _).2 h0 h g2 (Lib.hid (LI i x1 x2)) (Lib.hid (by rw [← g1]; exact LI j (by omega) (by omega)))
      · exact run_P3_B s i j (lc s (i).toNat).1 (lc s (i).toNat).2 0 0 w AW l hl LX hp hp2 x1 x2 (lc_one s _).1 (lc_one s _).2 (Lib.hid (LI i x1 x2)) (Lib.hid (LO j (by omega)))
    · by_cases hj : 0 ≤ j ∧ j ≤ (s.size : Int)
      · exact run_P3_A4 s i j 0 0 (lc s j.toNat).1 (lc s j.toNat).2 w AW l hl LX hp hp2 x1 x2 (Lib.hid (LO i (by omega))) (Lib.hid (LI j (by omega) (by omega)))
      · exact run_P3_A3 s i j 0 0 0 0 w AW l hl LX hp hp2 x1 x2 (Lib.hid (LO i (by omega))) (Lib.hid (LO j (by omega)))
  · exact absurd hp x1

set_option maxRecDepth 100000 in
set_option maxHeartbeats 1600000 in
theorem fin_P4 (s : ByteArray) (j : Int) (w : World) (AW : Hid (Calls Tryd.prog 10 #[] w fun e w' => e = .returned (.bool true) ∧ Below w.heap.size w w'))
    (l : List To) (hl : l.length ≤ 131072) (LX : Hid (∀ w1, Below w.heap.size w w1 → Calls Tryd.prog 11 #[.string s] w1 fun r w' => ∃ o q, r = .returned (.tuple #[.slice o l.length q, .int .i64 0, .int .i64 0]) ∧ Row w' o l ∧ Below w1.heap.size w1 w')) (k : Nat) (hk : k < l.length) (t : To) (hT : l[k] = t) (h5 : ¬ t.ofs ≤ j)
    (LO : ∀ x : Int, x < 0 ∨ (s.size : Int) < x → ∀ w1 : World, Calls Tryd.prog 16 #[.string s, .int .i64 x] w1 fun e w' => e = .returned (.tuple #[.int .i64 0, .int .i64 0, .int .i64 1]) ∧ w1 = w')
    (LI : ∀ x : Int, 0 ≤ x → x ≤ (s.size : Int) → ∀ w1 : World, Calls Tryd.prog 16 #[.string s, .int .i64 x] w1 fun e w' => e = .returned (.tuple #[.int .i64 (lc s x.toNat).1, .int .i64 (lc s x.toNat).2, .int .i64 0]) ∧ w1 = w') :
    Calls Tryd.prog 5 #[.string s, .int .i64 (k : Int), .int .i64 j] w fun e w' => e = .returned (.bool true) ∧ Below w.heap.size w w' := by
  by_cases x1 : 0 ≤ (k : Int)
  · by_cases x2 : (k : Int) ≤ (s.size : Int)
    · by_cases hj : 0 ≤ j ∧ j ≤ (s.size : Int)
      · rcases Int.lt_trichotomy ((k : Int)) j with h | h | h
        · rcases lc_up s ((k : Int)) j x1 h with g | ⟨g1, g2⟩
          · exact run_P4_C1 s  j (lc s ((k : Int)).toNat).1 (lc s ((k : Int)).toNat).2 (lc s j.toNat).1 (lc s j.toNat).2 w AW l hl LX k hk t hT h5 x1 x2 (lc_one s _).1 (lc_one s _).2 h g (Lib.hid (LI (k : Int) x1 x2)) (Lib.hid (LI j (by omega) (by omega)))
          · exact run_P4_C2 s  j (lc s ((k : Int)).toNat).1 (lc s ((k : Int)).toNat).2 0 (lc s j.toNat).2 w AW l hl LX k hk t hT h5 x1 x2 (lc_one s _).1 (lc_one s _).2 h g2 (Lib.hid (LI (k : Int) x1 x2)) (Lib.hid (by rw [g1]; exact LI j (by omega) (by omega)))
        · have h0 : ¬ ((k : Int)) < j := by omega
          have h1 : ¬ j < ((k : Int)) := by omega
          exact run_P4_E s  j (lc s ((k : Int)).toNat).1 (lc s ((k : Int)).toNat).2 0 0 w AW l hl LX k hk t hT h5 x1 x2 (lc_one s _).1 (lc_one s _).2 h0 h1 (Lib.hid (LI (k : Int) x1 x2)) (Lib.hid (by rw [h]; exact LI j (by omega) (by omega)))
        · have h0 : ¬ ((k : Int)) < j := by omega
          rcases lc_up s j ((k : Int)) (by omega) h with g | ⟨g1, g2⟩
          · exact run_P4_D1 s  j (lc s ((k : Int)).toNat).1 (lc s ((k : Int)).toNat).2 (lc s j.toNat).1 (lc s j.toNat).2 w AW l hl LX k hk t hT h5 x1 x2 (lc_one s _).1 (lc_one s _).2 h0 h g (Lib.hid (LI (k : Int) x1 x2)) (Lib.hid (LI j (by omega) (by omega)))
          · exact run_P4_D2 s  j (lc s ((k : Int)).toNat).1 (lc s ((k : Int)).toNat).2 0 (lc s j.toNat).2 w AW l hl LX k hk t hT h5 x1 x2 (lc_one s _).1 (lc_one s _).2 h0 h g2 (Lib.hid (LI (k : Int) x1 x2)) (Lib.hid (by rw [← g1]; exact LI j (by omega) (by omega)))
      · exact run_P4_B s  j (lc s ((k : Int)).toNat).1 (lc s ((k : Int)).toNat).2 0 0 w AW l hl LX k hk t hT h5 x1 x2 (lc_one s _).1 (lc_one s _).2 (Lib.hid (LI (k : Int) x1 x2)) (Lib.hid (LO j (by omega)))
    · by_cases hj : 0 ≤ j ∧ j ≤ (s.size : Int)
      · exact run_P4_A4 s  j 0 0 (lc s j.toNat).1 (lc s j.toNat).2 w AW l hl LX k hk t hT h5 x1 x2 (Lib.hid (LO (k : Int) (by omega))) (Lib.hid (LI j (by omega) (by omega)))
      · exact run_P4_A3 s  j 0 0 0 0 w AW l hl LX k hk t hT h5 x1 x2 (Lib.hid (LO (k : Int) (by omega))) (Lib.hid (LO j (by omega)))
  · exact absurd (Int.natCast_nonneg k) x1

set_option maxRecDepth 100000 in
set_option maxHeartbeats 1600000 in
theorem fin_P5 (s : ByteArray) (j : Int) (w : World) (AW : Hid (Calls Tryd.prog 10 #[] w fun e w' => e = .returned (.bool true) ∧ Below w.heap.size w w'))
    (l : List To) (hl : l.length ≤ 131072) (LX : Hid (∀ w1, Below w.heap.size w w1 → Calls Tryd.prog 11 #[.string s] w1 fun r w' => ∃ o q, r = .returned (.tuple #[.slice o l.length q, .int .i64 0, .int .i64 0]) ∧ Row w' o l ∧ Below w1.heap.size w1 w')) (k : Nat) (hk : k < l.length) (t : To) (hT : l[k] = t) (h5 : t.ofs ≤ j) (h6 : ¬ j < t.en)
    (LO : ∀ x : Int, x < 0 ∨ (s.size : Int) < x → ∀ w1 : World, Calls Tryd.prog 16 #[.string s, .int .i64 x] w1 fun e w' => e = .returned (.tuple #[.int .i64 0, .int .i64 0, .int .i64 1]) ∧ w1 = w')
    (LI : ∀ x : Int, 0 ≤ x → x ≤ (s.size : Int) → ∀ w1 : World, Calls Tryd.prog 16 #[.string s, .int .i64 x] w1 fun e w' => e = .returned (.tuple #[.int .i64 (lc s x.toNat).1, .int .i64 (lc s x.toNat).2, .int .i64 0]) ∧ w1 = w') :
    Calls Tryd.prog 5 #[.string s, .int .i64 (k : Int), .int .i64 j] w fun e w' => e = .returned (.bool true) ∧ Below w.heap.size w w' := by
  by_cases x1 : 0 ≤ (k : Int)
  · by_cases x2 : (k : Int) ≤ (s.size : Int)
    · by_cases hj : 0 ≤ j ∧ j ≤ (s.size : Int)
      · rcases Int.lt_trichotomy ((k : Int)) j with h | h | h
        · rcases lc_up s ((k : Int)) j x1 h with g | ⟨g1, g2⟩
          · exact run_P5_C1 s  j (lc s ((k : Int)).toNat).1 (lc s ((k : Int)).toNat).2 (lc s j.toNat).1 (lc s j.toNat).2 w AW l hl LX k hk t hT h5 h6 x1 x2 (lc_one s _).1 (lc_one s _).2 h g (Lib.hid (LI (k : Int) x1 x2)) (Lib.hid (LI j (by omega) (by omega)))
          · exact run_P5_C2 s  j (lc s ((k : Int)).toNat).1 (lc s ((k : Int)).toNat).2 0 (lc s j.toNat).2 w AW l hl LX k hk t hT h5 h6 x1 x2 (lc_one s _).1 (lc_one s _).2 h g2 (Lib.hid (LI (k : Int) x1 x2)) (Lib.hid (by rw [g1]; exact LI j (by omega) (by omega)))
        · have h0 : ¬ ((k : Int)) < j := by omega
          have h1 : ¬ j < ((k : Int)) := by omega
          exact run_P5_E s  j (lc s ((k : Int)).toNat).1 (lc s ((k : Int)).toNat).2 0 0 w AW l hl LX k hk t hT h5 h6 x1 x2 (lc_one s _).1 (lc_one s _).2 h0 h1 (Lib.hid (LI (k : Int) x1 x2)) (Lib.hid (by rw [h]; exact LI j (by omega) (by omega)))
        · have h0 : ¬ ((k : Int)) < j := by omega
          rcases lc_up s j ((k : Int)) (by omega) h with g | ⟨g1, g2⟩
          · exact run_P5_D1 s  j (lc s ((k : Int)).toNat).1 (lc s ((k : Int)).toNat).2 (lc s j.toNat).1 (lc s j.toNat).2 w AW l hl LX k hk t hT h5 h6 x1 x2 (lc_one s _).1 (lc_one s _).2 h0 h g (Lib.hid (LI (k : Int) x1 x2)) (Lib.hid (LI j (by omega) (by omega)))
          · exact run_P5_D2 s  j (lc s ((k : Int)).toNat).1 (lc s ((k : Int)).toNat).2 0 (lc s j.toNat).2 w AW l hl LX k hk t hT h5 h6 x1 x2 (lc_one s _).1 (lc_one s _).2 h0 h g2 (Lib.hid (LI (k : Int) x1 x2)) (Lib.hid (by rw [← g1]; exact LI j (by omega) (by omega)))
      · exact run_P5_B s  j (lc s ((k : Int)).toNat).1 (lc s ((k : Int)).toNat).2 0 0 w AW l hl LX k hk t hT h5 h6 x1 x2 (lc_one s _).1 (lc_one s _).2 (Lib.hid (LI (k : Int) x1 x2)) (Lib.hid (LO j (by omega)))
    · by_cases hj : 0 ≤ j ∧ j ≤ (s.size : Int)
      · exact run_P5_A4 s  j 0 0 (lc s j.toNat).1 (lc s j.toNat).2 w AW l hl LX k hk t hT h5 h6 x1 x2 (Lib.hid (LO (k : Int) (by omega))) (Lib.hid (LI j (by omega) (by omega)))
      · exact run_P5_A3 s  j 0 0 0 0 w AW l hl LX k hk t hT h5 h6 x1 x2 (Lib.hid (LO (k : Int) (by omega))) (Lib.hid (LO j (by omega)))
  · exact absurd (Int.natCast_nonneg k) x1

set_option maxRecDepth 100000 in
set_option maxHeartbeats 1600000 in
theorem fin_P6 (s : ByteArray) (j : Int) (w : World) (AW : Hid (Calls Tryd.prog 10 #[] w fun e w' => e = .returned (.bool true) ∧ Below w.heap.size w w'))
    (l : List To) (hl : l.length ≤ 131072) (LX : Hid (∀ w1, Below w.heap.size w w1 → Calls Tryd.prog 11 #[.string s] w1 fun r w' => ∃ o q, r = .returned (.tuple #[.slice o l.length q, .int .i64 0, .int .i64 0]) ∧ Row w' o l ∧ Below w1.heap.size w1 w')) (k : Nat) (hk : k < l.length) (t : To) (hT : l[k] = t) (h5 : t.ofs ≤ j) (h6 : j < t.en) (hf : fndV l j 0 = .tuple #[.int .i64 k, .int .i64 0])
    (LO : ∀ x : Int, x < 0 ∨ (s.size : Int) < x → ∀ w1 : World, Calls Tryd.prog 16 #[.string s, .int .i64 x] w1 fun e w' => e = .returned (.tuple #[.int .i64 0, .int .i64 0, .int .i64 1]) ∧ w1 = w')
    (LI : ∀ x : Int, 0 ≤ x → x ≤ (s.size : Int) → ∀ w1 : World, Calls Tryd.prog 16 #[.string s, .int .i64 x] w1 fun e w' => e = .returned (.tuple #[.int .i64 (lc s x.toNat).1, .int .i64 (lc s x.toNat).2, .int .i64 0]) ∧ w1 = w') :
    Calls Tryd.prog 5 #[.string s, .int .i64 (k : Int), .int .i64 j] w fun e w' => e = .returned (.bool true) ∧ Below w.heap.size w w' := by
  by_cases x1 : 0 ≤ (k : Int)
  · by_cases x2 : (k : Int) ≤ (s.size : Int)
    · by_cases hj : 0 ≤ j ∧ j ≤ (s.size : Int)
      · rcases Int.lt_trichotomy ((k : Int)) j with h | h | h
        · rcases lc_up s ((k : Int)) j x1 h with g | ⟨g1, g2⟩
          · exact run_P6_C1 s  j (lc s ((k : Int)).toNat).1 (lc s ((k : Int)).toNat).2 (lc s j.toNat).1 (lc s j.toNat).2 w AW l hl LX k hk t hT h5 h6 hf x1 x2 (lc_one s _).1 (lc_one s _).2 h g (Lib.hid (LI (k : Int) x1 x2)) (Lib.hid (LI j (by omega) (by omega)))
          · exact run_P6_C2 s  j (lc s ((k : Int)).toNat).1 (lc s ((k : Int)).toNat).2 0 (lc s j.toNat).2 w AW l hl LX k hk t hT h5 h6 hf x1 x2 (lc_one s _).1 (lc_one s _).2 h g2 (Lib.hid (LI (k : Int) x1 x2)) (Lib.hid (by rw [g1]; exact LI j (by omega) (by omega)))
        · have h0 : ¬ ((k : Int)) < j := by omega
          have h1 : ¬ j < ((k : Int)) := by omega
          exact run_P6_E s  j (lc s ((k : Int)).toNat).1 (lc s ((k : Int)).toNat).2 0 0 w AW l hl LX k hk t hT h5 h6 hf x1 x2 (lc_one s _).1 (lc_one s _).2 h0 h1 (Lib.hid (LI (k : Int) x1 x2)) (Lib.hid (by rw [h]; exact LI j (by omega) (by omega)))
        · have h0 : ¬ ((k : Int)) < j := by omega
          rcases lc_up s j ((k : Int)) (by omega) h with g | ⟨g1, g2⟩
          · exact run_P6_D1 s  j (lc s ((k : Int)).toNat).1 (lc s ((k : Int)).toNat).2 (lc s j.toNat).1 (lc s j.toNat).2 w AW l hl LX k hk t hT h5 h6 hf x1 x2 (lc_one s _).1 (lc_one s _).2 h0 h g (Lib.hid (LI (k : Int) x1 x2)) (Lib.hid (LI j (by omega) (by omega)))
          · exact run_P6_D2 s  j (lc s ((k : Int)).toNat).1 (lc s ((k : Int)).toNat).2 0 (lc s j.toNat).2 w AW l hl LX k hk t hT h5 h6 hf x1 x2 (lc_one s _).1 (lc_one s _).2 h0 h g2 (Lib.hid (LI (k : Int) x1 x2)) (Lib.hid (by rw [← g1]; exact LI j (by omega) (by omega)))
      · exact run_P6_B s  j (lc s ((k : Int)).toNat).1 (lc s ((k : Int)).toNat).2 0 0 w AW l hl LX k hk t hT h5 h6 hf x1 x2 (lc_one s _).1 (lc_one s _).2 (Lib.hid (LI (k : Int) x1 x2)) (Lib.hid (LO j (by omega)))
    · by_cases hj : 0 ≤ j ∧ j ≤ (s.size : Int)
      · exact run_P6_A4 s  j 0 0 (lc s j.toNat).1 (lc s j.toNat).2 w AW l hl LX k hk t hT h5 h6 hf x1 x2 (Lib.hid (LO (k : Int) (by omega))) (Lib.hid (LI j (by omega) (by omega)))
      · exact run_P6_A3 s  j 0 0 0 0 w AW l hl LX k hk t hT h5 h6 hf x1 x2 (Lib.hid (LO (k : Int) (by omega))) (Lib.hid (LO j (by omega)))
  · exact absurd (Int.natCast_nonneg k) x1

/-- what Lex gives: an error and nothing, or tokens one behind the other -/
theorem lex_sum (s : ByteArray) (w : World) (ht1 : TabAt w w.heap.size 0 wordL) (ht2 : TabAt w w.heap.size 1 signL) (hP : re.P10 w) :
    (∃ er at_ : Int, (er == 0) = false ∧ ∀ w1, Below w.heap.size w w1 → Calls Tryd.prog 11 #[.string s] w1 fun r w' => r = .returned (.tuple #[.slice none 0 0, .int .i64 er, .int .i64 at_]) ∧ Below w1.heap.size w1 w') ∨
    (∃ l : List Tk, Ord l s.size ∧ l.length ≤ 131072 ∧ ∀ w1, Below w.heap.size w w1 → Calls Tryd.prog 11 #[.string s] w1 fun r w' => ∃ o q, r = .returned (.tuple #[.slice o (l.map Tk.to).length q, .int .i64 0, .int .i64 0]) ∧ Row w' o (l.map Tk.to) ∧ Below w1.heap.size w1 w') := by
  by_cases hs : s.size ≤ 1048576
  · have LA : ∀ w1, Below w.heap.size w w1 → Calls Tryd.prog 11 #[.string s] w1 (LexP w1 (scan (numN s) s (s.size + 1) 0 [])) := fun w1 h =>
      lex_all hs ((ht1.kept h (Nat.le_refl _)).mono h.size) ((ht2.kept h (Nat.le_refl _)).mono h.size) (hP.kept h (Nat.le_refl _))
    cases hr : scan (numN s) s (s.size + 1) 0 [] with
    | error x =>
      obtain ⟨e, i⟩ := x
      refine .inl ⟨e, i, ?_, fun w1 h => ?_⟩
      · have := scan_err (fun a e h => numN_err h) _ _ _ _ _ hr
        simpa using this
      · have := LA w1 h
        rw [hr] at this
        exact this.mono fun r w' ⟨hb, hv⟩ => ⟨hv, hb⟩
    | ok l =>
      have ho := scan_ord (nf := numN s) (s := s) (numN_ok s) _ _ _ _ (Nat.zero_le _) (by simp) ⟨by simp, List.Pairwise.nil⟩ hr
      refine .inr ⟨l, ho.1, ho.2, fun w1 h => ?_⟩
      have := LA w1 h
      rw [hr] at this
      refine this.mono fun r w' ⟨hb, v, hv, hw⟩ => ?_
      rw [← cells_to] at hw
      have hl : (l.map Tk.to).length = l.length := List.length_map _
      rcases hw.2 with ⟨h1, h0⟩ | ⟨g, cap, cur, h1, _⟩
      · subst h1
        obtain rfl : l = [] := List.eq_nil_of_length_eq_zero h0
        exact ⟨none, 0, by rw [hv]; rfl, fun i hi => absurd hi (by simp), hb⟩
      · subst h1
        have := Row.own hw
        exact ⟨_, _, by rw [hv, hl], this.1, hb⟩
  · exact .inl ⟨2, 0, by decide, fun w1 _ => lex_long (by omega)⟩

set_option maxHeartbeats 800000 in
theorem run (a0 : ByteArray) (a1 a2 : Int) (w : World) (w0 : a0.size ≤ maxLen) (w1 : (Lit.int .i64 a1).wf = true) (w2 : (Lit.int .i64 a2).wf = true) (hb : a0.size < 4611686018427387904) (ht1 : TabAt w w.heap.size 0 wordL) (ht2 : TabAt w w.heap.size 1 signL) (hP : re.P10 w) :
    Calls Tryd.prog 5 #[.string a0, .int .i64 a1, .int .i64 a2] w fun e w' => e = .returned (.bool true) ∧ Below w.heap.size w w' := by
  have AW := Lib.hid (awake_any w ht1 ht2)
  have LO : ∀ x : Int, x < 0 ∨ (a0.size : Int) < x → ∀ w1 : World, Calls Tryd.prog 16 #[.string a0, .int .i64 x] w1 fun e w' => e = .returned (.tuple #[.int .i64 0, .int .i64 0, .int .i64 1]) ∧ w1 = w' := fun x h w1 => line_out a0 x w1 h
  have LI : ∀ x : Int, 0 ≤ x → x ≤ (a0.size : Int) → ∀ w1 : World, Calls Tryd.prog 16 #[.string a0, .int .i64 x] w1 fun e w' => e = .returned (.tuple #[.int .i64 (lc a0 x.toNat).1, .int .i64 (lc a0 x.toNat).2, .int .i64 0]) ∧ w1 = w' := fun x h1 h2 w1 => by
    have := line_in a0 x.toNat w1 (by omega) hb
    rwa [Int.toNat_of_nonneg h1] at this
  rcases lex_sum a0 w ht1 ht2 hP with ⟨er, at_, he, LX⟩ | ⟨l, ho, hl, LX⟩
  · exact fin_P1 a0 a1 a2 w AW er at_ he (Lib.hid LX) LO LI
  · have hlm : (l.map Tk.to).length = l.length := List.length_map _
    have hl2 : (l.map Tk.to).length ≤ 131072 := by omega
    by_cases hp : 0 ≤ a1
    · by_cases hp2 : a1 < ((l.map Tk.to).length : Int)
      · obtain ⟨k, rfl⟩ : ∃ k : Nat, a1 = k := ⟨a1.toNat, by omega⟩
        have hk : k < (l.map Tk.to).length := by omega
        have hk2 : k < l.length := by omega
        have hT : (l.map Tk.to)[k] = (l[k]).to := List.getElem_map _
        by_cases h5 : ((l[k]).to).ofs ≤ a2
        · by_cases h6 : a2 < ((l[k]).to).en
          · refine fin_P6 a0 a2 w AW _ hl2 (Lib.hid LX) k hk _ hT h5 h6 ?_ LO LI
            unfold fndV
            rw [fnd_first ho hk2 h5 h6 k 0 (by omega)]
          · exact fin_P5 a0 a2 w AW _ hl2 (Lib.hid LX) k hk _ hT h5 h6 LO LI
        · exact fin_P4 a0 a2 w AW _ hl2 (Lib.hid LX) k hk _ hT h5 LO LI
      · exact fin_P3 a0 a1 a2 w AW _ hl2 (Lib.hid LX) hp hp2 LO LI
    · exact fin_P2 a0 a1 a2 w AW _ hl2 (Lib.hid LX) hp LO LI

end Go.Proofs.YtjohcikkigpogaaDoor.lexOffsets
