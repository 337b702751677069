/-
  LexParts: the ways.
-/
import Derived.Test.YtiekdgeopicceaaDoorLexShift
import Derived.Test.YtiekdgeopicceaaDoorLexEmb
import Derived.Test.YtiekdgeopicceaaDoorLex17
import Derived.WalkKit

namespace Go.Proofs.YtiekdgeopicceaaDoor.lexParts
open Go.RowKit
set_option linter.unusedVariables false

def endT (t : To) : Bool := t.kind == 1 && t.text.toList == [101, 110, 100]

theorem isEnd_any (t : To) (w : World) : Calls Tryd.prog 11 #[t.val] w fun r w' => r = .returned (.bool (endT t)) ∧ Below w.heap.size w w' := by
  have B1 := Lib.hid (show ∀ o, Below w.heap.size w (w.alloc o) from fun o => (Below.refl _ _).alloc (Nat.le_refl _) _)
  by_cases hk : t.kind = 1
  · go_enter Tryd.func11, Tryd.ntmps11
    go_wp2_with fail
    all_goals (go_ret; exact ⟨by simp [endT, *], B1.out _⟩)
  · go_enter Tryd.func11, Tryd.ntmps11
    go_wp2_with fail
    all_goals (go_ret; exact ⟨by simp [endT, *], B1.out _⟩)

set_option maxRecDepth 100000 in
set_option maxHeartbeats 1600000 in
theorem run_e1 (a b : ByteArray) (er at_ : Int) (he : (er != 0) = true) (w : World) (AW : Hid (Calls Tryd.prog 8 #[] w fun e w' => e = .returned (.bool true) ∧ Below w.heap.size w w')) (LX : Hid (∀ w1, Below w.heap.size w w1 → Calls Tryd.prog 9 #[.string a] w1 fun r w' => r = .returned (.tuple #[.slice none 0 0, .int .i64 er, .int .i64 at_]) ∧ Below w1.heap.size w1 w')) (LZ : Hid (∀ w1, Below w.heap.size w w1 → Calls Tryd.prog 9 #[.string b] w1 fun r w' => ∃ (o : Option Addr) (n q : Nat) (e i : Int), r = .returned (.tuple #[.slice o n q, .int .i64 e, .int .i64 i]) ∧ Below w1.heap.size w1 w')) :
    Calls Tryd.prog 4 #[.string a, .string b] w fun e w' => e = .returned (.bool true) ∧ Below w.heap.size w w' := by
  go_enter Tryd.func4, Tryd.ntmps4
  go_wp2_with fail
  refine AW.out.mono ?_
  rintro e w1 ⟨rfl, hb1⟩
  have B1 := Lib.hid hb1
  clear hb1
  go_wp2_with fail
  refine (LX.out w1 B1.out).mono ?_
  rintro e w2 ⟨rfl, hb2⟩
  have B2 := Lib.hid (B1.out.trans (hb2.mono B1.out.size))
  clear hb2
  go_wp2_with fail
  refine (LZ.out w2 B2.out).mono ?_
  rintro e w3 ⟨o, n, q, e2, i2, rfl, hb3⟩
  have B3 := Lib.hid (B2.out.trans (hb3.mono B2.out.size))
  clear hb3
  go_wp2_with fail
  go_ret
  exact ⟨rfl, B3.out⟩

set_option maxRecDepth 100000 in
set_option maxHeartbeats 1600000 in
theorem run_e2 (a b : ByteArray) (er at_ : Int) (he : (er != 0) = true) (l : List To) (hl : l.length ≤ 131072) (w : World) (AW : Hid (Calls Tryd.prog 8 #[] w fun e w' => e = .returned (.bool true) ∧ Below w.heap.size w w')) (LX : Hid (∀ w1, Below w.heap.size w w1 → Calls Tryd.prog 9 #[.string a] w1 fun r w' => ∃ o q, r = .returned (.tuple #[.slice o l.length q, .int .i64 0, .int .i64 0]) ∧ Row w' o l ∧ (o = none → q = 0) ∧ l.length ≤ q ∧ Below w1.heap.size w1 w')) (LZ : Hid (∀ w1, Below w.heap.size w w1 → Calls Tryd.prog 9 #[.string b] w1 fun r w' => r = .returned (.tuple #[.slice none 0 0, .int .i64 er, .int .i64 at_]) ∧ Below w1.heap.size w1 w')) :
    Calls Tryd.prog 4 #[.string a, .string b] w fun e w' => e = .returned (.bool true) ∧ Below w.heap.size w w' := by
  go_enter Tryd.func4, Tryd.ntmps4
  go_wp2_with fail
  refine AW.out.mono ?_
  rintro e w1 ⟨rfl, hb1⟩
  have B1 := Lib.hid hb1
  clear hb1
  go_wp2_with fail
  refine (LX.out w1 B1.out).mono ?_
  rintro e w2 ⟨o, q, rfl, hrow2, hnone2, hcap2, hb2⟩
  have RW2 := Lib.hid hrow2
  have NN2 := Lib.hid (And.intro hnone2 hcap2)
  have hb2' := Lib.hid hb2
  have B2 := Lib.hid (B1.out.trans (hb2.mono B1.out.size))
  clear hb2 hrow2 hnone2 hcap2
  go_wp2_with fail
  refine (LZ.out w2 B2.out).mono ?_
  rintro e w3 ⟨rfl, hb3⟩
  have B3 := Lib.hid (B2.out.trans (hb3.mono B2.out.size))
  clear hb3
  go_wp2_with fail
  go_ret
  exact ⟨rfl, B3.out⟩

set_option maxRecDepth 100000 in
set_option maxHeartbeats 1600000 in
theorem run_e3 (a b : ByteArray) (ha : a.size ≤ 1048576) (hb : b.size ≤ 1048576)  (l m : List To) (hl : l.length ≤ 131072) (hm : m.length ≤ 131072) (h1 : (1048576 : Int) ≤ (a.size : Int) + b.size) (w : World) (AW : Hid (Calls Tryd.prog 8 #[] w fun e w' => e = .returned (.bool true) ∧ Below w.heap.size w w')) (LX : Hid (∀ w1, Below w.heap.size w w1 → Calls Tryd.prog 9 #[.string a] w1 fun r w' => ∃ o q, r = .returned (.tuple #[.slice o l.length q, .int .i64 0, .int .i64 0]) ∧ Row w' o l ∧ (o = none → q = 0) ∧ l.length ≤ q ∧ Below w1.heap.size w1 w')) (LM : Hid (∀ w1, Below w.heap.size w w1 → Calls Tryd.prog 9 #[.string b] w1 fun r w' => ∃ o q, r = .returned (.tuple #[.slice o m.length q, .int .i64 0, .int .i64 0]) ∧ Row w' o m ∧ (o = none → q = 0) ∧ m.length ≤ q ∧ Below w1.heap.size w1 w')) :
    Calls Tryd.prog 4 #[.string a, .string b] w fun e w' => e = .returned (.bool true) ∧ Below w.heap.size w w' := by
  have ww1 : IntKind.i64.wrap ((a.size : Int) + b.size) = (a.size : Int) + b.size := wrap64 _ (by omega) (by omega)
  have ww2 : IntKind.i64.wrap ((l.length : Int) + m.length) = (l.length : Int) + m.length := wrap64 _ (by omega) (by omega)
  go_enter Tryd.func4, Tryd.ntmps4
  go_wp2_with fail
  refine AW.out.mono ?_
  rintro e w1 ⟨rfl, hb1⟩
  have B1 := Lib.hid hb1
  clear hb1
  go_wp2_with fail
  refine (LX.out w1 B1.out).mono ?_
  rintro e w2 ⟨o, q, rfl, hrow2, hnone2, hcap2, hb2⟩
  have RW2 := Lib.hid hrow2
  have NN2 := Lib.hid (And.intro hnone2 hcap2)
  have hb2' := Lib.hid hb2
  have B2 := Lib.hid (B1.out.trans (hb2.mono B1.out.size))
  clear hb2 hrow2 hnone2 hcap2
  go_wp2_with fail
  refine (LM.out w2 B2.out).mono ?_
  rintro e w3 ⟨o3, q3, rfl, hrow3, hnone3, hcap3, hb3⟩
  have RW3 := Lib.hid hrow3
  have NN3 := Lib.hid (And.intro hnone3 hcap3)
  have hb3' := Lib.hid hb3
  have B3 := Lib.hid (B2.out.trans (hb3.mono B2.out.size))
  clear hb3 hrow3 hnone3 hcap3
  go_wp2_with fail
  go_ret
  exact ⟨rfl, B3.out⟩

set_option maxRecDepth 100000 in
set_option maxHeartbeats 1600000 in
theorem run_e4 (a b : ByteArray) (ha : a.size ≤ 1048576) (hb : b.size ≤ 1048576)  (l m : List To) (hl : l.length ≤ 131072) (hm : m.length ≤ 131072) (h1 : ¬ (1048576 : Int) ≤ (a.size : Int) + b.size) (h2 : (131072 : Int) < (l.length : Int) + m.length) (w : World) (AW : Hid (Calls Tryd.prog 8 #[] w fun e w' => e = .returned (.bool true) ∧ Below w.heap.size w w')) (LX : Hid (∀ w1, Below w.heap.size w w1 → Calls Tryd.prog 9 #[.string a] w1 fun r w' => ∃ o q, r = .returned (.tuple #[.slice o l.length q, .int .i64 0, .int .i64 0]) ∧ Row w' o l ∧ (o = none → q = 0) ∧ l.length ≤ q ∧ Below w1.heap.size w1 w')) (LM : Hid (∀ w1, Below w.heap.size w w1 → Calls Tryd.prog 9 #[.string b] w1 fun r w' => ∃ o q, r = .returned (.tuple #[.slice o m.length q, .int .i64 0, .int .i64 0]) ∧ Row w' o m ∧ (o = none → q = 0) ∧ m.length ≤ q ∧ Below w1.heap.size w1 w')) :
    Calls Tryd.prog 4 #[.string a, .string b] w fun e w' => e = .returned (.bool true) ∧ Below w.heap.size w w' := by
  have ww1 : IntKind.i64.wrap ((a.size : Int) + b.size) = (a.size : Int) + b.size := wrap64 _ (by omega) (by omega)
  have ww2 : IntKind.i64.wrap ((l.length : Int) + m.length) = (l.length : Int) + m.length := wrap64 _ (by omega) (by omega)
  go_enter Tryd.func4, Tryd.ntmps4
  go_wp2_with fail
  refine AW.out.mono ?_
  rintro e w1 ⟨rfl, hb1⟩
  have B1 := Lib.hid hb1
  clear hb1
  go_wp2_with fail
  refine (LX.out w1 B1.out).mono ?_
  rintro e w2 ⟨o, q, rfl, hrow2, hnone2, hcap2, hb2⟩
  have RW2 := Lib.hid hrow2
  have NN2 := Lib.hid (And.intro hnone2 hcap2)
  have hb2' := Lib.hid hb2
  have B2 := Lib.hid (B1.out.trans (hb2.mono B1.out.size))
  clear hb2 hrow2 hnone2 hcap2
  go_wp2_with fail
  refine (LM.out w2 B2.out).mono ?_
  rintro e w3 ⟨o3, q3, rfl, hrow3, hnone3, hcap3, hb3⟩
  have RW3 := Lib.hid hrow3
  have NN3 := Lib.hid (And.intro hnone3 hcap3)
  have hb3' := Lib.hid hb3
  have B3 := Lib.hid (B2.out.trans (hb3.mono B2.out.size))
  clear hb3 hrow3 hnone3 hcap3
  go_wp2_with fail
  go_ret
  exact ⟨rfl, B3.out⟩

set_option maxRecDepth 100000 in
set_option maxHeartbeats 1600000 in
theorem run_e5 (a b : ByteArray) (ha : a.size ≤ 1048576) (hb : b.size ≤ 1048576)  (l m : List To) (hl : l.length ≤ 131072) (hm : m.length ≤ 131072) (h1 : ¬ (1048576 : Int) ≤ (a.size : Int) + b.size) (h2 : ¬ (131072 : Int) < (l.length : Int) + m.length)  (hn : 0 < l.length) (t : To) (hT : l[l.length - 1]'(by omega) = t)  (hE : endT t = true) (w : World) (AW : Hid (Calls Tryd.prog 8 #[] w fun e w' => e = .returned (.bool true) ∧ Below w.heap.size w w')) (LX : Hid (∀ w1, Below w.heap.size w w1 → Calls Tryd.prog 9 #[.string a] w1 fun r w' => ∃ o q, r = .returned (.tuple #[.slice o l.length q, .int .i64 0, .int .i64 0]) ∧ Row w' o l ∧ (o = none → q = 0) ∧ l.length ≤ q ∧ Below w1.heap.size w1 w')) (LM : Hid (∀ w1, Below w.heap.size w w1 → Calls Tryd.prog 9 #[.string b] w1 fun r w' => ∃ o q, r = .returned (.tuple #[.slice o m.length q, .int .i64 0, .int .i64 0]) ∧ Row w' o m ∧ (o = none → q = 0) ∧ m.length ≤ q ∧ Below w1.heap.size w1 w')) :
    Calls Tryd.prog 4 #[.string a, .string b] w fun e w' => e = .returned (.bool true) ∧ Below w.heap.size w w' := by
  have ww1 : IntKind.i64.wrap ((a.size : Int) + b.size) = (a.size : Int) + b.size := wrap64 _ (by omega) (by omega)
  have ww2 : IntKind.i64.wrap ((l.length : Int) + m.length) = (l.length : Int) + m.length := wrap64 _ (by omega) (by omega)
  have h3 : (0 : Int) < (l.length : Int) := by omega
  have ww3 : IntKind.i64.wrap ((l.length : Int) - 1) = ((l.length - 1 : Nat) : Int) := by rw [wrap64 _ (by omega) (by omega)]; omega
  have h4 : ((l.length - 1 : Nat) : Int) < (l.length : Int) := by omega
  have h5 : (0 : Int) ≤ ((l.length - 1 : Nat) : Int) := by omega
  have f1 : decide ((1048576 : Int) ≤ (a.size : Int) + b.size) = false := by simpa using h1
  have f2 : decide ((131072 : Int) < (l.length : Int) + m.length) = false := by simpa using h2
  clear h1 h2
  go_enter Tryd.func4, Tryd.ntmps4
  go_wp2_with fail
  refine AW.out.mono ?_
  rintro e w1 ⟨rfl, hb1⟩
  have B1 := Lib.hid hb1
  clear hb1
  go_wp2_with fail
  refine (LX.out w1 B1.out).mono ?_
  rintro e w2 ⟨o, q, rfl, hrow2, hnone2, hcap2, hb2⟩
  have RW2 := Lib.hid hrow2
  have NN2 := Lib.hid (And.intro hnone2 hcap2)
  have hb2' := Lib.hid hb2
  have B2 := Lib.hid (B1.out.trans (hb2.mono B1.out.size))
  clear hb2 hrow2 hnone2 hcap2
  go_wp2_with fail
  refine (LM.out w2 B2.out).mono ?_
  rintro e w3 ⟨o3, q3, rfl, hrow3, hnone3, hcap3, hb3⟩
  have RW3 := Lib.hid hrow3
  have NN3 := Lib.hid (And.intro hnone3 hcap3)
  have hb3' := Lib.hid hb3
  have B3 := Lib.hid (B2.out.trans (hb3.mono B2.out.size))
  clear hb3 hrow3 hnone3 hcap3
  obtain ⟨g, rfl, hx⟩ := (RW2.out.kept hb3'.out) (l.length - 1) (by omega)
  obtain ⟨lt, c0, c1, c2, c3, c4, c5, c6⟩ := hx
  rw [hT] at c0 c1 c2 c3 c4 c5 c6
  go_wp2_with fail
  refine (isEnd_any t w3).mono ?_
  rintro e w4 ⟨rfl, hb4⟩
  rw [hE]
  have B4 := Lib.hid (B3.out.trans (hb4.mono B3.out.size))
  have R1 := Lib.hid ((RW2.out.kept hb3'.out).kept hb4)
  have R2 := Lib.hid (RW3.out.kept hb4)
  clear hb4 c0 c1 c2 c3 c4 c5 c6 lt
  go_wp2_with fail
  go_ret
  exact ⟨rfl, B4.out⟩

set_option maxRecDepth 100000 in
set_option maxHeartbeats 1600000 in
theorem run_m2 (a b : ByteArray) (ha : a.size ≤ 1048576) (hb : b.size ≤ 1048576)  (l m : List To) (hl : l.length ≤ 131072) (hm : m.length ≤ 131072) (h1 : ¬ (1048576 : Int) ≤ (a.size : Int) + b.size) (h2 : ¬ (131072 : Int) < (l.length : Int) + m.length)  (hn : 0 < l.length) (t : To) (hT : l[l.length - 1]'(by omega) = t)  (hE : endT t = false) (BL : Hid (∀ t ∈ l, 0 ≤ t.ofs ∧ t.ofs ≤ 4194304 ∧ 0 ≤ t.en ∧ t.en ≤ 4194304)) (BM : Hid (∀ t ∈ m, 0 ≤ t.ofs ∧ t.ofs ≤ 4194304 ∧ 0 ≤ t.en ∧ t.en ≤ 4194304)) (d : Int) (hd : IntKind.i64.wrap ((a.size : Int) + 1) = d) (d0 : 0 ≤ d) (d1 : d ≤ 4194304) (x s : ByteArray) (s1 : ∀ w, (Op.stringOp .add a ⟨#[10]⟩).run Tryd.prog w = .ok (.string x) w) (s2 : ∀ w, (Op.stringOp .add x b).run Tryd.prog w = .ok (.string s) w)  (w : World) (AW : Hid (Calls Tryd.prog 8 #[] w fun e w' => e = .returned (.bool true) ∧ Below w.heap.size w w')) (LX : Hid (∀ w1, Below w.heap.size w w1 → Calls Tryd.prog 9 #[.string a] w1 fun r w' => ∃ o q, r = .returned (.tuple #[.slice o l.length q, .int .i64 0, .int .i64 0]) ∧ Row w' o l ∧ (o = none → q = 0) ∧ l.length ≤ q ∧ Below w1.heap.size w1 w')) (LM : Hid (∀ w1, Below w.heap.size w w1 → Calls Tryd.prog 9 #[.string b] w1 fun r w' => ∃ o q, r = .returned (.tuple #[.slice o m.length q, .int .i64 0, .int .i64 0]) ∧ Row w' o m ∧ (o = none → q = 0) ∧ m.length ≤ q ∧ Below w1.heap.size w1 w')) (LS : Hid (∀ w1, Below w.heap.size w w1 → Calls Tryd.prog 9 #[.string s] w1 fun r w' => ∃ o q, r = .returned (.tuple #[.slice o (l.map (To.sh 0) ++ m.map (To.sh d)).length q, .int .i64 0, .int .i64 0]) ∧ Row w' o (l.map (To.sh 0) ++ m.map (To.sh d)) ∧ (o = none → q = 0) ∧ (l.map (To.sh 0) ++ m.map (To.sh d)).length ≤ q ∧ Below w1.heap.size w1 w')) :
    Calls Tryd.prog 4 #[.string a, .string b] w fun e w' => e = .returned (.bool true) ∧ Below w.heap.size w w' := by
  obtain ⟨i0, hi0, hz0, hz1, hz2⟩ := info_parts info47
  have ww1 : IntKind.i64.wrap ((a.size : Int) + b.size) = (a.size : Int) + b.size := wrap64 _ (by omega) (by omega)
  have ww2 : IntKind.i64.wrap ((l.length : Int) + m.length) = (l.length : Int) + m.length := wrap64 _ (by omega) (by omega)
  have h3 : (0 : Int) < (l.length : Int) := by omega
  have ww3 : IntKind.i64.wrap ((l.length : Int) - 1) = ((l.length - 1 : Nat) : Int) := by rw [wrap64 _ (by omega) (by omega)]; omega
  have h4 : ((l.length - 1 : Nat) : Int) < (l.length : Int) := by omega
  have h5 : (0 : Int) ≤ ((l.length - 1 : Nat) : Int) := by omega
  have f1 : decide ((1048576 : Int) ≤ (a.size : Int) + b.size) = false := by simpa using h1
  have f2 : decide ((131072 : Int) < (l.length : Int) + m.length) = false := by simpa using h2
  clear h1 h2
  go_enter Tryd.func4, Tryd.ntmps4
  go_wp2_with fail
  refine AW.out.mono ?_
  rintro e w1 ⟨rfl, hb1⟩
  have B1 := Lib.hid hb1
  clear hb1
  go_wp2_with fail
  refine (LX.out w1 B1.out).mono ?_
  rintro e w2 ⟨o, q, rfl, hrow2, hnone2, hcap2, hb2⟩
  have RW2 := Lib.hid hrow2
  have NN2 := Lib.hid (And.intro hnone2 hcap2)
  have hb2' := Lib.hid hb2
  have B2 := Lib.hid (B1.out.trans (hb2.mono B1.out.size))
  clear hb2 hrow2 hnone2 hcap2
  go_wp2_with fail
  refine (LM.out w2 B2.out).mono ?_
  rintro e w3 ⟨o3, q3, rfl, hrow3, hnone3, hcap3, hb3⟩
  have RW3 := Lib.hid hrow3
  have NN3 := Lib.hid (And.intro hnone3 hcap3)
  have hb3' := Lib.hid hb3
  have B3 := Lib.hid (B2.out.trans (hb3.mono B2.out.size))
  clear hb3 hrow3 hnone3 hcap3
  obtain ⟨g, rfl, hx⟩ := (RW2.out.kept hb3'.out) (l.length - 1) (by omega)
  obtain ⟨lt, c0, c1, c2, c3, c4, c5, c6⟩ := hx
  rw [hT] at c0 c1 c2 c3 c4 c5 c6
  go_wp2_with fail
  refine (isEnd_any t w3).mono ?_
  rintro e w4 ⟨rfl, hb4⟩
  rw [hE]
  have B4 := Lib.hid (B3.out.trans (hb4.mono B3.out.size))
  have R1 := Lib.hid ((RW2.out.kept hb3'.out).kept hb4)
  have R2 := Lib.hid (RW3.out.kept hb4)
  clear hb4 c0 c1 c2 c3 c4 c5 c6 lt
  go_wp2_with fail
  refine (shifted_any _ _ l 0 w4 R1.out hl (by omega) (by omega) BL.out).mono ?_
  rintro e w5 ⟨v1, rfl, hs1, ho1⟩
  obtain ⟨A1, c1, rfl⟩ := own7_slice ho1
  have R2b := Lib.hid (R2.out.kept hs1)
  have BA := Lib.hid (B4.out.trans (hs1.mono B4.out.size))
  have HO1 := Lib.hid ho1
  have zA := hs1.size
  clear hs1 ho1
  go_wp2_with fail
  refine (shifted_any _ _ m d w5 R2b.out hm d0 d1 BM.out).mono ?_
  rintro e w6 ⟨v2, rfl, hs2, ho2⟩
  obtain ⟨A2, c2, rfl⟩ := own7_slice ho2
  have HO1b := Lib.hid (show w6.ownsRow w4.heap.size 30 7 (.slice A1 l.length c1) l.length (cellsT (l.map (To.sh 0))) from HO1.out.kept (⟨hs2.os, hs2.tape, hs2.output, hs2.size, fun k hk _ => hs2.block k hk⟩ : w5.grownBy w6 none) (by cases (Value.slice A1 l.length c1).ownBlock <;> simp))
  have R3 := Lib.hid (Row.own ho2).1
  have N3 := Lib.hid (show A2 = none → m.length = 0 ∧ c2 = 0 from fun e => by
    rcases ho2.2 with ⟨h1, h2⟩ | ⟨g, cap, cur, h1, _⟩
    · injection h1 with _ _ h3; exact ⟨h2, h3⟩
    · injection h1 with h3; rw [e] at h3; cases h3)
  have BB := Lib.hid (BA.out.trans (hs2.mono BA.out.size))
  have zB := hs2.size
  clear hs2 ho2
  have hll : (l.map (To.sh 0)).length = l.length := List.length_map _
  have hml : (m.map (To.sh d)).length = m.length := List.length_map _
  go_wp2_with (first
    | (at_builtin
       refine wpl_toks _ rfl (.tmp 66) (.tmp 71) _ rfl w4.heap.size 30 i0 _ Tryd.underlying23 hi0 hz0 rfl hz1 hz2 (.slice A1 l.length c1) l.length (l.map (To.sh 0)) (m.map (To.sh d)) (by rfl) HO1b.out A2 m.length c2 (by rfl) hml R3.out N3.out (by omega) (by omega) ?_
       intro v3 w7 hown3 hg3
       obtain ⟨A3, c3, rfl⟩ := own7_slice hown3
       have BC := Lib.hid (show Below w.heap.size w w7 from BB.out.grown hg3 BB.out.size (fun g hg => Nat.le_trans B4.out.size (own7_ge HO1.out g hg)))
       have R4 := Lib.hid (Row.own hown3).1
       clear hown3 hg3))
  refine (LS.out w7 BC.out).mono ?_
  rintro e w8 ⟨o4, q4, rfl, hrow4, hnone4, hcap4, hb4⟩
  have RS := Lib.hid hrow4
  have R5 := Lib.hid (R4.out.kept hb4)
  have B4 := Lib.hid (BC.out.trans (hb4.mono BC.out.size))
  clear hb4 hrow4 hnone4 hcap4
  have hlen3 : (l.map (To.sh 0) ++ m.map (To.sh d)).length = l.length + m.length := by simp
  have EXA := Lib.hid (exact_any o4 A3 q4 c3 (l.map (To.sh 0) ++ m.map (To.sh d)) w8 RS.out R5.out (by omega))
  rw [hlen3] at EXA
  generalize (l.map (To.sh 0) ++ m.map (To.sh d)).length = nn at *
  subst hlen3
  go_wp2_with fail
  refine EXA.out.mono ?_
  rintro e w9 ⟨rfl, hb5⟩
  have B5 := Lib.hid (B4.out.trans (hb5.mono B4.out.size))
  clear hb5
  go_wp2_with fail
  go_ret
  exact ⟨rfl, B5.out⟩

set_option maxRecDepth 100000 in
set_option maxHeartbeats 1600000 in
theorem run_m1 (a b : ByteArray) (ha : a.size ≤ 1048576) (hb : b.size ≤ 1048576)  (l m : List To) (hl0 : l = []) (hl : l.length ≤ 131072) (hm : m.length ≤ 131072) (h1 : ¬ (1048576 : Int) ≤ (a.size : Int) + b.size) (h2 : ¬ (131072 : Int) < (l.length : Int) + m.length)  (BL : Hid (∀ t ∈ l, 0 ≤ t.ofs ∧ t.ofs ≤ 4194304 ∧ 0 ≤ t.en ∧ t.en ≤ 4194304)) (BM : Hid (∀ t ∈ m, 0 ≤ t.ofs ∧ t.ofs ≤ 4194304 ∧ 0 ≤ t.en ∧ t.en ≤ 4194304)) (d : Int) (hd : IntKind.i64.wrap ((a.size : Int) + 1) = d) (d0 : 0 ≤ d) (d1 : d ≤ 4194304) (x s : ByteArray) (s1 : ∀ w, (Op.stringOp .add a ⟨#[10]⟩).run Tryd.prog w = .ok (.string x) w) (s2 : ∀ w, (Op.stringOp .add x b).run Tryd.prog w = .ok (.string s) w)  (w : World) (AW : Hid (Calls Tryd.prog 8 #[] w fun e w' => e = .returned (.bool true) ∧ Below w.heap.size w w')) (LX : Hid (∀ w1, Below w.heap.size w w1 → Calls Tryd.prog 9 #[.string a] w1 fun r w' => ∃ o q, r = .returned (.tuple #[.slice o l.length q, .int .i64 0, .int .i64 0]) ∧ Row w' o l ∧ (o = none → q = 0) ∧ l.length ≤ q ∧ Below w1.heap.size w1 w')) (LM : Hid (∀ w1, Below w.heap.size w w1 → Calls Tryd.prog 9 #[.string b] w1 fun r w' => ∃ o q, r = .returned (.tuple #[.slice o m.length q, .int .i64 0, .int .i64 0]) ∧ Row w' o m ∧ (o = none → q = 0) ∧ m.length ≤ q ∧ Below w1.heap.size w1 w')) (LS : Hid (∀ w1, Below w.heap.size w w1 → Calls Tryd.prog 9 #[.string s] w1 fun r w' => ∃ o q, r = .returned (.tuple #[.slice o (l.map (To.sh 0) ++ m.map (To.sh d)).length q, .int .i64 0, .int .i64 0]) ∧ Row w' o (l.map (To.sh 0) ++ m.map (To.sh d)) ∧ (o = none → q = 0) ∧ (l.map (To.sh 0) ++ m.map (To.sh d)).length ≤ q ∧ Below w1.heap.size w1 w')) :
    Calls Tryd.prog 4 #[.string a, .string b] w fun e w' => e = .returned (.bool true) ∧ Below w.heap.size w w' := by
  obtain ⟨i0, hi0, hz0, hz1, hz2⟩ := info_parts info47
  have ww1 : IntKind.i64.wrap ((a.size : Int) + b.size) = (a.size : Int) + b.size := wrap64 _ (by omega) (by omega)
  have ww2 : IntKind.i64.wrap ((l.length : Int) + m.length) = (l.length : Int) + m.length := wrap64 _ (by omega) (by omega)
  have f1 : decide ((1048576 : Int) ≤ (a.size : Int) + b.size) = false := by simpa using h1
  have f2 : decide ((131072 : Int) < (l.length : Int) + m.length) = false := by simpa using h2
  clear h1 h2
  have h3 : ¬ (0 : Int) < (l.length : Int) := by rw [hl0]; decide
  clear hl0
  go_enter Tryd.func4, Tryd.ntmps4
  go_wp2_with fail
  refine AW.out.mono ?_
  rintro e w1 ⟨rfl, hb1⟩
  have B1 := Lib.hid hb1
  clear hb1
  go_wp2_with fail
  refine (LX.out w1 B1.out).mono ?_
  rintro e w2 ⟨o, q, rfl, hrow2, hnone2, hcap2, hb2⟩
  have RW2 := Lib.hid hrow2
  have NN2 := Lib.hid (And.intro hnone2 hcap2)
  have hb2' := Lib.hid hb2
  have B2 := Lib.hid (B1.out.trans (hb2.mono B1.out.size))
  clear hb2 hrow2 hnone2 hcap2
  go_wp2_with fail
  refine (LM.out w2 B2.out).mono ?_
  rintro e w3 ⟨o3, q3, rfl, hrow3, hnone3, hcap3, hb3⟩
  have RW3 := Lib.hid hrow3
  have NN3 := Lib.hid (And.intro hnone3 hcap3)
  have hb3' := Lib.hid hb3
  have B3 := Lib.hid (B2.out.trans (hb3.mono B2.out.size))
  clear hb3 hrow3 hnone3 hcap3
  have R1 := Lib.hid (RW2.out.kept hb3'.out)
  have R2 := RW3
  go_wp2_with fail
  refine (shifted_any _ _ l 0 w3 R1.out hl (by omega) (by omega) BL.out).mono ?_
  rintro e w4 ⟨v1, rfl, hs1, ho1⟩
  obtain ⟨A1, c1, rfl⟩ := own7_slice ho1
  have R2b := Lib.hid (R2.out.kept hs1)
  have BA := Lib.hid (B3.out.trans (hs1.mono B3.out.size))
  have HO1 := Lib.hid ho1
  have zA := hs1.size
  clear hs1 ho1
  go_wp2_with fail
  refine (shifted_any _ _ m d w4 R2b.out hm d0 d1 BM.out).mono ?_
  rintro e w5 ⟨v2, rfl, hs2, ho2⟩
  obtain ⟨A2, c2, rfl⟩ := own7_slice ho2
  have HO1b := Lib.hid (show w5.ownsRow w3.heap.size 30 7 (.slice A1 l.length c1) l.length (cellsT (l.map (To.sh 0))) from HO1.out.kept (⟨hs2.os, hs2.tape, hs2.output, hs2.size, fun k hk _ => hs2.block k hk⟩ : w4.grownBy w5 none) (by cases (Value.slice A1 l.length c1).ownBlock <;> simp))
  have R3 := Lib.hid (Row.own ho2).1
  have N3 := Lib.hid (show A2 = none → m.length = 0 ∧ c2 = 0 from fun e => by
    rcases ho2.2 with ⟨h1, h2⟩ | ⟨g, cap, cur, h1, _⟩
    · injection h1 with _ _ h3; exact ⟨h2, h3⟩
    · injection h1 with h3; rw [e] at h3; cases h3)
  have BB := Lib.hid (BA.out.trans (hs2.mono BA.out.size))
  have zB := hs2.size
  clear hs2 ho2
  have hll : (l.map (To.sh 0)).length = l.length := List.length_map _
  have hml : (m.map (To.sh d)).length = m.length := List.length_map _
  go_wp2_with (first
    | (at_builtin
       refine wpl_toks _ rfl (.tmp 66) (.tmp 71) _ rfl w3.heap.size 30 i0 _ Tryd.underlying23 hi0 hz0 rfl hz1 hz2 (.slice A1 l.length c1) l.length (l.map (To.sh 0)) (m.map (To.sh d)) (by rfl) HO1b.out A2 m.length c2 (by rfl) hml R3.out N3.out (by omega) (by omega) ?_
       intro v3 w6 hown3 hg3
       obtain ⟨A3, c3, rfl⟩ := own7_slice hown3
       have BC := Lib.hid (show Below w.heap.size w w6 from BB.out.grown hg3 BB.out.size (fun g hg => Nat.le_trans B3.out.size (own7_ge HO1.out g hg)))
       have R4 := Lib.hid (Row.own hown3).1
       clear hown3 hg3))
  refine (LS.out w6 BC.out).mono ?_
  rintro e w7 ⟨o4, q4, rfl, hrow4, hnone4, hcap4, hb4⟩
  have RS := Lib.hid hrow4
  have R5 := Lib.hid (R4.out.kept hb4)
  have B4 := Lib.hid (BC.out.trans (hb4.mono BC.out.size))
  clear hb4 hrow4 hnone4 hcap4
  have hlen3 : (l.map (To.sh 0) ++ m.map (To.sh d)).length = l.length + m.length := by simp
  have EXA := Lib.hid (exact_any o4 A3 q4 c3 (l.map (To.sh 0) ++ m.map (To.sh d)) w7 RS.out R5.out (by omega))
  rw [hlen3] at EXA
  generalize (l.map (To.sh 0) ++ m.map (To.sh d)).length = nn at *
  subst hlen3
  go_wp2_with fail
  refine EXA.out.mono ?_
  rintro e w8 ⟨rfl, hb5⟩
  have B5 := Lib.hid (B4.out.trans (hb5.mono B4.out.size))
  clear hb5
  go_wp2_with fail
  go_ret
  exact ⟨rfl, B5.out⟩

theorem last_end {l : List Tk} (hn : 0 < (l.map Tk.to).length) (h : endT ((l.map Tk.to)[(l.map Tk.to).length - 1]'(by omega)) = false) : ∀ u, l.getLast? = some u → ¬ isEndT u := by
  intro u hu ⟨h1, h2⟩
  have hl : (l.map Tk.to).length = l.length := List.length_map _
  have e : l[l.length - 1]? = some u := by rw [← List.getLast?_eq_getElem?]; exact hu
  have e2 : (l.map Tk.to)[(l.map Tk.to).length - 1]'(by omega) = u.to := by
    have e3 : (l.map Tk.to)[(l.map Tk.to).length - 1]? = some u.to := by rw [hl, List.getElem?_map, e]; rfl
    exact (List.getElem?_eq_some_iff.1 e3).2
  rw [e2] at h
  unfold endT at h
  simp [Tk.to, h1, h2] at h

set_option maxHeartbeats 800000 in
theorem run (a0 a1 : ByteArray) (w : World) (w0 : a0.size ≤ maxLen) (w1 : a1.size ≤ maxLen) (hb0 : a0.size < 4611686018427387904) (hb1 : a1.size < 4611686018427387904) (ht1 : TabAt w w.heap.size 0 wordL) (ht2 : TabAt w w.heap.size 1 signL) (hP : re.P10 w) :
    Calls Tryd.prog 4 #[.string a0, .string a1] w fun e w' => e = .returned (.bool true) ∧ Below w.heap.size w w' := by
  have AW := Lib.hid (awake_any w ht1 ht2)
  have LZ := Lib.hid (lex_some (s := a1) ht1 ht2 hP)
  by_cases hs0 : a0.size ≤ 1048576
  · cases hr0 : scan (numN a0) a0 (a0.size + 1) 0 [] with
    | error x =>
      obtain ⟨e, i⟩ := x
      exact run_e1 a0 a1 e i (by simpa using scan_err (fun a e h => numN_err h) _ _ _ _ _ hr0) w AW (Lib.hid (lex_bad hs0 ht1 ht2 hP hr0)) LZ
    | ok l =>
      have hl := tk_len (numN_good a0) hr0
      have ll : (l.map Tk.to).length = l.length := List.length_map _
      have LX := Lib.hid (lex_row hs0 ht1 ht2 hP hr0)
      have BL := Lib.hid (to_bd hs0 hr0)
      by_cases hs1 : a1.size ≤ 1048576
      · cases hr1 : scan (numN a1) a1 (a1.size + 1) 0 [] with
        | error x =>
          obtain ⟨e, i⟩ := x
          exact run_e2 a0 a1 e i (by simpa using scan_err (fun a e h => numN_err h) _ _ _ _ _ hr1) _ (by omega) w AW LX (Lib.hid (lex_bad hs1 ht1 ht2 hP hr1))
        | ok m =>
          have hm := tk_len (numN_good a1) hr1
          have lm : (m.map Tk.to).length = m.length := List.length_map _
          have LM := Lib.hid (lex_row hs1 ht1 ht2 hP hr1)
          have BM := Lib.hid (to_bd hs1 hr1)
          by_cases h1 : (1048576 : Int) ≤ (a0.size : Int) + a1.size
          · exact run_e3 a0 a1 hs0 hs1 _ _ (by omega) (by omega) h1 w AW LX LM
          · by_cases h2 : (131072 : Int) < ((l.map Tk.to).length : Int) + (m.map Tk.to).length
            · exact run_e4 a0 a1 hs0 hs1 _ _ (by omega) (by omega) h1 h2 w AW LX LM
            · have hd : IntKind.i64.wrap ((a0.size : Int) + 1) = ((a0.size + 1 : Nat) : Int) := by rw [wrap64 _ (by omega) (by omega)]; omega
              have z0 := Lib.size_eq a0
              have z1 := Lib.size_eq a1
              have s1 : ∀ w, (Op.stringOp .add a0 ⟨#[10]⟩).run Tryd.prog w = .ok (.string (re.bs (a0.data.toList ++ [10]))) w := fun w => by
                have h := cat_run a0.data.toList [10] (by simp only [List.length_cons, List.length_nil]; omega) w
                rw [bs_self] at h
                exact h
              have s2 : ∀ w, (Op.stringOp .add (re.bs (a0.data.toList ++ [10])) a1).run Tryd.prog w = .ok (.string (re.bs (a0.data.toList ++ 10 :: a1.data.toList))) w := fun w => by
                have h := cat_run (a0.data.toList ++ [10]) a1.data.toList (by simp only [List.length_append, List.length_cons, List.length_nil]; omega) w
                rw [bs_self, List.append_assoc] at h
                exact h
              have hsz : (re.bs (a0.data.toList ++ 10 :: a1.data.toList)).size ≤ 1048576 := by
                have : (re.bs (a0.data.toList ++ 10 :: a1.data.toList)).size = (a0.data.toList ++ 10 :: a1.data.toList).length := rfl
                rw [this, List.length_append, List.length_cons]
                omega
              have go : (∀ u, l.getLast? = some u → ¬ isEndT u) → ∀ w1, Below w.heap.size w w1 → Calls Tryd.prog 9 #[.string (re.bs (a0.data.toList ++ 10 :: a1.data.toList))] w1 fun r w' => ∃ o q, r = .returned (.tuple #[.slice o ((l.map Tk.to).map (To.sh 0) ++ (m.map Tk.to).map (To.sh ((a0.size + 1 : Nat) : Int))).length q, .int .i64 0, .int .i64 0]) ∧ Row w' o ((l.map Tk.to).map (To.sh 0) ++ (m.map Tk.to).map (To.sh ((a0.size + 1 : Nat) : Int))) ∧ (o = none → q = 0) ∧ ((l.map Tk.to).map (To.sh 0) ++ (m.map Tk.to).map (To.sh ((a0.size + 1 : Nat) : Int))).length ≤ q ∧ Below w1.heap.size w1 w' := fun hE => by
                have E1 : Emb a0 (re.bs (a0.data.toList ++ 10 :: a1.data.toList)) 0 0 a0.size := (bs10 a0 a1 rfl).1
                have E2 : Emb a1 (re.bs (a0.data.toList ++ 10 :: a1.data.toList)) 0 (a0.size + 1) a1.size := (bs10 a0 a1 rfl).2
                have hsc := parts (numN_good a0) (numN_good a1) (numN_good _) rfl (numN_emb E1) (numN_emb E2) hr0 hr1 (by omega) hE
                have h := lex_row hsz ht1 ht2 hP hsc
                have el : (l ++ m.map (Tk.mv 0 (a0.size + 1))).map Tk.to = (l.map Tk.to).map (To.sh 0) ++ (m.map Tk.to).map (To.sh ((a0.size + 1 : Nat) : Int)) := by
                  have eA : (l.map Tk.to).map (To.sh 0) = l.map Tk.to := by rw [List.map_map]; exact List.map_congr_left (fun u _ => to_sh0 u)
                  have eB : (m.map (Tk.mv 0 (a0.size + 1))).map Tk.to = (m.map Tk.to).map (To.sh ((a0.size + 1 : Nat) : Int)) := by rw [List.map_map, List.map_map]; exact List.map_congr_left (fun u _ => to_mv u _)
                  rw [List.map_append, eA, eB]
                rwa [el] at h
              by_cases hn : 0 < (l.map Tk.to).length
              · obtain ⟨t, hT⟩ : ∃ t, (l.map Tk.to)[(l.map Tk.to).length - 1]'(by omega) = t := ⟨_, rfl⟩
                cases hE : endT t
                · exact run_m2 a0 a1 hs0 hs1 _ _ (by omega) (by omega) h1 h2 hn t hT hE BL BM _ hd (by omega) (by omega) _ _ s1 s2 w AW LX LM (Lib.hid (go (last_end hn (by rw [hT]; exact hE))))
                · exact run_e5 a0 a1 hs0 hs1 _ _ (by omega) (by omega) h1 h2 hn t hT hE w AW LX LM
              · have hl0 : l = [] := List.eq_nil_of_length_eq_zero (by omega)
                exact run_m1 a0 a1 hs0 hs1 _ _ (by rw [hl0]; rfl) (by omega) (by omega) h1 h2 BL BM _ hd (by omega) (by omega) _ _ s1 s2 w AW LX LM (Lib.hid (go (fun u hu => by rw [hl0] at hu; cases hu)))
      · exact run_e2 a0 a1 2 0 (by decide) _ (by omega) w AW LX (Lib.hid fun w1 _ => lex_long (by omega))
  · exact run_e1 a0 a1 2 0 (by decide) w AW (Lib.hid fun w1 _ => lex_long (by omega)) LZ

end Go.Proofs.YtiekdgeopicceaaDoor.lexParts
