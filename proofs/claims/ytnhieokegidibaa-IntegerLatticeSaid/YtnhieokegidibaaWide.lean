/-
  THE EXAMPLES ON SPANS that stand in every statement on spans.
-/
import Derived.Test.YtnhieokegidibaaSpanOp

namespace Go.Proofs.Ytnhieokegidibaa
open Go.RowKit

set_option maxRecDepth 100000 in
set_option maxHeartbeats 1600000 in
theorem wide_any (w : World) :
    Calls Try.prog 19 #[] w fun e w' => e = .returned (.bool true) ∧ Below w.heap.size w w' := by
  go_enter Try.func19, Try.ntmps19
  go_wp2_with fail
  refine (smul_any _ _ _ _ _).mono ?_
  rintro e w1 ⟨rfl, hb1⟩
  rw [show opL (-3) 4 2 5 (mulF (-3) 4 2 5) = -15 from rfl, show opH (-3) 4 2 5 (mulF (-3) 4 2 5) = 20 from rfl, show opM (-3) 4 2 5 (mulF (-3) 4 2 5) = false from rfl, show opE (-3) 4 2 5 (mulF (-3) 4 2 5) = 0 from rfl]
  have HB1 := Lib.hid hb1
  have hz1 := hb1.size
  clear hb1
  go_wp2_with fail
  refine (sadd_any _ _ _ _ _).mono ?_
  rintro e w2 ⟨rfl, hb2⟩
  rw [show opL 0 2147483647 1 1 (addF 0 2147483647 1 1) = 1 from rfl, show opH 0 2147483647 1 1 (addF 0 2147483647 1 1) = 2147483647 from rfl, show opM 0 2147483647 1 1 (addF 0 2147483647 1 1) = true from rfl, show opE 0 2147483647 1 1 (addF 0 2147483647 1 1) = 0 from rfl]
  have a0 : w2.cell? ⟨w1.heap.size, 0, none⟩ = some (.int .i64 (-15)) := carry hb2 (by go_simp)
  have a1 : w2.cell? ⟨w1.heap.size, 1, none⟩ = some (.int .i64 20) := carry hb2 (by go_simp)
  have HB2 := Lib.hid ((HB1.out.alloc hz1 (.cells #[.int .i64 (-15), .int .i64 20] 23)).trans (hb2.mono (by simp; omega)))
  have hz2 : w1.heap.size < w2.heap.size := by have := hb2.size; simp at this; omega
  clear hb2 HB1
  go_wp2_with fail
  refine (sjoin_any _ _ _ _ _).mono ?_
  rintro e w3 ⟨rfl, hb3⟩
  rw [show joinL 1 2 7 8 = 1 from rfl, show joinH 1 2 7 8 = 8 from rfl, show joinE 1 2 7 8 = 0 from rfl]
  have b0 : w3.cell? ⟨w2.heap.size, 0, none⟩ = some (.int .i64 1) := carry hb3 (by go_simp)
  have b1 : w3.cell? ⟨w2.heap.size, 1, none⟩ = some (.int .i64 2147483647) := carry hb3 (by go_simp)
  have a0 : w3.cell? ⟨w1.heap.size, 0, none⟩ = some (.int .i64 (-15)) := carry hb3 (by go_simp)
  have a1 : w3.cell? ⟨w1.heap.size, 1, none⟩ = some (.int .i64 20) := carry hb3 (by go_simp)
  have HB3 := Lib.hid ((HB2.out.alloc (by omega) (.cells #[.int .i64 1, .int .i64 2147483647] 23)).trans (hb3.mono (by simp; omega)))
  have hz3 : w2.heap.size < w3.heap.size := by have := hb3.size; simp at this; omega
  have hz13 : w1.heap.size < w3.heap.size := by omega
  clear hb3 HB2
  go_wp2_with fail
  go_ret
  exact ⟨rfl, HB3.out.alloc (by omega) _⟩

end Go.Proofs.Ytnhieokegidibaa
