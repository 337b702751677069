/-
  THE DOCUMENT'S OWN ANSWERS ON SPANS: opposites, sums, differences, products.
-/
import Derived.Test.YtnhieokegidibaaRSpan
import Derived.Lib.SmallJoins
import Derived.Deep.QuietTactic
import Derived.BigQuiet

namespace Go.Proofs.Ytnhieokegidibaa
open Go.RowKit

theorem low4_add {la ua lb ub : Int} (h1 : la ≤ ua) (h2 : lb ≤ ub) : low4 (addF la ua lb ub) = la + lb ∧ high4 (addF la ua lb ub) = ua + ub := by
  unfold low4 high4 addF mn mx
  simp only [cond_true, cond_false]
  refine ⟨?_, ?_⟩ <;> (repeat' split) <;> omega
theorem low4_sub {la ua lb ub : Int} (h1 : la ≤ ua) (h2 : lb ≤ ub) : low4 (subF la ua lb ub) = la - ub ∧ high4 (subF la ua lb ub) = ua - lb := by
  unfold low4 high4 subF mn mx
  simp only [cond_true, cond_false]
  refine ⟨?_, ?_⟩ <;> (repeat' split) <;> omega

set_option maxRecDepth 100000 in
set_option maxHeartbeats 1600000 in
theorem rcut_any (l h : Int) (w : World) (b1 : -9223372036854775808 ≤ l) (b2 : l ≤ 9223372036854775807) (b3 : -9223372036854775808 ≤ h) (b4 : h ≤ 9223372036854775807) :
    Calls Try.prog 34 #[.int .i64 l, .int .i64 h] w fun e w' => e = .returned (opV (cutL l h) (cutH l h) (cutM l h) (cutE l h)) ∧ Below w.heap.size w w' := by
  have B0 : ∀ o1 : Obj, Below w.heap.size w (w.alloc o1) := fun _ => (Below.refl _ _).alloc (Nat.le_refl _) _
  have HBB := Lib.hid B0
  clear B0
  rcases (by omega : 2147483647 < l ∨ (l ≤ 2147483647 ∧ h < -2147483647) ∨ (l ≤ 2147483647 ∧ -2147483647 ≤ h)) with k | ⟨k1, k⟩ | ⟨k1, k2⟩
  · have H := Lib.hid (show cutL l h = 0 ∧ cutH l h = 0 ∧ cutM l h = false ∧ cutE l h = 3 from by
      have hk : okC l h = false := by simp [okC]; omega
      simp [cutL, cutH, cutM, cutE, hk])
    go_enter Try.func34, Try.ntmps34
    go_wp2_with fail
    refine bodyPost_ret (v := opV (0) (0) (false) (3)) ?_ rfl ⟨by rw [H.out.1, H.out.2.1, H.out.2.2.1, H.out.2.2.2], ?_⟩
    · simp [results, Try.results34, go_sem] <;> omega
    · exact HBB.out _
  · have H := Lib.hid (show cutL l h = 0 ∧ cutH l h = 0 ∧ cutM l h = false ∧ cutE l h = 3 from by
      have hk : okC l h = false := by simp [okC]; omega
      simp [cutL, cutH, cutM, cutE, hk])
    go_enter Try.func34, Try.ntmps34
    go_wp2_with fail
    refine bodyPost_ret (v := opV (0) (0) (false) (3)) ?_ rfl ⟨by rw [H.out.1, H.out.2.1, H.out.2.2.1, H.out.2.2.2], ?_⟩
    · simp [results, Try.results34, go_sem] <;> omega
    · exact HBB.out _
  rcases (by omega : -2147483647 ≤ l ∨ l < -2147483647) with k3 | k3 <;> rcases (by omega : h ≤ 2147483647 ∨ 2147483647 < h) with k4 | k4
  · have H := Lib.hid (show cutL l h = l ∧ cutH l h = h ∧ cutM l h = false ∧ cutE l h = 0 from by
      have hk : okC l h = true := by simp [okC]; omega
      refine ⟨?_, ?_, ?_, ?_⟩
      · simp only [cutL, hk, if_true]; unfold mx; split <;> omega
      · simp only [cutH, hk, if_true]; unfold mn; split <;> omega
      · simp [cutM, hk]; omega
      · simp [cutE, hk])
    go_enter Try.func34, Try.ntmps34
    go_wp2_with fail
    refine bodyPost_ret (v := opV (l) (h) (false) (0)) ?_ rfl ⟨by rw [H.out.1, H.out.2.1, H.out.2.2.1, H.out.2.2.2], ?_⟩
    · simp [results, Try.results34, go_sem] <;> omega
    · exact HBB.out _
  · have H := Lib.hid (show cutL l h = l ∧ cutH l h = 2147483647 ∧ cutM l h = true ∧ cutE l h = 0 from by
      have hk : okC l h = true := by simp [okC]; omega
      refine ⟨?_, ?_, ?_, ?_⟩
      · simp only [cutL, hk, if_true]; unfold mx; split <;> omega
      · simp only [cutH, hk, if_true]; unfold mn; split <;> omega
      · simp [cutM, hk]; omega
      · simp [cutE, hk])
    go_enter Try.func34, Try.ntmps34
    go_wp2_with fail
    refine bodyPost_ret (v := opV (l) (2147483647) (true) (0)) ?_ rfl ⟨by rw [H.out.1, H.out.2.1, H.out.2.2.1, H.out.2.2.2], ?_⟩
    · simp [results, Try.results34, go_sem] <;> omega
    · exact HBB.out _
  · have H := Lib.hid (show cutL l h = -2147483647 ∧ cutH l h = h ∧ cutM l h = true ∧ cutE l h = 0 from by
      have hk : okC l h = true := by simp [okC]; omega
      refine ⟨?_, ?_, ?_, ?_⟩
      · simp only [cutL, hk, if_true]; unfold mx; split <;> omega
      · simp only [cutH, hk, if_true]; unfold mn; split <;> omega
      · simp [cutM, hk]; omega
      · simp [cutE, hk])
    go_enter Try.func34, Try.ntmps34
    go_wp2_with fail
    refine bodyPost_ret (v := opV (-2147483647) (h) (true) (0)) ?_ rfl ⟨by rw [H.out.1, H.out.2.1, H.out.2.2.1, H.out.2.2.2], ?_⟩
    · simp [results, Try.results34, go_sem] <;> omega
    · exact HBB.out _
  · have H := Lib.hid (show cutL l h = -2147483647 ∧ cutH l h = 2147483647 ∧ cutM l h = true ∧ cutE l h = 0 from by
      have hk : okC l h = true := by simp [okC]; omega
      refine ⟨?_, ?_, ?_, ?_⟩
      · simp only [cutL, hk, if_true]; unfold mx; split <;> omega
      · simp only [cutH, hk, if_true]; unfold mn; split <;> omega
      · simp [cutM, hk]; omega
      · simp [cutE, hk])
    go_enter Try.func34, Try.ntmps34
    go_wp2_with fail
    refine bodyPost_ret (v := opV (-2147483647) (2147483647) (true) (0)) ?_ rfl ⟨by rw [H.out.1, H.out.2.1, H.out.2.2.1, H.out.2.2.2], ?_⟩
    · simp [results, Try.results34, go_sem] <;> omega
    · exact HBB.out _

theorem rcut_is {l h L U : Int} (hl : L = l) (hh : U = h) (w : World) (b1 : -9223372036854775808 ≤ l) (b2 : l ≤ 9223372036854775807) (b3 : -9223372036854775808 ≤ h) (b4 : h ≤ 9223372036854775807) :
    Calls Try.prog 34 #[.int .i64 l, .int .i64 h] w fun e w' => e = .returned (opV (cutL L U) (cutH L U) (cutM L U) (cutE L U)) ∧ Below w.heap.size w w' := by
  subst hl hh
  exact rcut_any _ _ w b1 b2 b3 b4

set_option maxRecDepth 100000 in
set_option maxHeartbeats 1600000 in
theorem rsneg_any (la ua : Int) (w : World) :
    Calls Try.prog 8 #[spanV la ua] w fun e w' => e = .returned (spE (negL la ua) (negH la ua) (negE la ua)) ∧ Below w.heap.size w w' := by
  go_enter Try.func8, Try.ntmps8
  go_wp2_with fail
  refine (rvspan_any _ _ _).mono ?_
  rintro e w1 ⟨rfl, hb1⟩
  have a0 : w1.cell? ⟨w.heap.size, 0, none⟩ = some (.int .i64 la) := carry hb1 (by go_simp)
  have a1 : w1.cell? ⟨w.heap.size, 1, none⟩ = some (.int .i64 ua) := carry hb1 (by go_simp)
  have r0 : w1.cell? ⟨w.heap.size + 1, 0, none⟩ = some (.int .i64 0) := carry hb1 (by go_simp)
  have r1 : w1.cell? ⟨w.heap.size + 1, 1, none⟩ = some (.int .i64 0) := carry hb1 (by go_simp)
  have f0 : w1.frozen? ⟨w.heap.size + 1, 0, none⟩ = false := carryF hb1 (v := .int .i64 0) (by go_simp) (by go_simp)
  have f1 : w1.frozen? ⟨w.heap.size + 1, 1, none⟩ = false := carryF hb1 (v := .int .i64 0) (by go_simp) (by go_simp)
  have hz1 : w.heap.size + 1 < w1.heap.size := by have := hb1.size; simp at this; omega
  have HBB := Lib.hid ((by repeat (first | exact Below.refl _ _ | refine Below.alloc ?_ (by simp <;> omega) _) : Below w.heap.size w _).trans (hb1.mono (by simp <;> omega)))
  clear hb1
  cases hv : vsp la ua
  · have H := Lib.hid (show negL la ua = 0 ∧ negH la ua = 0 ∧ negE la ua = 1 from by simp [negL, negH, negE, hv])
    clear hv
    go_wp2_with fail
    refine bodyPost_ret (v := spE (0) (0) (1)) ?_ rfl ⟨by rw [H.out.1, H.out.2.1, H.out.2.2], ?_⟩
    · simp [results, Try.results8, go_sem, r0, r1]
    · exact (HBB.out.setCell (p := ⟨w.heap.size + 1, 0, none⟩) (by show w.heap.size ≤ w.heap.size + 1; omega) _).setCell (p := ⟨w.heap.size + 1, 1, none⟩) (by show w.heap.size ≤ w.heap.size + 1; omega) _
  · have H := Lib.hid (show negL la ua = -ua ∧ negH la ua = -la ∧ negE la ua = 0 from by simp [negL, negH, negE, hv])
    have ⟨⟨k1, k2⟩, ⟨k3, k4⟩, _⟩ := vsp_iff.1 hv
    clear hv
    go_wp2_with fail
    refine bodyPost_ret (v := spE (-ua) (-la) (0)) ?_ rfl ⟨by rw [H.out.1, H.out.2.1, H.out.2.2], ?_⟩
    · simp [results, Try.results8, go_sem, r0, r1]
    · exact (HBB.out.setCell (p := ⟨w.heap.size + 1, 0, none⟩) (by show w.heap.size ≤ w.heap.size + 1; omega) _).setCell (p := ⟨w.heap.size + 1, 1, none⟩) (by show w.heap.size ≤ w.heap.size + 1; omega) _

set_option maxRecDepth 100000 in
set_option maxHeartbeats 1600000 in
theorem rsadd_any (la ua lb ub : Int) (w : World) :
    Calls Try.prog 12 #[spanV la ua, spanV lb ub] w fun e w' => e = .returned (opV (opL la ua lb ub (addF la ua lb ub)) (opH la ua lb ub (addF la ua lb ub)) (opM la ua lb ub (addF la ua lb ub)) (opE la ua lb ub (addF la ua lb ub))) ∧ Below w.heap.size w w' := by
  go_enter Try.func12, Try.ntmps12
  go_wp2_with fail
  refine (rvspan_any _ _ _).mono ?_
  rintro e w1 ⟨rfl, hb1⟩
  have a0 : w1.cell? ⟨w.heap.size, 0, none⟩ = some (.int .i64 la) := carry hb1 (by go_simp)
  have a1 : w1.cell? ⟨w.heap.size, 1, none⟩ = some (.int .i64 ua) := carry hb1 (by go_simp)
  have b0 : w1.cell? ⟨w.heap.size + 1, 0, none⟩ = some (.int .i64 lb) := carry hb1 (by go_simp)
  have b1 : w1.cell? ⟨w.heap.size + 1, 1, none⟩ = some (.int .i64 ub) := carry hb1 (by go_simp)
  have r0 : w1.cell? ⟨w.heap.size + 1 + 1, 0, none⟩ = some (.int .i64 0) := carry hb1 (by go_simp)
  have r1 : w1.cell? ⟨w.heap.size + 1 + 1, 1, none⟩ = some (.int .i64 0) := carry hb1 (by go_simp)
  have f0 : w1.frozen? ⟨w.heap.size + 1 + 1, 0, none⟩ = false := carryF hb1 (v := .int .i64 0) (by go_simp) (by go_simp)
  have f1 : w1.frozen? ⟨w.heap.size + 1 + 1, 1, none⟩ = false := carryF hb1 (v := .int .i64 0) (by go_simp) (by go_simp)
  have hz1 : w.heap.size + 1 + 1 < w1.heap.size := by have := hb1.size; simp at this; omega
  have HBB := Lib.hid ((by repeat (first | exact Below.refl _ _ | refine Below.alloc ?_ (by simp <;> omega) _) : Below w.heap.size w _).trans (hb1.mono (by simp <;> omega)))
  clear hb1
  cases hva : vsp la ua
  · have hbs : bsp la ua lb ub = false := by simp [bsp, hva]
    have H := Lib.hid (show opL la ua lb ub (addF la ua lb ub) = 0 ∧ opH la ua lb ub (addF la ua lb ub) = 0 ∧ opM la ua lb ub (addF la ua lb ub) = false ∧ opE la ua lb ub (addF la ua lb ub) = 1 from by simp [opL, opH, opM, opE, hbs])
    clear hbs
    go_wp2_with fail
    refine bodyPost_ret (v := opV 0 0 false 1) ?_ rfl ⟨by rw [H.out.1, H.out.2.1, H.out.2.2.1, H.out.2.2.2], ?_⟩
    · simp [results, Try.results12, go_sem, r0, r1]
    · exact (HBB.out.setCell (p := ⟨w.heap.size + 1 + 1, 0, none⟩) (by show w.heap.size ≤ w.heap.size + 1 + 1; omega) _).setCell (p := ⟨w.heap.size + 1 + 1, 1, none⟩) (by show w.heap.size ≤ w.heap.size + 1 + 1; omega) _
  · go_wp2_with fail
    refine (rvspan_any _ _ _).mono ?_
    rintro e w2 ⟨rfl, hb2⟩
    have a0 : w2.cell? ⟨w.heap.size, 0, none⟩ = some (.int .i64 la) := carry hb2 a0
    have a1 : w2.cell? ⟨w.heap.size, 1, none⟩ = some (.int .i64 ua) := carry hb2 a1
    have b0 : w2.cell? ⟨w.heap.size + 1, 0, none⟩ = some (.int .i64 lb) := carry hb2 b0
    have b1 : w2.cell? ⟨w.heap.size + 1, 1, none⟩ = some (.int .i64 ub) := carry hb2 b1
    have f0 : w2.frozen? ⟨w.heap.size + 1 + 1, 0, none⟩ = false := carryF hb2 r0 f0
    have f1 : w2.frozen? ⟨w.heap.size + 1 + 1, 1, none⟩ = false := carryF hb2 r1 f1
    have r0 : w2.cell? ⟨w.heap.size + 1 + 1, 0, none⟩ = some (.int .i64 0) := carry hb2 r0
    have r1 : w2.cell? ⟨w.heap.size + 1 + 1, 1, none⟩ = some (.int .i64 0) := carry hb2 r1
    have hz2 : w.heap.size + 1 + 1 < w2.heap.size := by have := hb2.size; omega
    have HBB := Lib.hid (HBB.out.trans (hb2.mono (by omega)))
    clear hb2
    cases hvb : vsp lb ub
    · have hbs : bsp la ua lb ub = false := by simp [bsp, hvb]
      have H := Lib.hid (show opL la ua lb ub (addF la ua lb ub) = 0 ∧ opH la ua lb ub (addF la ua lb ub) = 0 ∧ opM la ua lb ub (addF la ua lb ub) = false ∧ opE la ua lb ub (addF la ua lb ub) = 1 from by simp [opL, opH, opM, opE, hbs])
      clear hbs
      go_wp2_with fail
      refine bodyPost_ret (v := opV 0 0 false 1) ?_ rfl ⟨by rw [H.out.1, H.out.2.1, H.out.2.2.1, H.out.2.2.2], ?_⟩
      · simp [results, Try.results12, go_sem, r0, r1]
      · exact (HBB.out.setCell (p := ⟨w.heap.size + 1 + 1, 0, none⟩) (by show w.heap.size ≤ w.heap.size + 1 + 1; omega) _).setCell (p := ⟨w.heap.size + 1 + 1, 1, none⟩) (by show w.heap.size ≤ w.heap.size + 1 + 1; omega) _
    · have hbs : bsp la ua lb ub = true := by simp [bsp, hva, hvb]
      have ⟨⟨⟨v1, v2⟩, ⟨v3, v4⟩, v5⟩, ⟨v6, v7⟩, ⟨v8, v9⟩, v10⟩ := bsp_iff.1 hbs
      have H := Lib.hid (show opL la ua lb ub (addF la ua lb ub) = cutL (low4 (addF la ua lb ub)) (high4 (addF la ua lb ub)) ∧ opH la ua lb ub (addF la ua lb ub) = cutH (low4 (addF la ua lb ub)) (high4 (addF la ua lb ub)) ∧ opM la ua lb ub (addF la ua lb ub) = cutM (low4 (addF la ua lb ub)) (high4 (addF la ua lb ub)) ∧ opE la ua lb ub (addF la ua lb ub) = cutE (low4 (addF la ua lb ub)) (high4 (addF la ua lb ub)) from by simp [opL, opH, opM, opE, hbs])
      clear hbs hva hvb
      have L := Lib.hid (low4_add v5 v10)
      go_wp2_with fail
      skip
      refine (rcut_is L.out.1 L.out.2 _ (by omega) (by omega) (by omega) (by omega)).mono ?_
      rintro e w3 ⟨rfl, hb3⟩
      have f0 : w3.frozen? ⟨w.heap.size + 1 + 1, 0, none⟩ = false := carryF hb3 r0 f0
      have f1 : w3.frozen? ⟨w.heap.size + 1 + 1, 1, none⟩ = false := carryF hb3 r1 f1
      have r0 : w3.cell? ⟨w.heap.size + 1 + 1, 0, none⟩ = some (.int .i64 0) := carry hb3 r0
      have r1 : w3.cell? ⟨w.heap.size + 1 + 1, 1, none⟩ = some (.int .i64 0) := carry hb3 r1
      have HBB := Lib.hid (HBB.out.trans (hb3.mono (by omega)))
      clear hb3
      generalize hl : cutL (low4 (addF la ua lb ub)) (high4 (addF la ua lb ub)) = cl at *
      generalize hh : cutH (low4 (addF la ua lb ub)) (high4 (addF la ua lb ub)) = ch at *
      generalize hm : cutM (low4 (addF la ua lb ub)) (high4 (addF la ua lb ub)) = cm at *
      generalize he : cutE (low4 (addF la ua lb ub)) (high4 (addF la ua lb ub)) = ce at *
      clear hl hh hm he
      go_wp2_with fail
      refine bodyPost_ret (v := opV cl ch cm ce) ?_ rfl ⟨by rw [H.out.1, H.out.2.1, H.out.2.2.1, H.out.2.2.2], ?_⟩
      · simp [results, Try.results12, go_sem, r0, r1]
      · exact (HBB.out.setCell (p := ⟨w.heap.size + 1 + 1, 0, none⟩) (by show w.heap.size ≤ w.heap.size + 1 + 1; omega) _).setCell (p := ⟨w.heap.size + 1 + 1, 1, none⟩) (by show w.heap.size ≤ w.heap.size + 1 + 1; omega) _

set_option maxRecDepth 100000 in
set_option maxHeartbeats 1600000 in
theorem rssub_any (la ua lb ub : Int) (w : World) :
    Calls Try.prog 14 #[spanV la ua, spanV lb ub] w fun e w' => e = .returned (opV (opL la ua lb ub (subF la ua lb ub)) (opH la ua lb ub (subF la ua lb ub)) (opM la ua lb ub (subF la ua lb ub)) (opE la ua lb ub (subF la ua lb ub))) ∧ Below w.heap.size w w' := by
  go_enter Try.func14, Try.ntmps14
  go_wp2_with fail
  refine (rvspan_any _ _ _).mono ?_
  rintro e w1 ⟨rfl, hb1⟩
  have a0 : w1.cell? ⟨w.heap.size, 0, none⟩ = some (.int .i64 la) := carry hb1 (by go_simp)
  have a1 : w1.cell? ⟨w.heap.size, 1, none⟩ = some (.int .i64 ua) := carry hb1 (by go_simp)
  have b0 : w1.cell? ⟨w.heap.size + 1, 0, none⟩ = some (.int .i64 lb) := carry hb1 (by go_simp)
  have b1 : w1.cell? ⟨w.heap.size + 1, 1, none⟩ = some (.int .i64 ub) := carry hb1 (by go_simp)
  have r0 : w1.cell? ⟨w.heap.size + 1 + 1, 0, none⟩ = some (.int .i64 0) := carry hb1 (by go_simp)
  have r1 : w1.cell? ⟨w.heap.size + 1 + 1, 1, none⟩ = some (.int .i64 0) := carry hb1 (by go_simp)
  have f0 : w1.frozen? ⟨w.heap.size + 1 + 1, 0, none⟩ = false := carryF hb1 (v := .int .i64 0) (by go_simp) (by go_simp)
  have f1 : w1.frozen? ⟨w.heap.size + 1 + 1, 1, none⟩ = false := carryF hb1 (v := .int .i64 0) (by go_simp) (by go_simp)
  have hz1 : w.heap.size + 1 + 1 < w1.heap.size := by have := hb1.size; simp at this; omega
  have HBB := Lib.hid ((by repeat (first | exact Below.refl _ _ | refine Below.alloc ?_ (by simp <;> omega) _) : Below w.heap.size w _).trans (hb1.mono (by simp <;> omega)))
  clear hb1
  cases hva : vsp la ua
  · have hbs : bsp la ua lb ub = false := by simp [bsp, hva]
    have H := Lib.hid (show opL la ua lb ub (subF la ua lb ub) = 0 ∧ opH la ua lb ub (subF la ua lb ub) = 0 ∧ opM la ua lb ub (subF la ua lb ub) = false ∧ opE la ua lb ub (subF la ua lb ub) = 1 from by simp [opL, opH, opM, opE, hbs])
    clear hbs
    go_wp2_with fail
    refine bodyPost_ret (v := opV 0 0 false 1) ?_ rfl ⟨by rw [H.out.1, H.out.2.1, H.out.2.2.1, H.out.2.2.2], ?_⟩
    · simp [results, Try.results14, go_sem, r0, r1]
    · exact (HBB.out.setCell (p := ⟨w.heap.size + 1 + 1, 0, none⟩) (by show w.heap.size ≤ w.heap.size + 1 + 1; omega) _).setCell (p := ⟨w.heap.size + 1 + 1, 1, none⟩) (by show w.heap.size ≤ w.heap.size + 1 + 1; omega) _
  · go_wp2_with fail
    refine (rvspan_any _ _ _).mono ?_
    rintro e w2 ⟨rfl, hb2⟩
    have a0 : w2.cell? ⟨w.heap.size, 0, none⟩ = some (.int .i64 la) := carry hb2 a0
    have a1 : w2.cell? ⟨w.heap.size, 1, none⟩ = some (.int .i64 ua) := carry hb2 a1
    have b0 : w2.cell? ⟨w.heap.size + 1, 0, none⟩ = some (.int .i64 lb) := carry hb2 b0
    have b1 : w2.cell? ⟨w.heap.size + 1, 1, none⟩ = some (.int .i64 ub) := carry hb2 b1
    have f0 : w2.frozen? ⟨w.heap.size + 1 + 1, 0, none⟩ = false := carryF hb2 r0 f0
    have f1 : w2.frozen? ⟨w.heap.size + 1 + 1, 1, none⟩ = false := carryF hb2 r1 f1
    have r0 : w2.cell? ⟨w.heap.size + 1 + 1, 0, none⟩ = some (.int .i64 0) := carry hb2 r0
    have r1 : w2.cell? ⟨w.heap.size + 1 + 1, 1, none⟩ = some (.int .i64 0) := carry hb2 r1
    have hz2 : w.heap.size + 1 + 1 < w2.heap.size := by have := hb2.size; omega
    have HBB := Lib.hid (HBB.out.trans (hb2.mono (by omega)))
    clear hb2
    cases hvb : vsp lb ub
    · have hbs : bsp la ua lb ub = false := by simp [bsp, hvb]
      have H := Lib.hid (show opL la ua lb ub (subF la ua lb ub) = 0 ∧ opH la ua lb ub (subF la ua lb ub) = 0 ∧ opM la ua lb ub (subF la ua lb ub) = false ∧ opE la ua lb ub (subF la ua lb ub) = 1 from by simp [opL, opH, opM, opE, hbs])
      clear hbs
      go_wp2_with fail
      refine bodyPost_ret (v := opV 0 0 false 1) ?_ rfl ⟨by rw [H.out.1, H.out.2.1, H.out.2.2.1, H.out.2.2.2], ?_⟩
      · simp [results, Try.results14, go_sem, r0, r1]
      · exact (HBB.out.setCell (p := ⟨w.heap.size + 1 + 1, 0, none⟩) (by show w.heap.size ≤ w.heap.size + 1 + 1; omega) _).setCell (p := ⟨w.heap.size + 1 + 1, 1, none⟩) (by show w.heap.size ≤ w.heap.size + 1 + 1; omega) _
    · have hbs : bsp la ua lb ub = true := by simp [bsp, hva, hvb]
      have ⟨⟨⟨v1, v2⟩, ⟨v3, v4⟩, v5⟩, ⟨v6, v7⟩, ⟨v8, v9⟩, v10⟩ := bsp_iff.1 hbs
      have H := Lib.hid (show opL la ua lb ub (subF la ua lb ub) = cutL (low4 (subF la ua lb ub)) (high4 (subF la ua lb ub)) ∧ opH la ua lb ub (subF la ua lb ub) = cutH (low4 (subF la ua lb ub)) (high4 (subF la ua lb ub)) ∧ opM la ua lb ub (subF la ua lb ub) = cutM (low4 (subF la ua lb ub)) (high4 (subF la ua lb ub)) ∧ opE la ua lb ub (subF la ua lb ub) = cutE (low4 (subF la ua lb ub)) (high4 (subF la ua lb ub)) from by simp [opL, opH, opM, opE, hbs])
      clear hbs hva hvb
      have L := Lib.hid (low4_sub v5 v10)
      go_wp2_with fail
      skip
      refine (rcut_is L.out.1 L.out.2 _ (by omega) (by omega) (by omega) (by omega)).mono ?_
      rintro e w3 ⟨rfl, hb3⟩
      have f0 : w3.frozen? ⟨w.heap.size + 1 + 1, 0, none⟩ = false := carryF hb3 r0 f0
      have f1 : w3.frozen? ⟨w.heap.size + 1 + 1, 1, none⟩ = false := carryF hb3 r1 f1
      have r0 : w3.cell? ⟨w.heap.size + 1 + 1, 0, none⟩ = some (.int .i64 0) := carry hb3 r0
      have r1 : w3.cell? ⟨w.heap.size + 1 + 1, 1, none⟩ = some (.int .i64 0) := carry hb3 r1
      have HBB := Lib.hid (HBB.out.trans (hb3.mono (by omega)))
      clear hb3
      generalize hl : cutL (low4 (subF la ua lb ub)) (high4 (subF la ua lb ub)) = cl at *
      generalize hh : cutH (low4 (subF la ua lb ub)) (high4 (subF la ua lb ub)) = ch at *
      generalize hm : cutM (low4 (subF la ua lb ub)) (high4 (subF la ua lb ub)) = cm at *
      generalize he : cutE (low4 (subF la ua lb ub)) (high4 (subF la ua lb ub)) = ce at *
      clear hl hh hm he
      go_wp2_with fail
      refine bodyPost_ret (v := opV cl ch cm ce) ?_ rfl ⟨by rw [H.out.1, H.out.2.1, H.out.2.2.1, H.out.2.2.2], ?_⟩
      · simp [results, Try.results14, go_sem, r0, r1]
      · exact (HBB.out.setCell (p := ⟨w.heap.size + 1 + 1, 0, none⟩) (by show w.heap.size ≤ w.heap.size + 1 + 1; omega) _).setCell (p := ⟨w.heap.size + 1 + 1, 1, none⟩) (by show w.heap.size ≤ w.heap.size + 1 + 1; omega) _

theorem mul_bd {a b : Int} (h1 : -2147483647 ≤ a ∧ a ≤ 2147483647) (h2 : -2147483647 ≤ b ∧ b ≤ 2147483647) : -4611686014132420609 ≤ a * b ∧ a * b ≤ 4611686014132420609 := by
  have k := Int.natAbs_mul a b
  have k1 : a.natAbs ≤ 2147483647 := by omega
  have k2 : b.natAbs ≤ 2147483647 := by omega
  have k3 := Nat.mul_le_mul k1 k2
  omega
theorem mn4_bd {a b c d M : Int} (h1 : -M ≤ a ∧ a ≤ M) (h2 : -M ≤ b ∧ b ≤ M) (h3 : -M ≤ c ∧ c ≤ M) (h4 : -M ≤ d ∧ d ≤ M) : -M ≤ mn (mn (mn a b) c) d ∧ mn (mn (mn a b) c) d ≤ M := by
  unfold mn
  (repeat' split) <;> omega
theorem mx4_bd {a b c d M : Int} (h1 : -M ≤ a ∧ a ≤ M) (h2 : -M ≤ b ∧ b ≤ M) (h3 : -M ≤ c ∧ c ≤ M) (h4 : -M ≤ d ∧ d ≤ M) : -M ≤ mx (mx (mx a b) c) d ∧ mx (mx (mx a b) c) d ≤ M := by
  unfold mx
  (repeat' split) <;> omega

set_option maxRecDepth 100000 in
set_option maxHeartbeats 1600000 in
theorem rsmul_any (la ua lb ub : Int) (w : World) :
    Calls Try.prog 16 #[spanV la ua, spanV lb ub] w fun e w' => e = .returned (opV (opL la ua lb ub (mulF la ua lb ub)) (opH la ua lb ub (mulF la ua lb ub)) (opM la ua lb ub (mulF la ua lb ub)) (opE la ua lb ub (mulF la ua lb ub))) ∧ Below w.heap.size w w' := by
  have hmn : ∀ a b c d w, Sem.run Try.prog (Builtin.min_ #[3, 3, 3, 3] 3 #[.int .i64 a, .int .i64 b, .int .i64 c, .int .i64 d]) w = .ok (.int .i64 (mn (mn (mn a b) c) d)) w := fun a b c d w => by kernel_rfl
  have hmx : ∀ a b c d w, Sem.run Try.prog (Builtin.max_ #[3, 3, 3, 3] 3 #[.int .i64 a, .int .i64 b, .int .i64 c, .int .i64 d]) w = .ok (.int .i64 (mx (mx (mx a b) c) d)) w := fun a b c d w => by kernel_rfl
  go_enter Try.func16, Try.ntmps16
  go_wp2_with fail
  refine (rvspan_any _ _ _).mono ?_
  rintro e w1 ⟨rfl, hb1⟩
  have a0 : w1.cell? ⟨w.heap.size, 0, none⟩ = some (.int .i64 la) := carry hb1 (by go_simp)
  have a1 : w1.cell? ⟨w.heap.size, 1, none⟩ = some (.int .i64 ua) := carry hb1 (by go_simp)
  have b0 : w1.cell? ⟨w.heap.size + 1, 0, none⟩ = some (.int .i64 lb) := carry hb1 (by go_simp)
  have b1 : w1.cell? ⟨w.heap.size + 1, 1, none⟩ = some (.int .i64 ub) := carry hb1 (by go_simp)
  have r0 : w1.cell? ⟨w.heap.size + 1 + 1, 0, none⟩ = some (.int .i64 0) := carry hb1 (by go_simp)
  have r1 : w1.cell? ⟨w.heap.size + 1 + 1, 1, none⟩ = some (.int .i64 0) := carry hb1 (by go_simp)
  have f0 : w1.frozen? ⟨w.heap.size + 1 + 1, 0, none⟩ = false := carryF hb1 (v := .int .i64 0) (by go_simp) (by go_simp)
  have f1 : w1.frozen? ⟨w.heap.size + 1 + 1, 1, none⟩ = false := carryF hb1 (v := .int .i64 0) (by go_simp) (by go_simp)
  have hz1 : w.heap.size + 1 + 1 < w1.heap.size := by have := hb1.size; simp at this; omega
  have HBB := Lib.hid ((by repeat (first | exact Below.refl _ _ | refine Below.alloc ?_ (by simp <;> omega) _) : Below w.heap.size w _).trans (hb1.mono (by simp <;> omega)))
  clear hb1
  cases hva : vsp la ua
  · have hbs : bsp la ua lb ub = false := by simp [bsp, hva]
    have H := Lib.hid (show opL la ua lb ub (mulF la ua lb ub) = 0 ∧ opH la ua lb ub (mulF la ua lb ub) = 0 ∧ opM la ua lb ub (mulF la ua lb ub) = false ∧ opE la ua lb ub (mulF la ua lb ub) = 1 from by simp [opL, opH, opM, opE, hbs])
    clear hbs
    go_wp2_with fail
    refine bodyPost_ret (v := opV 0 0 false 1) ?_ rfl ⟨by rw [H.out.1, H.out.2.1, H.out.2.2.1, H.out.2.2.2], ?_⟩
    · simp [results, Try.results16, go_sem, r0, r1]
    · exact (HBB.out.setCell (p := ⟨w.heap.size + 1 + 1, 0, none⟩) (by show w.heap.size ≤ w.heap.size + 1 + 1; omega) _).setCell (p := ⟨w.heap.size + 1 + 1, 1, none⟩) (by show w.heap.size ≤ w.heap.size + 1 + 1; omega) _
  · go_wp2_with fail
    refine (rvspan_any _ _ _).mono ?_
    rintro e w2 ⟨rfl, hb2⟩
    have a0 : w2.cell? ⟨w.heap.size, 0, none⟩ = some (.int .i64 la) := carry hb2 a0
    have a1 : w2.cell? ⟨w.heap.size, 1, none⟩ = some (.int .i64 ua) := carry hb2 a1
    have b0 : w2.cell? ⟨w.heap.size + 1, 0, none⟩ = some (.int .i64 lb) := carry hb2 b0
    have b1 : w2.cell? ⟨w.heap.size + 1, 1, none⟩ = some (.int .i64 ub) := carry hb2 b1
    have f0 : w2.frozen? ⟨w.heap.size + 1 + 1, 0, none⟩ = false := carryF hb2 r0 f0
    have f1 : w2.frozen? ⟨w.heap.size + 1 + 1, 1, none⟩ = false := carryF hb2 r1 f1
    have r0 : w2.cell? ⟨w.heap.size + 1 + 1, 0, none⟩ = some (.int .i64 0) := carry hb2 r0
    have r1 : w2.cell? ⟨w.heap.size + 1 + 1, 1, none⟩ = some (.int .i64 0) := carry hb2 r1
    have hz2 : w.heap.size + 1 + 1 < w2.heap.size := by have := hb2.size; omega
    have HBB := Lib.hid (HBB.out.trans (hb2.mono (by omega)))
    clear hb2
    cases hvb : vsp lb ub
    · have hbs : bsp la ua lb ub = false := by simp [bsp, hvb]
      have H := Lib.hid (show opL la ua lb ub (mulF la ua lb ub) = 0 ∧ opH la ua lb ub (mulF la ua lb ub) = 0 ∧ opM la ua lb ub (mulF la ua lb ub) = false ∧ opE la ua lb ub (mulF la ua lb ub) = 1 from by simp [opL, opH, opM, opE, hbs])
      clear hbs
      go_wp2_with fail
      refine bodyPost_ret (v := opV 0 0 false 1) ?_ rfl ⟨by rw [H.out.1, H.out.2.1, H.out.2.2.1, H.out.2.2.2], ?_⟩
      · simp [results, Try.results16, go_sem, r0, r1]
      · exact (HBB.out.setCell (p := ⟨w.heap.size + 1 + 1, 0, none⟩) (by show w.heap.size ≤ w.heap.size + 1 + 1; omega) _).setCell (p := ⟨w.heap.size + 1 + 1, 1, none⟩) (by show w.heap.size ≤ w.heap.size + 1 + 1; omega) _
    · have hbs : bsp la ua lb ub = true := by simp [bsp, hva, hvb]
      have ⟨⟨⟨v1, v2⟩, ⟨v3, v4⟩, v5⟩, ⟨v6, v7⟩, ⟨v8, v9⟩, v10⟩ := bsp_iff.1 hbs
      have H := Lib.hid (show opL la ua lb ub (mulF la ua lb ub) = cutL (low4 (mulF la ua lb ub)) (high4 (mulF la ua lb ub)) ∧ opH la ua lb ub (mulF la ua lb ub) = cutH (low4 (mulF la ua lb ub)) (high4 (mulF la ua lb ub)) ∧ opM la ua lb ub (mulF la ua lb ub) = cutM (low4 (mulF la ua lb ub)) (high4 (mulF la ua lb ub)) ∧ opE la ua lb ub (mulF la ua lb ub) = cutE (low4 (mulF la ua lb ub)) (high4 (mulF la ua lb ub)) from by simp [opL, opH, opM, opE, hbs])
      clear hbs hva hvb
      have p1 := mul_bd ⟨v1, v2⟩ ⟨v6, v7⟩
      have p2 := mul_bd ⟨v1, v2⟩ ⟨v8, v9⟩
      have p3 := mul_bd ⟨v3, v4⟩ ⟨v6, v7⟩
      have p4 := mul_bd ⟨v3, v4⟩ ⟨v8, v9⟩
      have L := Lib.hid (show low4 (mulF la ua lb ub) = mn (mn (mn (la * lb) (la * ub)) (ua * lb)) (ua * ub) ∧ high4 (mulF la ua lb ub) = mx (mx (mx (la * lb) (la * ub)) (ua * lb)) (ua * ub) from ⟨rfl, rfl⟩)
      have q1 := mn4_bd p1 p2 p3 p4
      have q2 := mx4_bd p1 p2 p3 p4
      have ⟨p11, p12⟩ := p1
      have ⟨p21, p22⟩ := p2
      have ⟨p31, p32⟩ := p3
      have ⟨p41, p42⟩ := p4
      have Q := Lib.hid (And.intro q1 q2)
      clear p1 p2 p3 p4 q1 q2
      go_wp2_with fail
      go_quiet (fail)
      go_wp2_with fail
      refine (rcut_is L.out.1 L.out.2 _ (by have := Q.out; omega) (by have := Q.out; omega) (by have := Q.out; omega) (by have := Q.out; omega)).mono ?_
      rintro e w3 ⟨rfl, hb3⟩
      have f0 : w3.frozen? ⟨w.heap.size + 1 + 1, 0, none⟩ = false := carryF hb3 (v := .int .i64 0) (by go_simp) (by go_simp)
      have f1 : w3.frozen? ⟨w.heap.size + 1 + 1, 1, none⟩ = false := carryF hb3 (v := .int .i64 0) (by go_simp) (by go_simp)
      have r0 : w3.cell? ⟨w.heap.size + 1 + 1, 0, none⟩ = some (.int .i64 0) := carry hb3 (by go_simp)
      have r1 : w3.cell? ⟨w.heap.size + 1 + 1, 1, none⟩ = some (.int .i64 0) := carry hb3 (by go_simp)
      have HBB := Lib.hid ((HBB.out.trans (Go.Joins.below_draws _ _ _)).trans (hb3.mono (by show w.heap.size ≤ w2.heap.size; omega)))
      clear hb3
      generalize hl : cutL (low4 (mulF la ua lb ub)) (high4 (mulF la ua lb ub)) = cl at *
      generalize hh : cutH (low4 (mulF la ua lb ub)) (high4 (mulF la ua lb ub)) = ch at *
      generalize hm : cutM (low4 (mulF la ua lb ub)) (high4 (mulF la ua lb ub)) = cm at *
      generalize he : cutE (low4 (mulF la ua lb ub)) (high4 (mulF la ua lb ub)) = ce at *
      clear hl hh hm he
      go_wp2_with fail
      refine bodyPost_ret (v := opV cl ch cm ce) ?_ rfl ⟨by rw [H.out.1, H.out.2.1, H.out.2.2.1, H.out.2.2.2], ?_⟩
      · simp [results, Try.results16, go_sem, r0, r1]
      · exact (HBB.out.setCell (p := ⟨w.heap.size + 1 + 1, 0, none⟩) (by show w.heap.size ≤ w.heap.size + 1 + 1; omega) _).setCell (p := ⟨w.heap.size + 1 + 1, 1, none⟩) (by show w.heap.size ≤ w.heap.size + 1 + 1; omega) _

end Go.Proofs.Ytnhieokegidibaa
