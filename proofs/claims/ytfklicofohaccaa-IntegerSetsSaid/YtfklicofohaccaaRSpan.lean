/-
  THE DOCUMENT'S OWN ANSWERS ON SPANS: comparisons, meets and joins.
-/
import Derived.Test.YtfklicofohaccaaSpanOp

namespace Go.Proofs.Ytfklicofohaccaa
open Go.RowKit

theorem low4_cmp {la ua lb ub : Int} (h1 : la ≤ ua) (h2 : lb ≤ ub) : low4 (cmpF la ua lb ub) = cmp3 la ub ∧ high4 (cmpF la ua lb ub) = cmp3 ua lb := by
  unfold low4 high4 cmpF mn mx
  simp only [cond_true, cond_false]
  rcases cmp3_cases la lb with h | h | h <;> rcases cmp3_cases la ub with g | g | g <;> rcases cmp3_cases ua lb with k | k | k <;> rcases cmp3_cases ua ub with l | l | l <;> rw [h.2, g.2, k.2, l.2] <;> first | exact ⟨rfl, rfl⟩ | (exfalso; omega)

set_option maxRecDepth 100000 in
set_option maxHeartbeats 1600000 in
theorem rvspan_any (l u : Int) (w : World) :
    Calls Try.prog 47 #[spanV l u] w fun e w' => e = .returned (.bool (vsp l u)) ∧ Below w.heap.size w w' := by
  have B0 : ∀ o1 : Obj, Below w.heap.size w (w.alloc o1) := fun _ => (Below.refl _ _).alloc (Nat.le_refl _) _
  have HBB := Lib.hid B0
  clear B0
  cases h1 : vld l
  · go_enter Try.func47, Try.ntmps47
    go_wp2_with (go_at_call 16; refine (rvalid_any _ _).mono ?_; rintro e w' ⟨rfl, rfl⟩)
    go_ret
    exact ⟨by simp [vsp, bth, h1], HBB.out _⟩
  · cases h2 : vld u
    · go_enter Try.func47, Try.ntmps47
      go_wp2_with (go_at_call 16; refine (rvalid_any _ _).mono ?_; rintro e w' ⟨rfl, rfl⟩)
      go_ret
      exact ⟨by simp [vsp, bth, h2], HBB.out _⟩
    · go_enter Try.func47, Try.ntmps47
      go_wp2_with (go_at_call 16; refine (rvalid_any _ _).mono ?_; rintro e w' ⟨rfl, rfl⟩)
      go_ret
      exact ⟨by simp [vsp, bth, h1, h2], HBB.out _⟩

set_option maxRecDepth 100000 in
set_option maxHeartbeats 1600000 in
theorem rscmp_any (la ua lb ub : Int) (w : World) :
    Calls Try.prog 58 #[spanV la ua, spanV lb ub] w fun e w' => e = .returned (spE (scmpL la ua lb ub) (scmpH la ua lb ub) (joinE la ua lb ub)) ∧ Below w.heap.size w w' := by
  go_enter Try.func58, Try.ntmps58
  go_wp2_with fail
  refine (rvspan_any _ _ _).mono ?_
  rintro e w1 ⟨rfl, hb1⟩
  have a0 : w1.cell? ⟨w.heap.size, 0, none⟩ = some (.int .i64 la) := carry hb1 (by go_simp)
  have a1 : w1.cell? ⟨w.heap.size, 1, none⟩ = some (.int .i64 ua) := carry hb1 (by go_simp)
  have b0 : w1.cell? ⟨w.heap.size + 1, 0, none⟩ = some (.int .i64 lb) := carry hb1 (by go_simp)
  have b1 : w1.cell? ⟨w.heap.size + 1, 1, none⟩ = some (.int .i64 ub) := carry hb1 (by go_simp)
  have r0 : w1.cell? ⟨w.heap.size + 1 + 1, 0, none⟩ = some (.int .i64 0) := carry hb1 (by go_simp)
  have r1 : w1.cell? ⟨w.heap.size + 1 + 1, 1, none⟩ = some (.int .i64 0) := carry hb1 (by go_simp)
  have f0 : w1.frozen? ⟨w.heap.size + 1 + 1, 0, none⟩ = false := carryF hb1 (v := .int .i64 0) (by go_simp) (by go_simp)
  have f1 : w1.frozen? ⟨w.heap.size + 1 + 1, 1, none⟩ = false := carryF hb1 (v := .int .i64 0) (by go_simp) (by go_simp)
  have HBB := Lib.hid ((by repeat (first | exact Below.refl _ _ | refine Below.alloc ?_ (by simp <;> omega) _) : Below w.heap.size w (((w.alloc _).alloc _).alloc _)).trans (hb1.mono (by simp <;> omega)))
  have hz1 : w.heap.size + 1 + 1 < w1.heap.size := by have := hb1.size; simp at this; omega
  clear hb1
  cases hva : vsp la ua
  · have hbs : bsp la ua lb ub = false := by simp [bsp, hva]
    have H := Lib.hid (show scmpL la ua lb ub = 0 ∧ scmpH la ua lb ub = 0 ∧ joinE la ua lb ub = 1 from by simp [scmpL, scmpH, joinE, hbs])
    clear hbs
    go_wp2_with fail
    refine bodyPost_ret (v := spE (0) (0) (1)) ?_ rfl ⟨by rw [H.out.1, H.out.2.1, H.out.2.2], ?_⟩
    · simp [results, Try.results58, go_sem, r0, r1]
    · exact (HBB.out.setCell (p := ⟨w.heap.size + 1 + 1, 0, none⟩) (by show w.heap.size ≤ w.heap.size + 1 + 1; omega) _).setCell (p := ⟨w.heap.size + 1 + 1, 1, none⟩) (by show w.heap.size ≤ w.heap.size + 1 + 1; omega) _
  · go_wp2_with fail
    refine (rvspan_any _ _ _).mono ?_
    rintro e w2 ⟨rfl, hb2⟩
    have a0 : w2.cell? ⟨w.heap.size, 0, none⟩ = some (.int .i64 la) := carry hb2 a0
    have a1 : w2.cell? ⟨w.heap.size, 1, none⟩ = some (.int .i64 ua) := carry hb2 a1
    have b0 : w2.cell? ⟨w.heap.size + 1, 0, none⟩ = some (.int .i64 lb) := carry hb2 b0
    have b1 : w2.cell? ⟨w.heap.size + 1, 1, none⟩ = some (.int .i64 ub) := carry hb2 b1
    have f0 : w2.frozen? ⟨w.heap.size + 1 + 1, 0, none⟩ = false := carryF hb2 r0 f0
    have f1 : w2.frozen? ⟨w.heap.size + 1 + 1, 1, none⟩ = false := carryF hb2 r1 f1
    have r0 : w2.cell? ⟨w.heap.size + 1 + 1, 0, none⟩ = some (.int .i64 0) := carry hb2 r0
    have r1 : w2.cell? ⟨w.heap.size + 1 + 1, 1, none⟩ = some (.int .i64 0) := carry hb2 r1
    have HBB := Lib.hid (HBB.out.trans (hb2.mono (by omega)))
    clear hb2
    cases hvb : vsp lb ub
    · have hbs : bsp la ua lb ub = false := by simp [bsp, hvb]
      have H := Lib.hid (show scmpL la ua lb ub = 0 ∧ scmpH la ua lb ub = 0 ∧ joinE la ua lb ub = 1 from by simp [scmpL, scmpH, joinE, hbs])
      clear hbs
      go_wp2_with fail
      refine bodyPost_ret (v := spE (0) (0) (1)) ?_ rfl ⟨by rw [H.out.1, H.out.2.1, H.out.2.2], ?_⟩
      · simp [results, Try.results58, go_sem, r0, r1]
      · exact (HBB.out.setCell (p := ⟨w.heap.size + 1 + 1, 0, none⟩) (by show w.heap.size ≤ w.heap.size + 1 + 1; omega) _).setCell (p := ⟨w.heap.size + 1 + 1, 1, none⟩) (by show w.heap.size ≤ w.heap.size + 1 + 1; omega) _
    · have hbs : bsp la ua lb ub = true := by simp [bsp, hva, hvb]
      have ⟨⟨⟨v1, v2⟩, ⟨v3, v4⟩, v5⟩, ⟨v6, v7⟩, ⟨v8, v9⟩, v10⟩ := bsp_iff.1 hbs
      have H := Lib.hid (show scmpL la ua lb ub = cmp3 la ub ∧ scmpH la ua lb ub = cmp3 ua lb ∧ joinE la ua lb ub = 0 from by simp [scmpL, scmpH, joinE, hbs, (low4_cmp v5 v10).1, (low4_cmp v5 v10).2])
      have hc1 := Lib.hid (show cmpV la ub = cmp3 la ub from by simp [cmpV, bth_mk (vld_mk ⟨v1, v2⟩) (vld_mk ⟨v8, v9⟩)])
      have hc2 := Lib.hid (show cmpV ua lb = cmp3 ua lb from by simp [cmpV, bth_mk (vld_mk ⟨v3, v4⟩) (vld_mk ⟨v6, v7⟩)])
      clear hbs
      go_wp2_with fail
      refine (rcmp_any _ _ _).mono ?_; rintro e w' ⟨rfl, rfl⟩
      go_wp2_with fail
      refine (rcmp_any _ _ _).mono ?_; rintro e w' ⟨rfl, rfl⟩
      rw [hc1.out, hc2.out]
      go_wp2_with fail
      refine bodyPost_ret (v := spE (cmp3 la ub) (cmp3 ua lb) (0)) ?_ rfl ⟨by rw [H.out.1, H.out.2.1, H.out.2.2], ?_⟩
      · simp [results, Try.results58, go_sem, r0, r1]
      · exact (HBB.out.setCell (p := ⟨w.heap.size + 1 + 1, 0, none⟩) (by show w.heap.size ≤ w.heap.size + 1 + 1; omega) _).setCell (p := ⟨w.heap.size + 1 + 1, 1, none⟩) (by show w.heap.size ≤ w.heap.size + 1 + 1; omega) _

set_option maxRecDepth 100000 in
set_option maxHeartbeats 1600000 in
theorem rsmeet_any (la ua lb ub : Int) (w : World) :
    Calls Try.prog 60 #[spanV la ua, spanV lb ub] w fun e w' => e = .returned (spE (meetL la ua lb ub) (meetH la ua lb ub) (meetE la ua lb ub)) ∧ Below w.heap.size w w' := by
  go_enter Try.func60, Try.ntmps60
  go_wp2_with fail
  refine (rvspan_any _ _ _).mono ?_
  rintro e w1 ⟨rfl, hb1⟩
  have a0 : w1.cell? ⟨w.heap.size, 0, none⟩ = some (.int .i64 la) := carry hb1 (by go_simp)
  have a1 : w1.cell? ⟨w.heap.size, 1, none⟩ = some (.int .i64 ua) := carry hb1 (by go_simp)
  have b0 : w1.cell? ⟨w.heap.size + 1, 0, none⟩ = some (.int .i64 lb) := carry hb1 (by go_simp)
  have b1 : w1.cell? ⟨w.heap.size + 1, 1, none⟩ = some (.int .i64 ub) := carry hb1 (by go_simp)
  have r0 : w1.cell? ⟨w.heap.size + 1 + 1, 0, none⟩ = some (.int .i64 0) := carry hb1 (by go_simp)
  have r1 : w1.cell? ⟨w.heap.size + 1 + 1, 1, none⟩ = some (.int .i64 0) := carry hb1 (by go_simp)
  have f0 : w1.frozen? ⟨w.heap.size + 1 + 1, 0, none⟩ = false := carryF hb1 (v := .int .i64 0) (by go_simp) (by go_simp)
  have f1 : w1.frozen? ⟨w.heap.size + 1 + 1, 1, none⟩ = false := carryF hb1 (v := .int .i64 0) (by go_simp) (by go_simp)
  have HBB := Lib.hid ((by repeat (first | exact Below.refl _ _ | refine Below.alloc ?_ (by simp <;> omega) _) : Below w.heap.size w (((w.alloc _).alloc _).alloc _)).trans (hb1.mono (by simp <;> omega)))
  have hz1 : w.heap.size + 1 + 1 < w1.heap.size := by have := hb1.size; simp at this; omega
  clear hb1
  cases hva : vsp la ua
  · have hbs : bsp la ua lb ub = false := by simp [bsp, hva]
    have H := Lib.hid (show meetL la ua lb ub = 0 ∧ meetH la ua lb ub = 0 ∧ meetE la ua lb ub = 1 from by simp [meetL, meetH, meetE, hbs])
    clear hbs
    go_wp2_with fail
    refine bodyPost_ret (v := spE (0) (0) (1)) ?_ rfl ⟨by rw [H.out.1, H.out.2.1, H.out.2.2], ?_⟩
    · simp [results, Try.results60, go_sem, r0, r1]
    · exact (HBB.out.setCell (p := ⟨w.heap.size + 1 + 1, 0, none⟩) (by show w.heap.size ≤ w.heap.size + 1 + 1; omega) _).setCell (p := ⟨w.heap.size + 1 + 1, 1, none⟩) (by show w.heap.size ≤ w.heap.size + 1 + 1; omega) _
  · go_wp2_with fail
    refine (rvspan_any _ _ _).mono ?_
    rintro e w2 ⟨rfl, hb2⟩
    have a0 : w2.cell? ⟨w.heap.size, 0, none⟩ = some (.int .i64 la) := carry hb2 a0
    have a1 : w2.cell? ⟨w.heap.size, 1, none⟩ = some (.int .i64 ua) := carry hb2 a1
    have b0 : w2.cell? ⟨w.heap.size + 1, 0, none⟩ = some (.int .i64 lb) := carry hb2 b0
    have b1 : w2.cell? ⟨w.heap.size + 1, 1, none⟩ = some (.int .i64 ub) := carry hb2 b1
    have f0 : w2.frozen? ⟨w.heap.size + 1 + 1, 0, none⟩ = false := carryF hb2 r0 f0
    have f1 : w2.frozen? ⟨w.heap.size + 1 + 1, 1, none⟩ = false := carryF hb2 r1 f1
    have r0 : w2.cell? ⟨w.heap.size + 1 + 1, 0, none⟩ = some (.int .i64 0) := carry hb2 r0
    have r1 : w2.cell? ⟨w.heap.size + 1 + 1, 1, none⟩ = some (.int .i64 0) := carry hb2 r1
    have HBB := Lib.hid (HBB.out.trans (hb2.mono (by omega)))
    clear hb2
    cases hvb : vsp lb ub
    · have hbs : bsp la ua lb ub = false := by simp [bsp, hvb]
      have H := Lib.hid (show meetL la ua lb ub = 0 ∧ meetH la ua lb ub = 0 ∧ meetE la ua lb ub = 1 from by simp [meetL, meetH, meetE, hbs])
      clear hbs
      go_wp2_with fail
      refine bodyPost_ret (v := spE (0) (0) (1)) ?_ rfl ⟨by rw [H.out.1, H.out.2.1, H.out.2.2], ?_⟩
      · simp [results, Try.results60, go_sem, r0, r1]
      · exact (HBB.out.setCell (p := ⟨w.heap.size + 1 + 1, 0, none⟩) (by show w.heap.size ≤ w.heap.size + 1 + 1; omega) _).setCell (p := ⟨w.heap.size + 1 + 1, 1, none⟩) (by show w.heap.size ≤ w.heap.size + 1 + 1; omega) _
    · have hbs : bsp la ua lb ub = true := by simp [bsp, hva, hvb]
      have ⟨⟨⟨v1, v2⟩, ⟨v3, v4⟩, v5⟩, ⟨v6, v7⟩, ⟨v8, v9⟩, v10⟩ := bsp_iff.1 hbs
      have hmo : meetOK la ua lb ub = (decide (la ≤ ub) && decide (lb ≤ ua)) := by
        rw [Bool.eq_iff_iff, meetOK, vsp_iff]
        unfold mx mn
        simp only [Bool.and_eq_true, decide_eq_true_eq]
        split <;> split <;> omega
      by_cases k1 : ub < la
      · have H := Lib.hid (show meetL la ua lb ub = 0 ∧ meetH la ua lb ub = 0 ∧ meetE la ua lb ub = 5 from by simp [meetL, meetH, meetE, hbs, hmo, k1, Int.not_le.2 k1])
        clear hbs hmo
        go_wp2_with fail
        refine bodyPost_ret (v := spE (0) (0) (5)) ?_ rfl ⟨by rw [H.out.1, H.out.2.1, H.out.2.2], ?_⟩
        · simp [results, Try.results60, go_sem, r0, r1]
        · exact (HBB.out.setCell (p := ⟨w.heap.size + 1 + 1, 0, none⟩) (by show w.heap.size ≤ w.heap.size + 1 + 1; omega) _).setCell (p := ⟨w.heap.size + 1 + 1, 1, none⟩) (by show w.heap.size ≤ w.heap.size + 1 + 1; omega) _
      · by_cases k2 : ua < lb
        · have H := Lib.hid (show meetL la ua lb ub = 0 ∧ meetH la ua lb ub = 0 ∧ meetE la ua lb ub = 5 from by simp [meetL, meetH, meetE, hbs, hmo, k2, Int.not_le.2 k2])
          clear hbs hmo
          go_wp2_with fail
          refine bodyPost_ret (v := spE (0) (0) (5)) ?_ rfl ⟨by rw [H.out.1, H.out.2.1, H.out.2.2], ?_⟩
          · simp [results, Try.results60, go_sem, r0, r1]
          · exact (HBB.out.setCell (p := ⟨w.heap.size + 1 + 1, 0, none⟩) (by show w.heap.size ≤ w.heap.size + 1 + 1; omega) _).setCell (p := ⟨w.heap.size + 1 + 1, 1, none⟩) (by show w.heap.size ≤ w.heap.size + 1 + 1; omega) _
        · have H := Lib.hid (show meetL la ua lb ub = mx la lb ∧ meetH la ua lb ub = mn ua ub ∧ meetE la ua lb ub = 0 from by simp [meetL, meetH, meetE, hbs, hmo, Int.not_lt.1 k1, Int.not_lt.1 k2])
          clear hbs hmo
          rcases (by omega : la < lb ∨ lb ≤ la) with h1 | h1 <;> rcases (by omega : ub < ua ∨ ua ≤ ub) with h2 | h2
          · have HM := Lib.hid (show mx la lb = lb ∧ mn ua ub = ub from ⟨if_pos h1, if_pos h2⟩)
            go_wp2_with fail
            refine bodyPost_ret (v := spE (lb) (ub) (0)) ?_ rfl ⟨by rw [H.out.1, H.out.2.1, H.out.2.2, HM.out.1, HM.out.2], ?_⟩
            · simp [results, Try.results60, go_sem, r0, r1]
            · exact (HBB.out.setCell (p := ⟨w.heap.size + 1 + 1, 0, none⟩) (by show w.heap.size ≤ w.heap.size + 1 + 1; omega) _).setCell (p := ⟨w.heap.size + 1 + 1, 1, none⟩) (by show w.heap.size ≤ w.heap.size + 1 + 1; omega) _
          · have HM := Lib.hid (show mx la lb = lb ∧ mn ua ub = ua from ⟨if_pos h1, if_neg (by omega)⟩)
            go_wp2_with fail
            refine bodyPost_ret (v := spE (lb) (ua) (0)) ?_ rfl ⟨by rw [H.out.1, H.out.2.1, H.out.2.2, HM.out.1, HM.out.2], ?_⟩
            · simp [results, Try.results60, go_sem, r0, r1]
            · exact (HBB.out.setCell (p := ⟨w.heap.size + 1 + 1, 0, none⟩) (by show w.heap.size ≤ w.heap.size + 1 + 1; omega) _).setCell (p := ⟨w.heap.size + 1 + 1, 1, none⟩) (by show w.heap.size ≤ w.heap.size + 1 + 1; omega) _
          · have HM := Lib.hid (show mx la lb = la ∧ mn ua ub = ub from ⟨if_neg (by omega), if_pos h2⟩)
            go_wp2_with fail
            refine bodyPost_ret (v := spE (la) (ub) (0)) ?_ rfl ⟨by rw [H.out.1, H.out.2.1, H.out.2.2, HM.out.1, HM.out.2], ?_⟩
            · simp [results, Try.results60, go_sem, r0, r1]
            · exact (HBB.out.setCell (p := ⟨w.heap.size + 1 + 1, 0, none⟩) (by show w.heap.size ≤ w.heap.size + 1 + 1; omega) _).setCell (p := ⟨w.heap.size + 1 + 1, 1, none⟩) (by show w.heap.size ≤ w.heap.size + 1 + 1; omega) _
          · have HM := Lib.hid (show mx la lb = la ∧ mn ua ub = ua from ⟨if_neg (by omega), if_neg (by omega)⟩)
            go_wp2_with fail
            refine bodyPost_ret (v := spE (la) (ua) (0)) ?_ rfl ⟨by rw [H.out.1, H.out.2.1, H.out.2.2, HM.out.1, HM.out.2], ?_⟩
            · simp [results, Try.results60, go_sem, r0, r1]
            · exact (HBB.out.setCell (p := ⟨w.heap.size + 1 + 1, 0, none⟩) (by show w.heap.size ≤ w.heap.size + 1 + 1; omega) _).setCell (p := ⟨w.heap.size + 1 + 1, 1, none⟩) (by show w.heap.size ≤ w.heap.size + 1 + 1; omega) _

set_option maxRecDepth 100000 in
set_option maxHeartbeats 1600000 in
theorem rsjoin_any (la ua lb ub : Int) (w : World) :
    Calls Try.prog 62 #[spanV la ua, spanV lb ub] w fun e w' => e = .returned (spE (joinL la ua lb ub) (joinH la ua lb ub) (joinE la ua lb ub)) ∧ Below w.heap.size w w' := by
  go_enter Try.func62, Try.ntmps62
  go_wp2_with fail
  refine (rvspan_any _ _ _).mono ?_
  rintro e w1 ⟨rfl, hb1⟩
  have a0 : w1.cell? ⟨w.heap.size, 0, none⟩ = some (.int .i64 la) := carry hb1 (by go_simp)
  have a1 : w1.cell? ⟨w.heap.size, 1, none⟩ = some (.int .i64 ua) := carry hb1 (by go_simp)
  have b0 : w1.cell? ⟨w.heap.size + 1, 0, none⟩ = some (.int .i64 lb) := carry hb1 (by go_simp)
  have b1 : w1.cell? ⟨w.heap.size + 1, 1, none⟩ = some (.int .i64 ub) := carry hb1 (by go_simp)
  have r0 : w1.cell? ⟨w.heap.size + 1 + 1, 0, none⟩ = some (.int .i64 0) := carry hb1 (by go_simp)
  have r1 : w1.cell? ⟨w.heap.size + 1 + 1, 1, none⟩ = some (.int .i64 0) := carry hb1 (by go_simp)
  have f0 : w1.frozen? ⟨w.heap.size + 1 + 1, 0, none⟩ = false := carryF hb1 (v := .int .i64 0) (by go_simp) (by go_simp)
  have f1 : w1.frozen? ⟨w.heap.size + 1 + 1, 1, none⟩ = false := carryF hb1 (v := .int .i64 0) (by go_simp) (by go_simp)
  have HBB := Lib.hid ((by repeat (first | exact Below.refl _ _ | refine Below.alloc ?_ (by simp <;> omega) _) : Below w.heap.size w (((w.alloc _).alloc _).alloc _)).trans (hb1.mono (by simp <;> omega)))
  have hz1 : w.heap.size + 1 + 1 < w1.heap.size := by have := hb1.size; simp at this; omega
  clear hb1
  cases hva : vsp la ua
  · have hbs : bsp la ua lb ub = false := by simp [bsp, hva]
    have H := Lib.hid (show joinL la ua lb ub = 0 ∧ joinH la ua lb ub = 0 ∧ joinE la ua lb ub = 1 from by simp [joinL, joinH, joinE, hbs])
    clear hbs
    go_wp2_with fail
    refine bodyPost_ret (v := spE (0) (0) (1)) ?_ rfl ⟨by rw [H.out.1, H.out.2.1, H.out.2.2], ?_⟩
    · simp [results, Try.results62, go_sem, r0, r1]
    · exact (HBB.out.setCell (p := ⟨w.heap.size + 1 + 1, 0, none⟩) (by show w.heap.size ≤ w.heap.size + 1 + 1; omega) _).setCell (p := ⟨w.heap.size + 1 + 1, 1, none⟩) (by show w.heap.size ≤ w.heap.size + 1 + 1; omega) _
  · go_wp2_with fail
    refine (rvspan_any _ _ _).mono ?_
    rintro e w2 ⟨rfl, hb2⟩
    have a0 : w2.cell? ⟨w.heap.size, 0, none⟩ = some (.int .i64 la) := carry hb2 a0
    have a1 : w2.cell? ⟨w.heap.size, 1, none⟩ = some (.int .i64 ua) := carry hb2 a1
    have b0 : w2.cell? ⟨w.heap.size + 1, 0, none⟩ = some (.int .i64 lb) := carry hb2 b0
    have b1 : w2.cell? ⟨w.heap.size + 1, 1, none⟩ = some (.int .i64 ub) := carry hb2 b1
    have f0 : w2.frozen? ⟨w.heap.size + 1 + 1, 0, none⟩ = false := carryF hb2 r0 f0
    have f1 : w2.frozen? ⟨w.heap.size + 1 + 1, 1, none⟩ = false := carryF hb2 r1 f1
    have r0 : w2.cell? ⟨w.heap.size + 1 + 1, 0, none⟩ = some (.int .i64 0) := carry hb2 r0
    have r1 : w2.cell? ⟨w.heap.size + 1 + 1, 1, none⟩ = some (.int .i64 0) := carry hb2 r1
    have HBB := Lib.hid (HBB.out.trans (hb2.mono (by omega)))
    clear hb2
    cases hvb : vsp lb ub
    · have hbs : bsp la ua lb ub = false := by simp [bsp, hvb]
      have H := Lib.hid (show joinL la ua lb ub = 0 ∧ joinH la ua lb ub = 0 ∧ joinE la ua lb ub = 1 from by simp [joinL, joinH, joinE, hbs])
      clear hbs
      go_wp2_with fail
      refine bodyPost_ret (v := spE (0) (0) (1)) ?_ rfl ⟨by rw [H.out.1, H.out.2.1, H.out.2.2], ?_⟩
      · simp [results, Try.results62, go_sem, r0, r1]
      · exact (HBB.out.setCell (p := ⟨w.heap.size + 1 + 1, 0, none⟩) (by show w.heap.size ≤ w.heap.size + 1 + 1; omega) _).setCell (p := ⟨w.heap.size + 1 + 1, 1, none⟩) (by show w.heap.size ≤ w.heap.size + 1 + 1; omega) _
    · have hbs : bsp la ua lb ub = true := by simp [bsp, hva, hvb]
      have ⟨⟨⟨v1, v2⟩, ⟨v3, v4⟩, v5⟩, ⟨v6, v7⟩, ⟨v8, v9⟩, v10⟩ := bsp_iff.1 hbs
      have H := Lib.hid (show joinL la ua lb ub = mn la lb ∧ joinH la ua lb ub = mx ua ub ∧ joinE la ua lb ub = 0 from by simp [joinL, joinH, joinE, hbs])
      clear hbs
      rcases (by omega : lb < la ∨ la ≤ lb) with h1 | h1 <;> rcases (by omega : ua < ub ∨ ub ≤ ua) with h2 | h2
      · have HM := Lib.hid (show mn la lb = lb ∧ mx ua ub = ub from ⟨if_pos h1, if_pos h2⟩)
        go_wp2_with fail
        refine bodyPost_ret (v := spE (lb) (ub) (0)) ?_ rfl ⟨by rw [H.out.1, H.out.2.1, H.out.2.2, HM.out.1, HM.out.2], ?_⟩
        · simp [results, Try.results62, go_sem, r0, r1]
        · exact (HBB.out.setCell (p := ⟨w.heap.size + 1 + 1, 0, none⟩) (by show w.heap.size ≤ w.heap.size + 1 + 1; omega) _).setCell (p := ⟨w.heap.size + 1 + 1, 1, none⟩) (by show w.heap.size ≤ w.heap.size + 1 + 1; omega) _
      · have HM := Lib.hid (show mn la lb = lb ∧ mx ua ub = ua from ⟨if_pos h1, if_neg (by omega)⟩)
        go_wp2_with fail
        refine bodyPost_ret (v := spE (lb) (ua) (0)) ?_ rfl ⟨by rw [H.out.1, H.out.2.1, H.out.2.2, HM.out.1, HM.out.2], ?_⟩
        · simp [results, Try.results62, go_sem, r0, r1]
        · exact (HBB.out.setCell (p := ⟨w.heap.size + 1 + 1, 0, none⟩) (by show w.heap.size ≤ w.heap.size + 1 + 1; omega) _).setCell (p := ⟨w.heap.size + 1 + 1, 1, none⟩) (by show w.heap.size ≤ w.heap.size + 1 + 1; omega) _
      · have HM := Lib.hid (show mn la lb = la ∧ mx ua ub = ub from ⟨if_neg (by omega), if_pos h2⟩)
        go_wp2_with fail
        refine bodyPost_ret (v := spE (la) (ub) (0)) ?_ rfl ⟨by rw [H.out.1, H.out.2.1, H.out.2.2, HM.out.1, HM.out.2], ?_⟩
        · simp [results, Try.results62, go_sem, r0, r1]
        · exact (HBB.out.setCell (p := ⟨w.heap.size + 1 + 1, 0, none⟩) (by show w.heap.size ≤ w.heap.size + 1 + 1; omega) _).setCell (p := ⟨w.heap.size + 1 + 1, 1, none⟩) (by show w.heap.size ≤ w.heap.size + 1 + 1; omega) _
      · have HM := Lib.hid (show mn la lb = la ∧ mx ua ub = ua from ⟨if_neg (by omega), if_neg (by omega)⟩)
        go_wp2_with fail
        refine bodyPost_ret (v := spE (la) (ua) (0)) ?_ rfl ⟨by rw [H.out.1, H.out.2.1, H.out.2.2, HM.out.1, HM.out.2], ?_⟩
        · simp [results, Try.results62, go_sem, r0, r1]
        · exact (HBB.out.setCell (p := ⟨w.heap.size + 1 + 1, 0, none⟩) (by show w.heap.size ≤ w.heap.size + 1 + 1; omega) _).setCell (p := ⟨w.heap.size + 1 + 1, 1, none⟩) (by show w.heap.size ≤ w.heap.size + 1 + 1; omega) _

end Go.Proofs.Ytfklicofohaccaa
