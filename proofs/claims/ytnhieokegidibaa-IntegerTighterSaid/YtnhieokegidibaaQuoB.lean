/-
  QUOTIENTS OF SPANS BY DIVISORS OF BOTH SIGNS.
-/
import Derived.Test.YtnhieokegidibaaQuo

namespace Go.Proofs.Ytnhieokegidibaa
open Go.RowKit

set_option maxRecDepth 100000 in
set_option maxHeartbeats 2000000 in
theorem squo_both (la ua lb ub : Int) (w : World) (HB : Hid (bsp la ua lb ub = true)) (hl : lb ≤ -1) (hu : 1 ≤ ub) :
    Calls Try.prog 17 #[spanV la ua, spanV lb ub] w fun e w' => e = .returned (opV (mn (low4 (quoF la ua lb (-1))) (low4 (quoF la ua 1 ub))) (mx (high4 (quoF la ua lb (-1))) (high4 (quoF la ua 1 ub))) true 0) ∧ Below w.heap.size w w' := by
  have ⟨⟨⟨v1, v2⟩, ⟨v3, v4⟩, v5⟩, ⟨v6, v7⟩, ⟨v8, v9⟩, v10⟩ := bsp_iff.1 HB.out
  have KB := Lib.hid (show vsp lb (-1) = true from by rw [vsp_iff]; omega)
  have KA := Lib.hid (show vsp 1 ub = true from by rw [vsp_iff]; omega)
  have : decide (lb ≤ 0) = true := by simp <;> omega
  have : decide (0 ≤ ub) = true := by simp <;> omega
  have e1 : -1 < ub := by omega
  have e2 : lb < 1 := by omega
  go_enter Try.func17, Try.ntmps17
  go_wp2_with fail
  refine (bsp_any _ _ _ _ _).mono ?_
  rintro e w1 ⟨rfl, hb1⟩
  have a0_1 : w1.cell? ⟨w.heap.size, 0, none⟩ = some (.int .i64 la) := carry hb1 (by go_simp)
  have a1_1 : w1.cell? ⟨w.heap.size, 1, none⟩ = some (.int .i64 ua) := carry hb1 (by go_simp)
  have az_1 : w.heap.size < w1.heap.size := by have := hb1.size; first | omega | (simp at this; omega)
  have b0_1 : w1.cell? ⟨w.heap.size + 1, 0, none⟩ = some (.int .i64 lb) := carry hb1 (by go_simp)
  have b1_1 : w1.cell? ⟨w.heap.size + 1, 1, none⟩ = some (.int .i64 ub) := carry hb1 (by go_simp)
  have bz_1 : w.heap.size + 1 < w1.heap.size := by have := hb1.size; first | omega | (simp at this; omega)
  have r0_1 : w1.cell? ⟨w.heap.size + 1 + 1, 0, none⟩ = some (.int .i64 0) := carry hb1 (by go_simp)
  have rf0_1 : w1.frozen? ⟨w.heap.size + 1 + 1, 0, none⟩ = false := carryF hb1 (v := .int .i64 0) (by go_simp) (by go_simp)
  have r1_1 : w1.cell? ⟨w.heap.size + 1 + 1, 1, none⟩ = some (.int .i64 0) := carry hb1 (by go_simp)
  have rf1_1 : w1.frozen? ⟨w.heap.size + 1 + 1, 1, none⟩ = false := carryF hb1 (v := .int .i64 0) (by go_simp) (by go_simp)
  have rz_1 : w.heap.size + 1 + 1 < w1.heap.size := by have := hb1.size; first | omega | (simp at this; omega)
  have HB_1 := Lib.hid ((by repeat (first | exact Below.refl _ _ | refine Below.drew ?_ | refine Below.setCell ?_ (by first | omega | (simp; done) | (simp; omega)) _ | refine Below.alloc ?_ (by first | omega | (simp; done) | (simp; omega)) _) : Below w.heap.size w _).trans (hb1.mono (by first | omega | (simp; done) | (simp; omega))))
  have nz_1 : w.heap.size ≤ w1.heap.size := HB_1.out.size
  clear hb1
  rw [show (vsp la ua && vsp lb ub) = bsp la ua lb ub from rfl, HB.out]
  go_wp2_with fail
  refine (vspan_is KB.out _).mono ?_
  rintro e w2 ⟨rfl, hb2⟩
  have a0_2 : w2.cell? ⟨w.heap.size, 0, none⟩ = some (.int .i64 la) := carry hb2 (by go_simp)
  have a1_2 : w2.cell? ⟨w.heap.size, 1, none⟩ = some (.int .i64 ua) := carry hb2 (by go_simp)
  have az_2 : w.heap.size < w2.heap.size := by have := hb2.size; first | omega | (simp at this; omega)
  have b0_2 : w2.cell? ⟨w.heap.size + 1, 0, none⟩ = some (.int .i64 lb) := carry hb2 (by go_simp)
  have b1_2 : w2.cell? ⟨w.heap.size + 1, 1, none⟩ = some (.int .i64 ub) := carry hb2 (by go_simp)
  have bz_2 : w.heap.size + 1 < w2.heap.size := by have := hb2.size; first | omega | (simp at this; omega)
  have r0_2 : w2.cell? ⟨w.heap.size + 1 + 1, 0, none⟩ = some (.int .i64 0) := carry hb2 (by go_simp)
  have rf0_2 : w2.frozen? ⟨w.heap.size + 1 + 1, 0, none⟩ = false := carryF hb2 (v := .int .i64 0) (by go_simp) (by go_simp)
  have r1_2 : w2.cell? ⟨w.heap.size + 1 + 1, 1, none⟩ = some (.int .i64 0) := carry hb2 (by go_simp)
  have rf1_2 : w2.frozen? ⟨w.heap.size + 1 + 1, 1, none⟩ = false := carryF hb2 (v := .int .i64 0) (by go_simp) (by go_simp)
  have rz_2 : w.heap.size + 1 + 1 < w2.heap.size := by have := hb2.size; first | omega | (simp at this; omega)
  have x0_2 : w2.cell? ⟨w1.heap.size, 0, none⟩ = some (.int .i64 lb) := carry hb2 (by go_simp)
  have x1_2 : w2.cell? ⟨w1.heap.size, 1, none⟩ = some (.int .i64 (-1)) := carry hb2 (by go_simp)
  have xz_2 : w1.heap.size < w2.heap.size := by have := hb2.size; first | omega | (simp at this; omega)
  have y0_2 : w2.cell? ⟨w1.heap.size + 1, 0, none⟩ = some (.int .i64 1) := carry hb2 (by go_simp)
  have y1_2 : w2.cell? ⟨w1.heap.size + 1, 1, none⟩ = some (.int .i64 ub) := carry hb2 (by go_simp)
  have yz_2 : w1.heap.size + 1 < w2.heap.size := by have := hb2.size; first | omega | (simp at this; omega)
  have HB_2 := Lib.hid ((by repeat (first | exact HB_1.out | refine Below.drew ?_ | refine Below.setCell ?_ (by first | omega | (simp; done) | (simp; omega)) _ | refine Below.alloc ?_ (by first | omega | (simp; done) | (simp; omega)) _) : Below w.heap.size w _).trans (hb2.mono (by first | omega | (simp; done) | (simp; omega))))
  have nz_2 : w.heap.size ≤ w2.heap.size := HB_2.out.size
  clear hb2 a0_1 a1_1 b0_1 b1_1 r0_1 rf0_1 r1_1 rf1_1 HB_1
  go_wp2_with fail
  refine (vspan_is KA.out _).mono ?_
  rintro e w3 ⟨rfl, hb3⟩
  have a0_3 : w3.cell? ⟨w.heap.size, 0, none⟩ = some (.int .i64 la) := carry hb3 (by go_simp)
  have a1_3 : w3.cell? ⟨w.heap.size, 1, none⟩ = some (.int .i64 ua) := carry hb3 (by go_simp)
  have az_3 : w.heap.size < w3.heap.size := by have := hb3.size; first | omega | (simp at this; omega)
  have b0_3 : w3.cell? ⟨w.heap.size + 1, 0, none⟩ = some (.int .i64 lb) := carry hb3 (by go_simp)
  have b1_3 : w3.cell? ⟨w.heap.size + 1, 1, none⟩ = some (.int .i64 ub) := carry hb3 (by go_simp)
  have bz_3 : w.heap.size + 1 < w3.heap.size := by have := hb3.size; first | omega | (simp at this; omega)
  have r0_3 : w3.cell? ⟨w.heap.size + 1 + 1, 0, none⟩ = some (.int .i64 0) := carry hb3 (by go_simp)
  have rf0_3 : w3.frozen? ⟨w.heap.size + 1 + 1, 0, none⟩ = false := carryF hb3 (v := .int .i64 0) (by go_simp) (by go_simp)
  have r1_3 : w3.cell? ⟨w.heap.size + 1 + 1, 1, none⟩ = some (.int .i64 0) := carry hb3 (by go_simp)
  have rf1_3 : w3.frozen? ⟨w.heap.size + 1 + 1, 1, none⟩ = false := carryF hb3 (v := .int .i64 0) (by go_simp) (by go_simp)
  have rz_3 : w.heap.size + 1 + 1 < w3.heap.size := by have := hb3.size; first | omega | (simp at this; omega)
  have x0_3 : w3.cell? ⟨w1.heap.size, 0, none⟩ = some (.int .i64 lb) := carry hb3 (by go_simp)
  have x1_3 : w3.cell? ⟨w1.heap.size, 1, none⟩ = some (.int .i64 (-1)) := carry hb3 (by go_simp)
  have xz_3 : w1.heap.size < w3.heap.size := by have := hb3.size; first | omega | (simp at this; omega)
  have y0_3 : w3.cell? ⟨w1.heap.size + 1, 0, none⟩ = some (.int .i64 1) := carry hb3 (by go_simp)
  have y1_3 : w3.cell? ⟨w1.heap.size + 1, 1, none⟩ = some (.int .i64 ub) := carry hb3 (by go_simp)
  have yz_3 : w1.heap.size + 1 < w3.heap.size := by have := hb3.size; first | omega | (simp at this; omega)
  have HB_3 := Lib.hid ((by repeat (first | exact HB_2.out | refine Below.drew ?_ | refine Below.setCell ?_ (by first | omega | (simp; done) | (simp; omega)) _ | refine Below.alloc ?_ (by first | omega | (simp; done) | (simp; omega)) _) : Below w.heap.size w _).trans (hb3.mono (by first | omega | (simp; done) | (simp; omega))))
  have nz_3 : w.heap.size ≤ w3.heap.size := HB_3.out.size
  clear hb3 a0_2 a1_2 b0_2 b1_2 r0_2 rf0_2 r1_2 rf1_2 x0_2 x1_2 y0_2 y1_2 HB_2
  go_upto_region 8 with fail
  have hB0 := HB_3.out
  have hn1 : (-1 : Int) ≠ 0 := by decide
  have hn2 : (1 : Int) ≠ 0 := by decide
  have hn3 : lb ≠ 0 := by omega
  have hn4 : ub ≠ 0 := by omega
  go_region_held3 (fun wx => wx.cell? ⟨w.heap.size, 0, none⟩ = some (.int .i64 la) ∧ wx.cell? ⟨w.heap.size, 1, none⟩ = some (.int .i64 ua) ∧ wx.cell? ⟨w1.heap.size, 0, none⟩ = some (.int .i64 lb) ∧ wx.cell? ⟨w1.heap.size, 1, none⟩ = some (.int .i64 (-1)) ∧ wx.cell? ⟨w1.heap.size + 1, 0, none⟩ = some (.int .i64 1) ∧ wx.cell? ⟨w1.heap.size + 1, 1, none⟩ = some (.int .i64 ub)) (first | (go_keep; done) | ((try go_split_ands); (repeat' apply And.intro) <;> first | assumption | (go_keep; done) | (exact carry hbq (by first | assumption | go_simp)) | (rw [World.cell?_setCell_other _ _ _ _ (fun k => by have e := congrArg Addr.block k; simp at e <;> omega), World.cell?_setCell_other _ _ _ _ (fun k => by have e := congrArg Addr.block k; simp at e <;> omega)]; assumption)))
    (first
      | (go_at_call 40; ((with_reducible refine (extquo_any la ua lb (-1) _ ⟨v1, v2⟩ ⟨v3, v4⟩ hn3 hn1).mono ?_); rintro e wq ⟨rfl, hbq⟩; have : wq.cell? ⟨w.heap.size + 1, 0, none⟩ = some (.int .i64 lb) := carry hbq (by first | assumption | go_simp); have : wq.cell? ⟨w.heap.size + 1, 1, none⟩ = some (.int .i64 ub) := carry hbq (by first | assumption | go_simp); have : wq.cell? ⟨w.heap.size + 1 + 1, 0, none⟩ = some (.int .i64 0) := carry hbq (by first | assumption | go_simp); have : wq.cell? ⟨w.heap.size + 1 + 1, 1, none⟩ = some (.int .i64 0) := carry hbq (by first | assumption | go_simp); have : wq.frozen? ⟨w.heap.size + 1 + 1, 0, none⟩ = false := carryF hbq (v := .int .i64 0) (by first | assumption | go_simp) (by first | assumption | go_simp); have : wq.frozen? ⟨w.heap.size + 1 + 1, 1, none⟩ = false := carryF hbq (v := .int .i64 0) (by first | assumption | go_simp) (by first | assumption | go_simp); have : w.heap.size + 1 + 1 < wq.heap.size := Nat.lt_of_lt_of_le (by first | assumption | (simp <;> omega)) hbq.size; have : w1.heap.size < wq.heap.size := Nat.lt_of_lt_of_le (by first | assumption | (simp <;> omega)) hbq.size; have : w1.heap.size + 1 < wq.heap.size := Nat.lt_of_lt_of_le (by first | assumption | (simp <;> omega)) hbq.size; have : Below w.heap.size w wq := Below.trans (by first | assumption | exact hB0.drew) (hbq.mono (by first | omega | (simp <;> omega)))))
      | (go_at_call 40; ((with_reducible refine (extquo_any la ua 1 ub _ ⟨v1, v2⟩ ⟨v3, v4⟩ hn2 hn4).mono ?_); rintro e wq ⟨rfl, hbq⟩; have : wq.cell? ⟨w.heap.size + 1, 0, none⟩ = some (.int .i64 lb) := carry hbq (by first | assumption | go_simp); have : wq.cell? ⟨w.heap.size + 1, 1, none⟩ = some (.int .i64 ub) := carry hbq (by first | assumption | go_simp); have : wq.cell? ⟨w.heap.size + 1 + 1, 0, none⟩ = some (.int .i64 0) := carry hbq (by first | assumption | go_simp); have : wq.cell? ⟨w.heap.size + 1 + 1, 1, none⟩ = some (.int .i64 0) := carry hbq (by first | assumption | go_simp); have : wq.frozen? ⟨w.heap.size + 1 + 1, 0, none⟩ = false := carryF hbq (v := .int .i64 0) (by first | assumption | go_simp) (by first | assumption | go_simp); have : wq.frozen? ⟨w.heap.size + 1 + 1, 1, none⟩ = false := carryF hbq (v := .int .i64 0) (by first | assumption | go_simp) (by first | assumption | go_simp); have : w.heap.size + 1 + 1 < wq.heap.size := Nat.lt_of_lt_of_le (by first | assumption | (simp <;> omega)) hbq.size; have : w1.heap.size < wq.heap.size := Nat.lt_of_lt_of_le (by first | assumption | (simp <;> omega)) hbq.size; have : w1.heap.size + 1 < wq.heap.size := Nat.lt_of_lt_of_le (by first | assumption | (simp <;> omega)) hbq.size; have : Below w.heap.size w wq := Below.trans (by first | assumption | exact hB0.drew) (hbq.mono (by first | omega | (simp <;> omega)))))
      | (go_at_call 39; refine (around_any _ _ _ _ _).mono ?_; rintro e wq ⟨rfl, hbq⟩; have : wq.cell? ⟨w.heap.size + 1, 0, none⟩ = some (.int .i64 lb) := carry hbq (by first | assumption | go_simp); have : wq.cell? ⟨w.heap.size + 1, 1, none⟩ = some (.int .i64 ub) := carry hbq (by first | assumption | go_simp); have : wq.cell? ⟨w.heap.size + 1 + 1, 0, none⟩ = some (.int .i64 0) := carry hbq (by first | assumption | go_simp); have : wq.cell? ⟨w.heap.size + 1 + 1, 1, none⟩ = some (.int .i64 0) := carry hbq (by first | assumption | go_simp); have : wq.frozen? ⟨w.heap.size + 1 + 1, 0, none⟩ = false := carryF hbq (v := .int .i64 0) (by first | assumption | go_simp) (by first | assumption | go_simp); have : wq.frozen? ⟨w.heap.size + 1 + 1, 1, none⟩ = false := carryF hbq (v := .int .i64 0) (by first | assumption | go_simp) (by first | assumption | go_simp); have : w.heap.size + 1 + 1 < wq.heap.size := Nat.lt_of_lt_of_le (by first | assumption | (simp <;> omega)) hbq.size; have : w1.heap.size < wq.heap.size := Nat.lt_of_lt_of_le (by first | assumption | (simp <;> omega)) hbq.size; have : w1.heap.size + 1 < wq.heap.size := Nat.lt_of_lt_of_le (by first | assumption | (simp <;> omega)) hbq.size; have : Below w.heap.size w wq := Below.trans (by first | assumption | exact hB0.drew) (hbq.mono (by first | omega | (simp <;> omega)))))
  go_upto_region 13 with fail
  have b0' : ((wq.setCell ⟨w.heap.size + 1 + 1, 0, none⟩ (.int .i64 (mn (low4 (quoF la ua lb (-1))) (low4 (quoF la ua 1 ub))))).setCell ⟨w.heap.size + 1 + 1, 1, none⟩ (.int .i64 (mx (high4 (quoF la ua lb (-1))) (high4 (quoF la ua 1 ub))))).cell? ⟨w.heap.size + 1, 0, none⟩ = some (.int .i64 lb) := by go_simp
  have b1' : ((wq.setCell ⟨w.heap.size + 1 + 1, 0, none⟩ (.int .i64 (mn (low4 (quoF la ua lb (-1))) (low4 (quoF la ua 1 ub))))).setCell ⟨w.heap.size + 1 + 1, 1, none⟩ (.int .i64 (mx (high4 (quoF la ua lb (-1))) (high4 (quoF la ua 1 ub))))).cell? ⟨w.heap.size + 1, 1, none⟩ = some (.int .i64 ub) := by go_simp
  have r0' : ((wq.setCell ⟨w.heap.size + 1 + 1, 0, none⟩ (.int .i64 (mn (low4 (quoF la ua lb (-1))) (low4 (quoF la ua 1 ub))))).setCell ⟨w.heap.size + 1 + 1, 1, none⟩ (.int .i64 (mx (high4 (quoF la ua lb (-1))) (high4 (quoF la ua 1 ub))))).cell? ⟨w.heap.size + 1 + 1, 0, none⟩ = some (.int .i64 (mn (low4 (quoF la ua lb (-1))) (low4 (quoF la ua 1 ub)))) := by go_simp
  have r1' : ((wq.setCell ⟨w.heap.size + 1 + 1, 0, none⟩ (.int .i64 (mn (low4 (quoF la ua lb (-1))) (low4 (quoF la ua 1 ub))))).setCell ⟨w.heap.size + 1 + 1, 1, none⟩ (.int .i64 (mx (high4 (quoF la ua lb (-1))) (high4 (quoF la ua 1 ub))))).cell? ⟨w.heap.size + 1 + 1, 1, none⟩ = some (.int .i64 (mx (high4 (quoF la ua lb (-1))) (high4 (quoF la ua 1 ub)))) := by go_simp
  have f0' : ((wq.setCell ⟨w.heap.size + 1 + 1, 0, none⟩ (.int .i64 (mn (low4 (quoF la ua lb (-1))) (low4 (quoF la ua 1 ub))))).setCell ⟨w.heap.size + 1 + 1, 1, none⟩ (.int .i64 (mx (high4 (quoF la ua lb (-1))) (high4 (quoF la ua 1 ub))))).frozen? ⟨w.heap.size + 1 + 1, 0, none⟩ = false := by go_simp
  have f1' : ((wq.setCell ⟨w.heap.size + 1 + 1, 0, none⟩ (.int .i64 (mn (low4 (quoF la ua lb (-1))) (low4 (quoF la ua 1 ub))))).setCell ⟨w.heap.size + 1 + 1, 1, none⟩ (.int .i64 (mx (high4 (quoF la ua lb (-1))) (high4 (quoF la ua 1 ub))))).frozen? ⟨w.heap.size + 1 + 1, 1, none⟩ = false := by go_simp
  have hBq : Below w.heap.size w wq := by assumption
  have HBx := Lib.hid ((hBq.setCell (p := ⟨w.heap.size + 1 + 1, 0, none⟩) (by show w.heap.size ≤ w.heap.size + 1 + 1; omega) (.int .i64 (mn (low4 (quoF la ua lb (-1))) (low4 (quoF la ua 1 ub))))).setCell (p := ⟨w.heap.size + 1 + 1, 1, none⟩) (by show w.heap.size ≤ w.heap.size + 1 + 1; omega) (.int .i64 (mx (high4 (quoF la ua lb (-1))) (high4 (quoF la ua 1 ub)))))
  generalize ((wq.setCell ⟨w.heap.size + 1 + 1, 0, none⟩ (.int .i64 (mn (low4 (quoF la ua lb (-1))) (low4 (quoF la ua 1 ub))))).setCell ⟨w.heap.size + 1 + 1, 1, none⟩ (.int .i64 (mx (high4 (quoF la ua lb (-1))) (high4 (quoF la ua 1 ub))))) = wz at *
  clear hBq hB0 hn1 hn2 hn3 hn4 a0_3 a1_3 b0_3 b1_3 r0_3 rf0_3 r1_3 rf1_3 x0_3 x1_3 y0_3 y1_3
  have r0_z := r0'
  have r1_z := r1'
  go_wp2_with fail
  go_region
  all_goals go_wp2_with fail
  all_goals refine bodyPost_ret (v := opV (mn (low4 (quoF la ua lb (-1))) (low4 (quoF la ua 1 ub))) (mx (high4 (quoF la ua lb (-1))) (high4 (quoF la ua 1 ub))) true 0) ?_ rfl ⟨rfl, ?_⟩
  all_goals first | (simp [results, Try.results17, go_sem, r0_z, r1_z]; done) | (repeat (first | exact HBx.out | refine Below.drew ?_ | refine Below.setCell ?_ (by first | omega | (simp; done) | (simp; omega)) _ | refine Below.alloc ?_ (by first | omega | (simp; done) | (simp; omega)) _))

end Go.Proofs.Ytnhieokegidibaa
