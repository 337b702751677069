/-
  IntegerLattice: the walk, part D.
-/
import Derived.Test.YtnhieokegidibaaLat0

namespace Go.Proofs.Ytnhieokegidibaa.integerLattice
open Go.RowKit
set_option linter.unusedVariables false
set_option linter.unusedSimpArgs false

set_option maxRecDepth 100000 in
set_option maxHeartbeats 8000000 in
theorem cDtt (l0 u0 l1 u1 l2 u2 n ml mh jl jh : Int) (w : World) (HA : Hid (vsp l0 u0 = true)) (HB : Hid (vsp l1 u1 = true)) (HC : Hid (vsp l2 u2 = true)) (HM : Hid (meetL l0 u0 l1 u1 = ml ∧ meetH l0 u0 l1 u1 = mh ∧ meetE l0 u0 l1 u1 = 5)) (HIA : Hid ((decide (l0 ≤ n) && decide (n ≤ u0)) = true)) (HIB : Hid ((decide (l1 ≤ n) && decide (n ≤ u1)) = false)) (HJ : Hid (joinL l0 u0 l1 u1 = jl ∧ joinH l0 u0 l1 u1 = jh ∧ joinE l0 u0 l1 u1 = 0)) (HW1 : Hid ((decide (jl ≤ l0) && decide (u0 ≤ jh)) = true)) (HW2 : Hid ((decide (jl ≤ l1) && decide (u1 ≤ jh)) = true)) (HP : Hid ((decide (l2 ≤ l0) && decide (u0 ≤ u2)) = true)) (HQ : Hid ((decide (l2 ≤ l1) && decide (u1 ≤ u2)) = true)) (HR : Hid ((decide (l2 ≤ jl) && decide (jh ≤ u2)) = true)) (HK : Hid (meetL l0 u0 jl jh = l0 ∧ meetH l0 u0 jl jh = u0 ∧ meetE l0 u0 jl jh = 0)) :
    Calls Try.prog 6 #[spanV l0 u0, spanV l1 u1, spanV l2 u2, .int .i64 n] w fun e w' => e = .returned (.bool true) ∧ Below w.heap.size w w' := by
  go_enter Try.func6, Try.ntmps6
  go_wp2_with fail
  refine (wide_any _).mono ?_
  rintro e w1 ⟨rfl, hb1⟩
  have a0_1 : w1.cell? ⟨w.heap.size, 0, none⟩ = some (.int .i64 l0) := carry hb1 (by go_simp)
  have a1_1 : w1.cell? ⟨w.heap.size, 1, none⟩ = some (.int .i64 u0) := carry hb1 (by go_simp)
  have az_1 : w.heap.size < w1.heap.size := by have := hb1.size; first | omega | (simp at this; omega)
  have b0_1 : w1.cell? ⟨w.heap.size + 1, 0, none⟩ = some (.int .i64 l1) := carry hb1 (by go_simp)
  have b1_1 : w1.cell? ⟨w.heap.size + 1, 1, none⟩ = some (.int .i64 u1) := carry hb1 (by go_simp)
  have bz_1 : w.heap.size + 1 < w1.heap.size := by have := hb1.size; first | omega | (simp at this; omega)
  have c0_1 : w1.cell? ⟨w.heap.size + 1 + 1, 0, none⟩ = some (.int .i64 l2) := carry hb1 (by go_simp)
  have c1_1 : w1.cell? ⟨w.heap.size + 1 + 1, 1, none⟩ = some (.int .i64 u2) := carry hb1 (by go_simp)
  have cz_1 : w.heap.size + 1 + 1 < w1.heap.size := by have := hb1.size; first | omega | (simp at this; omega)
  have HB_1 := Lib.hid ((by repeat (first | exact Below.refl _ _ | refine Below.drew ?_ | refine Below.setCell ?_ (by first | omega | (simp; done) | (simp; omega)) _ | refine Below.alloc ?_ (by first | omega | (simp; done) | (simp; omega)) _) : Below w.heap.size w _).trans (hb1.mono (by first | omega | (simp; done) | (simp; omega))))
  have nz_1 : w.heap.size ≤ w1.heap.size := HB_1.out.size
  clear hb1
  go_wp2_with fail
  refine (vspan_is HA.out _).mono ?_
  rintro e w2 ⟨rfl, hb2⟩
  have a0_2 : w2.cell? ⟨w.heap.size, 0, none⟩ = some (.int .i64 l0) := carry hb2 (by go_simp)
  have a1_2 : w2.cell? ⟨w.heap.size, 1, none⟩ = some (.int .i64 u0) := carry hb2 (by go_simp)
  have az_2 : w.heap.size < w2.heap.size := by have := hb2.size; first | omega | (simp at this; omega)
  have b0_2 : w2.cell? ⟨w.heap.size + 1, 0, none⟩ = some (.int .i64 l1) := carry hb2 (by go_simp)
  have b1_2 : w2.cell? ⟨w.heap.size + 1, 1, none⟩ = some (.int .i64 u1) := carry hb2 (by go_simp)
  have bz_2 : w.heap.size + 1 < w2.heap.size := by have := hb2.size; first | omega | (simp at this; omega)
  have c0_2 : w2.cell? ⟨w.heap.size + 1 + 1, 0, none⟩ = some (.int .i64 l2) := carry hb2 (by go_simp)
  have c1_2 : w2.cell? ⟨w.heap.size + 1 + 1, 1, none⟩ = some (.int .i64 u2) := carry hb2 (by go_simp)
  have cz_2 : w.heap.size + 1 + 1 < w2.heap.size := by have := hb2.size; first | omega | (simp at this; omega)
  have HB_2 := Lib.hid ((by repeat (first | exact HB_1.out | refine Below.drew ?_ | refine Below.setCell ?_ (by first | omega | (simp; done) | (simp; omega)) _ | refine Below.alloc ?_ (by first | omega | (simp; done) | (simp; omega)) _) : Below w.heap.size w _).trans (hb2.mono (by first | omega | (simp; done) | (simp; omega))))
  have nz_2 : w.heap.size ≤ w2.heap.size := HB_2.out.size
  clear hb2 a0_1 a1_1 b0_1 b1_1 c0_1 c1_1 HB_1
  go_wp2_with fail
  refine (vspan_is HB.out _).mono ?_
  rintro e w3 ⟨rfl, hb3⟩
  have a0_3 : w3.cell? ⟨w.heap.size, 0, none⟩ = some (.int .i64 l0) := carry hb3 (by go_simp)
  have a1_3 : w3.cell? ⟨w.heap.size, 1, none⟩ = some (.int .i64 u0) := carry hb3 (by go_simp)
  have az_3 : w.heap.size < w3.heap.size := by have := hb3.size; first | omega | (simp at this; omega)
  have b0_3 : w3.cell? ⟨w.heap.size + 1, 0, none⟩ = some (.int .i64 l1) := carry hb3 (by go_simp)
  have b1_3 : w3.cell? ⟨w.heap.size + 1, 1, none⟩ = some (.int .i64 u1) := carry hb3 (by go_simp)
  have bz_3 : w.heap.size + 1 < w3.heap.size := by have := hb3.size; first | omega | (simp at this; omega)
  have c0_3 : w3.cell? ⟨w.heap.size + 1 + 1, 0, none⟩ = some (.int .i64 l2) := carry hb3 (by go_simp)
  have c1_3 : w3.cell? ⟨w.heap.size + 1 + 1, 1, none⟩ = some (.int .i64 u2) := carry hb3 (by go_simp)
  have cz_3 : w.heap.size + 1 + 1 < w3.heap.size := by have := hb3.size; first | omega | (simp at this; omega)
  have HB_3 := Lib.hid ((by repeat (first | exact HB_2.out | refine Below.drew ?_ | refine Below.setCell ?_ (by first | omega | (simp; done) | (simp; omega)) _ | refine Below.alloc ?_ (by first | omega | (simp; done) | (simp; omega)) _) : Below w.heap.size w _).trans (hb3.mono (by first | omega | (simp; done) | (simp; omega))))
  have nz_3 : w.heap.size ≤ w3.heap.size := HB_3.out.size
  clear hb3 a0_2 a1_2 b0_2 b1_2 c0_2 c1_2 HB_2
  go_wp2_with fail
  refine (vspan_is HC.out _).mono ?_
  rintro e w4 ⟨rfl, hb4⟩
  have a0_4 : w4.cell? ⟨w.heap.size, 0, none⟩ = some (.int .i64 l0) := carry hb4 (by go_simp)
  have a1_4 : w4.cell? ⟨w.heap.size, 1, none⟩ = some (.int .i64 u0) := carry hb4 (by go_simp)
  have az_4 : w.heap.size < w4.heap.size := by have := hb4.size; first | omega | (simp at this; omega)
  have b0_4 : w4.cell? ⟨w.heap.size + 1, 0, none⟩ = some (.int .i64 l1) := carry hb4 (by go_simp)
  have b1_4 : w4.cell? ⟨w.heap.size + 1, 1, none⟩ = some (.int .i64 u1) := carry hb4 (by go_simp)
  have bz_4 : w.heap.size + 1 < w4.heap.size := by have := hb4.size; first | omega | (simp at this; omega)
  have c0_4 : w4.cell? ⟨w.heap.size + 1 + 1, 0, none⟩ = some (.int .i64 l2) := carry hb4 (by go_simp)
  have c1_4 : w4.cell? ⟨w.heap.size + 1 + 1, 1, none⟩ = some (.int .i64 u2) := carry hb4 (by go_simp)
  have cz_4 : w.heap.size + 1 + 1 < w4.heap.size := by have := hb4.size; first | omega | (simp at this; omega)
  have HB_4 := Lib.hid ((by repeat (first | exact HB_3.out | refine Below.drew ?_ | refine Below.setCell ?_ (by first | omega | (simp; done) | (simp; omega)) _ | refine Below.alloc ?_ (by first | omega | (simp; done) | (simp; omega)) _) : Below w.heap.size w _).trans (hb4.mono (by first | omega | (simp; done) | (simp; omega))))
  have nz_4 : w.heap.size ≤ w4.heap.size := HB_4.out.size
  clear hb4 a0_3 a1_3 b0_3 b1_3 c0_3 c1_3 HB_3
  go_wp2_with fail
  refine (smeet_is HM.out _).mono ?_
  rintro e w5 ⟨rfl, hb5⟩
  have a0_5 : w5.cell? ⟨w.heap.size, 0, none⟩ = some (.int .i64 l0) := carry hb5 (by go_simp)
  have a1_5 : w5.cell? ⟨w.heap.size, 1, none⟩ = some (.int .i64 u0) := carry hb5 (by go_simp)
  have az_5 : w.heap.size < w5.heap.size := by have := hb5.size; first | omega | (simp at this; omega)
  have b0_5 : w5.cell? ⟨w.heap.size + 1, 0, none⟩ = some (.int .i64 l1) := carry hb5 (by go_simp)
  have b1_5 : w5.cell? ⟨w.heap.size + 1, 1, none⟩ = some (.int .i64 u1) := carry hb5 (by go_simp)
  have bz_5 : w.heap.size + 1 < w5.heap.size := by have := hb5.size; first | omega | (simp at this; omega)
  have c0_5 : w5.cell? ⟨w.heap.size + 1 + 1, 0, none⟩ = some (.int .i64 l2) := carry hb5 (by go_simp)
  have c1_5 : w5.cell? ⟨w.heap.size + 1 + 1, 1, none⟩ = some (.int .i64 u2) := carry hb5 (by go_simp)
  have cz_5 : w.heap.size + 1 + 1 < w5.heap.size := by have := hb5.size; first | omega | (simp at this; omega)
  have HB_5 := Lib.hid ((by repeat (first | exact HB_4.out | refine Below.drew ?_ | refine Below.setCell ?_ (by first | omega | (simp; done) | (simp; omega)) _ | refine Below.alloc ?_ (by first | omega | (simp; done) | (simp; omega)) _) : Below w.heap.size w _).trans (hb5.mono (by first | omega | (simp; done) | (simp; omega))))
  have nz_5 : w.heap.size ≤ w5.heap.size := HB_5.out.size
  clear hb5 a0_4 a1_4 b0_4 b1_4 c0_4 c1_4 HB_4
  go_upto_region 7 with fail
  have hB0 := HB_5.out
  have hia := HIA.out
  have hib := HIB.out
  skip
  refine wp_region_noPanic ?_
  refine wp_region_held_drew (S := fun wx => wx.cell? ⟨w.heap.size, 0, none⟩ = some (.int .i64 l0) ∧ wx.cell? ⟨w.heap.size, 1, none⟩ = some (.int .i64 u0) ∧ w.heap.size < wx.heap.size ∧ wx.cell? ⟨w.heap.size + 1, 0, none⟩ = some (.int .i64 l1) ∧ wx.cell? ⟨w.heap.size + 1, 1, none⟩ = some (.int .i64 u1) ∧ w.heap.size + 1 < wx.heap.size ∧ wx.cell? ⟨w.heap.size + 1 + 1, 0, none⟩ = some (.int .i64 l2) ∧ wx.cell? ⟨w.heap.size + 1 + 1, 1, none⟩ = some (.int .i64 u2) ∧ w.heap.size + 1 + 1 < wx.heap.size ∧ wx.cell? ⟨w5.heap.size, 0, none⟩ = some (.int .i64 ml) ∧ wx.cell? ⟨w5.heap.size, 1, none⟩ = some (.int .i64 mh) ∧ w5.heap.size < wx.heap.size ∧ Below w.heap.size w wx) (by kernel_rfl) ?_ (fun hHeld => ?_)
  · (try dsimp only)
    (first | (go_keep; done) | ((try go_split_ands); (repeat' apply And.intro) <;> first | assumption | (go_simp; done) | (simp only [World.size_alloc, World.size_drew]; omega) | (go_keep; done) | (exact hB0.drew) | (exact (hB0.alloc (by first | omega | (simp <;> omega)) _).drew) | (exact carry hbq (by first | assumption | go_simp)) | (exact Nat.lt_of_lt_of_le (by first | assumption | (simp <;> omega)) hbq.size) | (simp <;> omega) | (exact Below.trans (by assumption) (hbq.mono (by first | omega | (simp <;> omega))))))
  refine wpAnyH_take (i := 0) (oi := _) (v := ?_) rfl (by kernel_rfl) (by kernel_rfl) (by kernel_rfl) (fun _ _ _ h => h) (Or.inl ⟨by rfl, ?hy0⟩) (by assumption) ?rest0
  case hy0 => (intro w hSw; (try dsimp only at hSw); go_simp; (try with_reducible rfl))
  (try simp only [Act.put, List.setIfInBounds_toArray, List.set_cons_zero, List.set_cons_succ])
  refine wpAnyH_take (i := 1) (oi := _) (v := ?_) rfl (by kernel_rfl) (by kernel_rfl) (by kernel_rfl) (fun _ _ _ h => h) (Or.inl ⟨by rfl, ?hy1⟩) (by assumption) ?rest1
  case hy1 => (intro w hSw; (try dsimp only at hSw); go_simp; (try with_reducible rfl))
  (try simp only [Act.put, List.setIfInBounds_toArray, List.set_cons_zero, List.set_cons_succ])
  refine wpAnyH_take (i := 2) (oi := _) (v := ?_) rfl (by kernel_rfl) (by kernel_rfl) (by kernel_rfl) (fun _ _ _ h => h) (Or.inl ⟨by rfl, ?hy2⟩) (by assumption) ?rest2
  case hy2 => (intro w hSw; (try dsimp only at hSw); go_simp; (try with_reducible rfl))
  (try simp only [Act.put, List.setIfInBounds_toArray, List.set_cons_zero, List.set_cons_succ])
  refine wpAnyH_take (i := 3) (oi := _) (v := _) rfl (by kernel_rfl) (by kernel_rfl) (by kernel_rfl) (fun _ _ _ h => h) (Or.inr ⟨by rfl, rfl⟩) (by assumption) ?_
  (try simp only [Act.put, List.setIfInBounds_toArray, List.set_cons_zero, List.set_cons_succ])
  refine wpAnyH_take (i := 4) (oi := _) (v := _) rfl (by kernel_rfl) (by kernel_rfl) (by kernel_rfl) (fun _ _ _ h => h) (Or.inr ⟨by rfl, rfl⟩) (by assumption) ?_
  (try simp only [Act.put, List.setIfInBounds_toArray, List.set_cons_zero, List.set_cons_succ])
  refine wpAnyH_take (i := 7) (oi := _) (v := ?_) rfl (by kernel_rfl) (by kernel_rfl) (by kernel_rfl) (fun _ _ _ h => h) (Or.inl ⟨by rfl, ?hy7⟩) (by assumption) ?rest7
  case hy7 => (intro w hSw; (try dsimp only at hSw); go_simp; (try with_reducible rfl))
  (try simp only [Act.put, List.setIfInBounds_toArray, List.set_cons_zero, List.set_cons_succ])
  refine wpAnyH_take (i := 8) (oi := _) (v := ?_) rfl (by kernel_rfl) (by kernel_rfl) (by kernel_rfl) (fun _ _ _ h => h) (Or.inl ⟨by rfl, ?hy8⟩) (by assumption) ?rest8
  case hy8 => (intro w hSw; (try dsimp only at hSw); go_simp; (try with_reducible rfl))
  (try simp only [Act.put, List.setIfInBounds_toArray, List.set_cons_zero, List.set_cons_succ])
  refine wpAnyH_take (i := 5) (oi := _) (v := _) rfl (by kernel_rfl) (by kernel_rfl) (by kernel_rfl) (fun _ _ _ h => h) (Or.inr ⟨by rfl, rfl⟩) (by assumption) ?_
  (try simp only [Act.put, List.setIfInBounds_toArray, List.set_cons_zero, List.set_cons_succ])
  refine wpAnyH_take (i := 6) (oi := _) (v := ?_) rfl (by kernel_rfl) (by kernel_rfl) (by kernel_rfl) (fun _ _ _ h => h) (Or.inl ⟨by rfl, ?hy6⟩) (by assumption) ?rest6
  case hy6 => (intro w hSw; (try dsimp only at hSw); go_simp; (try with_reducible rfl))
  (try simp only [Act.put, List.setIfInBounds_toArray, List.set_cons_zero, List.set_cons_succ])
  refine wpAnyH_ready (rs := [9]) (by kernel_rfl) (by simp) ?_
  refine AllReadyH.cons (o := _) rfl (fun K hK => ?_) AllReadyH.nil
  go_simp
  (first
      | (go_at_call 23; ((with_reducible refine (rin_is hia _).mono ?_); rintro e wq ⟨rfl, hbq⟩))
      | (go_at_call 23; ((with_reducible refine (rin_is hib _).mono ?_); rintro e wq ⟨rfl, hbq⟩)))
  go_wp2_with fail
  refine hK.out _ _ ?_ (fun hHeld => ?_)
  · (try dsimp only)
    (first | (go_keep; done) | ((try go_split_ands); (repeat' apply And.intro) <;> first | assumption | (go_simp; done) | (simp only [World.size_alloc, World.size_drew]; omega) | (go_keep; done) | (exact hB0.drew) | (exact (hB0.alloc (by first | omega | (simp <;> omega)) _).drew) | (exact carry hbq (by first | assumption | go_simp)) | (exact Nat.lt_of_lt_of_le (by first | assumption | (simp <;> omega)) hbq.size) | (simp <;> omega) | (exact Below.trans (by assumption) (hbq.mono (by first | omega | (simp <;> omega))))))
  clear hK K
  (try simp only [Act.put, List.setIfInBounds_toArray, List.set_cons_zero, List.set_cons_succ])
  refine wpAnyH_take (i := 10) (oi := _) (v := ?_) rfl (by kernel_rfl) (by kernel_rfl) (by kernel_rfl) (fun _ _ _ h => h) (Or.inl ⟨by rfl, ?hy10⟩) (by assumption) ?rest10
  case hy10 => (intro w hSw; (try dsimp only at hSw); go_simp; (try with_reducible rfl))
  (try simp only [Act.put, List.setIfInBounds_toArray, List.set_cons_zero, List.set_cons_succ])
  refine wpAnyH_take (i := 11) (oi := _) (v := ?_) rfl (by kernel_rfl) (by kernel_rfl) (by kernel_rfl) (fun _ _ _ h => h) (Or.inl ⟨by rfl, ?hy11⟩) (by assumption) ?rest11
  case hy11 => (intro w hSw; (try dsimp only at hSw); go_simp; (try with_reducible rfl))
  (try simp only [Act.put, List.setIfInBounds_toArray, List.set_cons_zero, List.set_cons_succ])
  refine wpAnyH_take (i := 12) (oi := _) (v := ?_) rfl (by kernel_rfl) (by kernel_rfl) (by kernel_rfl) (fun _ _ _ h => h) (Or.inl ⟨by rfl, ?hy12⟩) (by assumption) ?rest12
  case hy12 => (intro w hSw; (try dsimp only at hSw); go_simp; (try with_reducible rfl))
  (try simp only [Act.put, List.setIfInBounds_toArray, List.set_cons_zero, List.set_cons_succ])
  refine wpAnyH_ready (rs := [13]) (by kernel_rfl) (by simp) ?_
  refine AllReadyH.cons (o := _) rfl (fun K hK => ?_) AllReadyH.nil
  go_simp
  (first
      | (go_at_call 23; ((with_reducible refine (rin_is hia _).mono ?_); rintro e wq ⟨rfl, hbq⟩))
      | (go_at_call 23; ((with_reducible refine (rin_is hib _).mono ?_); rintro e wq ⟨rfl, hbq⟩)))
  go_wp2_with fail
  refine hK.out _ _ ?_ (fun hHeld => ?_)
  · (try dsimp only)
    (first | (go_keep; done) | ((try go_split_ands); (repeat' apply And.intro) <;> first | assumption | (go_simp; done) | (simp only [World.size_alloc, World.size_drew]; omega) | (go_keep; done) | (exact hB0.drew) | (exact (hB0.alloc (by first | omega | (simp <;> omega)) _).drew) | (exact carry hbq (by first | assumption | go_simp)) | (exact Nat.lt_of_lt_of_le (by first | assumption | (simp <;> omega)) hbq.size) | (simp <;> omega) | (exact Below.trans (by assumption) (hbq.mono (by first | omega | (simp <;> omega))))))
  clear hK K
  (try simp only [Act.put, List.setIfInBounds_toArray, List.set_cons_zero, List.set_cons_succ])
  refine wpAnyH_take (i := 14) (oi := _) (v := ?_) rfl (by kernel_rfl) (by kernel_rfl) (by kernel_rfl) (fun _ _ _ h => h) (Or.inl ⟨by rfl, ?hy14⟩) (by assumption) ?rest14
  case hy14 => (intro w hSw; (try dsimp only at hSw); go_simp; (try with_reducible rfl))
  (try simp only [Act.put, List.setIfInBounds_toArray, List.set_cons_zero, List.set_cons_succ])
  refine wpAnyH_take (i := 15) (oi := _) (v := ?_) rfl (by kernel_rfl) (by kernel_rfl) (by kernel_rfl) (fun _ _ _ h => h) (Or.inl ⟨by rfl, ?hy15⟩) (by assumption) ?rest15
  case hy15 => (intro w hSw; (try dsimp only at hSw); go_simp; (try with_reducible rfl))
  (try simp only [Act.put, List.setIfInBounds_toArray, List.set_cons_zero, List.set_cons_succ])
  refine wpAnyH_done (by kernel_rfl) ?_ _
  refine NoPanic.normal ?_
  have hS : wq.cell? ⟨w.heap.size, 0, none⟩ = some (.int .i64 l0) ∧ wq.cell? ⟨w.heap.size, 1, none⟩ = some (.int .i64 u0) ∧ w.heap.size < wq.heap.size ∧ wq.cell? ⟨w.heap.size + 1, 0, none⟩ = some (.int .i64 l1) ∧ wq.cell? ⟨w.heap.size + 1, 1, none⟩ = some (.int .i64 u1) ∧ w.heap.size + 1 < wq.heap.size ∧ wq.cell? ⟨w.heap.size + 1 + 1, 0, none⟩ = some (.int .i64 l2) ∧ wq.cell? ⟨w.heap.size + 1 + 1, 1, none⟩ = some (.int .i64 u2) ∧ w.heap.size + 1 + 1 < wq.heap.size ∧ wq.cell? ⟨w5.heap.size, 0, none⟩ = some (.int .i64 ml) ∧ wq.cell? ⟨w5.heap.size, 1, none⟩ = some (.int .i64 mh) ∧ w5.heap.size < wq.heap.size ∧ Below w.heap.size w wq := by assumption
  clear hB0 hia hib  a0_5 a1_5 b0_5 b1_5 c0_5 c1_5 HB_5
  obtain ⟨a0_q, a1_q, az_q, b0_q, b1_q, bz_q, c0_q, c1_q, cz_q, s0_q, s1_q, sz_q, hBq⟩ := hS
  have HBq := Lib.hid hBq
  clear hBq
  go_wp2_with fail
  refine (sjoin_is HJ.out _).mono ?_
  rintro e w6 ⟨rfl, hb6⟩
  have a0_6 : w6.cell? ⟨w.heap.size, 0, none⟩ = some (.int .i64 l0) := carry hb6 (by go_simp)
  have a1_6 : w6.cell? ⟨w.heap.size, 1, none⟩ = some (.int .i64 u0) := carry hb6 (by go_simp)
  have az_6 : w.heap.size < w6.heap.size := by have := hb6.size; first | omega | (simp at this; omega)
  have b0_6 : w6.cell? ⟨w.heap.size + 1, 0, none⟩ = some (.int .i64 l1) := carry hb6 (by go_simp)
  have b1_6 : w6.cell? ⟨w.heap.size + 1, 1, none⟩ = some (.int .i64 u1) := carry hb6 (by go_simp)
  have bz_6 : w.heap.size + 1 < w6.heap.size := by have := hb6.size; first | omega | (simp at this; omega)
  have c0_6 : w6.cell? ⟨w.heap.size + 1 + 1, 0, none⟩ = some (.int .i64 l2) := carry hb6 (by go_simp)
  have c1_6 : w6.cell? ⟨w.heap.size + 1 + 1, 1, none⟩ = some (.int .i64 u2) := carry hb6 (by go_simp)
  have cz_6 : w.heap.size + 1 + 1 < w6.heap.size := by have := hb6.size; first | omega | (simp at this; omega)
  have s0_6 : w6.cell? ⟨w5.heap.size, 0, none⟩ = some (.int .i64 ml) := carry hb6 (by go_simp)
  have s1_6 : w6.cell? ⟨w5.heap.size, 1, none⟩ = some (.int .i64 mh) := carry hb6 (by go_simp)
  have sz_6 : w5.heap.size < w6.heap.size := by have := hb6.size; first | omega | (simp at this; omega)
  have HB_6 := Lib.hid ((by repeat (first | exact HBq.out | refine Below.drew ?_ | refine Below.setCell ?_ (by first | omega | (simp; done) | (simp; omega)) _ | refine Below.alloc ?_ (by first | omega | (simp; done) | (simp; omega)) _) : Below w.heap.size w _).trans (hb6.mono (by first | omega | (simp; done) | (simp; omega))))
  have nz_6 : w.heap.size ≤ w6.heap.size := HB_6.out.size
  clear hb6 a0_q a1_q b0_q b1_q c0_q c1_q s0_q s1_q HBq
  go_wp2_with fail
  refine (within_is HW1.out _).mono ?_
  rintro e w7 ⟨rfl, hb7⟩
  have a0_7 : w7.cell? ⟨w.heap.size, 0, none⟩ = some (.int .i64 l0) := carry hb7 (by go_simp)
  have a1_7 : w7.cell? ⟨w.heap.size, 1, none⟩ = some (.int .i64 u0) := carry hb7 (by go_simp)
  have az_7 : w.heap.size < w7.heap.size := by have := hb7.size; first | omega | (simp at this; omega)
  have b0_7 : w7.cell? ⟨w.heap.size + 1, 0, none⟩ = some (.int .i64 l1) := carry hb7 (by go_simp)
  have b1_7 : w7.cell? ⟨w.heap.size + 1, 1, none⟩ = some (.int .i64 u1) := carry hb7 (by go_simp)
  have bz_7 : w.heap.size + 1 < w7.heap.size := by have := hb7.size; first | omega | (simp at this; omega)
  have c0_7 : w7.cell? ⟨w.heap.size + 1 + 1, 0, none⟩ = some (.int .i64 l2) := carry hb7 (by go_simp)
  have c1_7 : w7.cell? ⟨w.heap.size + 1 + 1, 1, none⟩ = some (.int .i64 u2) := carry hb7 (by go_simp)
  have cz_7 : w.heap.size + 1 + 1 < w7.heap.size := by have := hb7.size; first | omega | (simp at this; omega)
  have s0_7 : w7.cell? ⟨w5.heap.size, 0, none⟩ = some (.int .i64 ml) := carry hb7 (by go_simp)
  have s1_7 : w7.cell? ⟨w5.heap.size, 1, none⟩ = some (.int .i64 mh) := carry hb7 (by go_simp)
  have sz_7 : w5.heap.size < w7.heap.size := by have := hb7.size; first | omega | (simp at this; omega)
  have j0_7 : w7.cell? ⟨w6.heap.size, 0, none⟩ = some (.int .i64 jl) := carry hb7 (by go_simp)
  have j1_7 : w7.cell? ⟨w6.heap.size, 1, none⟩ = some (.int .i64 jh) := carry hb7 (by go_simp)
  have jz_7 : w6.heap.size < w7.heap.size := by have := hb7.size; first | omega | (simp at this; omega)
  have HB_7 := Lib.hid ((by repeat (first | exact HB_6.out | refine Below.drew ?_ | refine Below.setCell ?_ (by first | omega | (simp; done) | (simp; omega)) _ | refine Below.alloc ?_ (by first | omega | (simp; done) | (simp; omega)) _) : Below w.heap.size w _).trans (hb7.mono (by first | omega | (simp; done) | (simp; omega))))
  have nz_7 : w.heap.size ≤ w7.heap.size := HB_7.out.size
  clear hb7 a0_6 a1_6 b0_6 b1_6 c0_6 c1_6 s0_6 s1_6 HB_6
  go_wp2_with fail
  refine (within_is HW2.out _).mono ?_
  rintro e w8 ⟨rfl, hb8⟩
  have a0_8 : w8.cell? ⟨w.heap.size, 0, none⟩ = some (.int .i64 l0) := carry hb8 (by go_simp)
  have a1_8 : w8.cell? ⟨w.heap.size, 1, none⟩ = some (.int .i64 u0) := carry hb8 (by go_simp)
  have az_8 : w.heap.size < w8.heap.size := by have := hb8.size; first | omega | (simp at this; omega)
  have b0_8 : w8.cell? ⟨w.heap.size + 1, 0, none⟩ = some (.int .i64 l1) := carry hb8 (by go_simp)
  have b1_8 : w8.cell? ⟨w.heap.size + 1, 1, none⟩ = some (.int .i64 u1) := carry hb8 (by go_simp)
  have bz_8 : w.heap.size + 1 < w8.heap.size := by have := hb8.size; first | omega | (simp at this; omega)
  have c0_8 : w8.cell? ⟨w.heap.size + 1 + 1, 0, none⟩ = some (.int .i64 l2) := carry hb8 (by go_simp)
  have c1_8 : w8.cell? ⟨w.heap.size + 1 + 1, 1, none⟩ = some (.int .i64 u2) := carry hb8 (by go_simp)
  have cz_8 : w.heap.size + 1 + 1 < w8.heap.size := by have := hb8.size; first | omega | (simp at this; omega)
  have s0_8 : w8.cell? ⟨w5.heap.size, 0, none⟩ = some (.int .i64 ml) := carry hb8 (by go_simp)
  have s1_8 : w8.cell? ⟨w5.heap.size, 1, none⟩ = some (.int .i64 mh) := carry hb8 (by go_simp)
  have sz_8 : w5.heap.size < w8.heap.size := by have := hb8.size; first | omega | (simp at this; omega)
  have j0_8 : w8.cell? ⟨w6.heap.size, 0, none⟩ = some (.int .i64 jl) := carry hb8 (by go_simp)
  have j1_8 : w8.cell? ⟨w6.heap.size, 1, none⟩ = some (.int .i64 jh) := carry hb8 (by go_simp)
  have jz_8 : w6.heap.size < w8.heap.size := by have := hb8.size; first | omega | (simp at this; omega)
  have HB_8 := Lib.hid ((by repeat (first | exact HB_7.out | refine Below.drew ?_ | refine Below.setCell ?_ (by first | omega | (simp; done) | (simp; omega)) _ | refine Below.alloc ?_ (by first | omega | (simp; done) | (simp; omega)) _) : Below w.heap.size w _).trans (hb8.mono (by first | omega | (simp; done) | (simp; omega))))
  have nz_8 : w.heap.size ≤ w8.heap.size := HB_8.out.size
  clear hb8 a0_7 a1_7 b0_7 b1_7 c0_7 c1_7 s0_7 s1_7 j0_7 j1_7 HB_7
  go_wp2_with fail
  refine (within_is HP.out _).mono ?_
  rintro e w9 ⟨rfl, hb9⟩
  have a0_9 : w9.cell? ⟨w.heap.size, 0, none⟩ = some (.int .i64 l0) := carry hb9 (by go_simp)
  have a1_9 : w9.cell? ⟨w.heap.size, 1, none⟩ = some (.int .i64 u0) := carry hb9 (by go_simp)
  have az_9 : w.heap.size < w9.heap.size := by have := hb9.size; first | omega | (simp at this; omega)
  have b0_9 : w9.cell? ⟨w.heap.size + 1, 0, none⟩ = some (.int .i64 l1) := carry hb9 (by go_simp)
  have b1_9 : w9.cell? ⟨w.heap.size + 1, 1, none⟩ = some (.int .i64 u1) := carry hb9 (by go_simp)
  have bz_9 : w.heap.size + 1 < w9.heap.size := by have := hb9.size; first | omega | (simp at this; omega)
  have c0_9 : w9.cell? ⟨w.heap.size + 1 + 1, 0, none⟩ = some (.int .i64 l2) := carry hb9 (by go_simp)
  have c1_9 : w9.cell? ⟨w.heap.size + 1 + 1, 1, none⟩ = some (.int .i64 u2) := carry hb9 (by go_simp)
  have cz_9 : w.heap.size + 1 + 1 < w9.heap.size := by have := hb9.size; first | omega | (simp at this; omega)
  have s0_9 : w9.cell? ⟨w5.heap.size, 0, none⟩ = some (.int .i64 ml) := carry hb9 (by go_simp)
  have s1_9 : w9.cell? ⟨w5.heap.size, 1, none⟩ = some (.int .i64 mh) := carry hb9 (by go_simp)
  have sz_9 : w5.heap.size < w9.heap.size := by have := hb9.size; first | omega | (simp at this; omega)
  have j0_9 : w9.cell? ⟨w6.heap.size, 0, none⟩ = some (.int .i64 jl) := carry hb9 (by go_simp)
  have j1_9 : w9.cell? ⟨w6.heap.size, 1, none⟩ = some (.int .i64 jh) := carry hb9 (by go_simp)
  have jz_9 : w6.heap.size < w9.heap.size := by have := hb9.size; first | omega | (simp at this; omega)
  have HB_9 := Lib.hid ((by repeat (first | exact HB_8.out | refine Below.drew ?_ | refine Below.setCell ?_ (by first | omega | (simp; done) | (simp; omega)) _ | refine Below.alloc ?_ (by first | omega | (simp; done) | (simp; omega)) _) : Below w.heap.size w _).trans (hb9.mono (by first | omega | (simp; done) | (simp; omega))))
  have nz_9 : w.heap.size ≤ w9.heap.size := HB_9.out.size
  clear hb9 a0_8 a1_8 b0_8 b1_8 c0_8 c1_8 s0_8 s1_8 j0_8 j1_8 HB_8
  go_wp2_with fail
  refine (within_is HQ.out _).mono ?_
  rintro e w10 ⟨rfl, hb10⟩
  have a0_10 : w10.cell? ⟨w.heap.size, 0, none⟩ = some (.int .i64 l0) := carry hb10 (by go_simp)
  have a1_10 : w10.cell? ⟨w.heap.size, 1, none⟩ = some (.int .i64 u0) := carry hb10 (by go_simp)
  have az_10 : w.heap.size < w10.heap.size := by have := hb10.size; first | omega | (simp at this; omega)
  have b0_10 : w10.cell? ⟨w.heap.size + 1, 0, none⟩ = some (.int .i64 l1) := carry hb10 (by go_simp)
  have b1_10 : w10.cell? ⟨w.heap.size + 1, 1, none⟩ = some (.int .i64 u1) := carry hb10 (by go_simp)
  have bz_10 : w.heap.size + 1 < w10.heap.size := by have := hb10.size; first | omega | (simp at this; omega)
  have c0_10 : w10.cell? ⟨w.heap.size + 1 + 1, 0, none⟩ = some (.int .i64 l2) := carry hb10 (by go_simp)
  have c1_10 : w10.cell? ⟨w.heap.size + 1 + 1, 1, none⟩ = some (.int .i64 u2) := carry hb10 (by go_simp)
  have cz_10 : w.heap.size + 1 + 1 < w10.heap.size := by have := hb10.size; first | omega | (simp at this; omega)
  have s0_10 : w10.cell? ⟨w5.heap.size, 0, none⟩ = some (.int .i64 ml) := carry hb10 (by go_simp)
  have s1_10 : w10.cell? ⟨w5.heap.size, 1, none⟩ = some (.int .i64 mh) := carry hb10 (by go_simp)
  have sz_10 : w5.heap.size < w10.heap.size := by have := hb10.size; first | omega | (simp at this; omega)
  have j0_10 : w10.cell? ⟨w6.heap.size, 0, none⟩ = some (.int .i64 jl) := carry hb10 (by go_simp)
  have j1_10 : w10.cell? ⟨w6.heap.size, 1, none⟩ = some (.int .i64 jh) := carry hb10 (by go_simp)
  have jz_10 : w6.heap.size < w10.heap.size := by have := hb10.size; first | omega | (simp at this; omega)
  have HB_10 := Lib.hid ((by repeat (first | exact HB_9.out | refine Below.drew ?_ | refine Below.setCell ?_ (by first | omega | (simp; done) | (simp; omega)) _ | refine Below.alloc ?_ (by first | omega | (simp; done) | (simp; omega)) _) : Below w.heap.size w _).trans (hb10.mono (by first | omega | (simp; done) | (simp; omega))))
  have nz_10 : w.heap.size ≤ w10.heap.size := HB_10.out.size
  clear hb10 a0_9 a1_9 b0_9 b1_9 c0_9 c1_9 s0_9 s1_9 j0_9 j1_9 HB_9
  go_wp2_with fail
  refine (within_is HR.out _).mono ?_
  rintro e w11 ⟨rfl, hb11⟩
  have a0_11 : w11.cell? ⟨w.heap.size, 0, none⟩ = some (.int .i64 l0) := carry hb11 (by go_simp)
  have a1_11 : w11.cell? ⟨w.heap.size, 1, none⟩ = some (.int .i64 u0) := carry hb11 (by go_simp)
  have az_11 : w.heap.size < w11.heap.size := by have := hb11.size; first | omega | (simp at this; omega)
  have b0_11 : w11.cell? ⟨w.heap.size + 1, 0, none⟩ = some (.int .i64 l1) := carry hb11 (by go_simp)
  have b1_11 : w11.cell? ⟨w.heap.size + 1, 1, none⟩ = some (.int .i64 u1) := carry hb11 (by go_simp)
  have bz_11 : w.heap.size + 1 < w11.heap.size := by have := hb11.size; first | omega | (simp at this; omega)
  have c0_11 : w11.cell? ⟨w.heap.size + 1 + 1, 0, none⟩ = some (.int .i64 l2) := carry hb11 (by go_simp)
  have c1_11 : w11.cell? ⟨w.heap.size + 1 + 1, 1, none⟩ = some (.int .i64 u2) := carry hb11 (by go_simp)
  have cz_11 : w.heap.size + 1 + 1 < w11.heap.size := by have := hb11.size; first | omega | (simp at this; omega)
  have s0_11 : w11.cell? ⟨w5.heap.size, 0, none⟩ = some (.int .i64 ml) := carry hb11 (by go_simp)
  have s1_11 : w11.cell? ⟨w5.heap.size, 1, none⟩ = some (.int .i64 mh) := carry hb11 (by go_simp)
  have sz_11 : w5.heap.size < w11.heap.size := by have := hb11.size; first | omega | (simp at this; omega)
  have j0_11 : w11.cell? ⟨w6.heap.size, 0, none⟩ = some (.int .i64 jl) := carry hb11 (by go_simp)
  have j1_11 : w11.cell? ⟨w6.heap.size, 1, none⟩ = some (.int .i64 jh) := carry hb11 (by go_simp)
  have jz_11 : w6.heap.size < w11.heap.size := by have := hb11.size; first | omega | (simp at this; omega)
  have HB_11 := Lib.hid ((by repeat (first | exact HB_10.out | refine Below.drew ?_ | refine Below.setCell ?_ (by first | omega | (simp; done) | (simp; omega)) _ | refine Below.alloc ?_ (by first | omega | (simp; done) | (simp; omega)) _) : Below w.heap.size w _).trans (hb11.mono (by first | omega | (simp; done) | (simp; omega))))
  have nz_11 : w.heap.size ≤ w11.heap.size := HB_11.out.size
  clear hb11 a0_10 a1_10 b0_10 b1_10 c0_10 c1_10 s0_10 s1_10 j0_10 j1_10 HB_10
  go_wp2_with fail
  refine (smeet_is HK.out _).mono ?_
  rintro e w12 ⟨rfl, hb12⟩
  have a0_12 : w12.cell? ⟨w.heap.size, 0, none⟩ = some (.int .i64 l0) := carry hb12 (by go_simp)
  have a1_12 : w12.cell? ⟨w.heap.size, 1, none⟩ = some (.int .i64 u0) := carry hb12 (by go_simp)
  have az_12 : w.heap.size < w12.heap.size := by have := hb12.size; first | omega | (simp at this; omega)
  have b0_12 : w12.cell? ⟨w.heap.size + 1, 0, none⟩ = some (.int .i64 l1) := carry hb12 (by go_simp)
  have b1_12 : w12.cell? ⟨w.heap.size + 1, 1, none⟩ = some (.int .i64 u1) := carry hb12 (by go_simp)
  have bz_12 : w.heap.size + 1 < w12.heap.size := by have := hb12.size; first | omega | (simp at this; omega)
  have c0_12 : w12.cell? ⟨w.heap.size + 1 + 1, 0, none⟩ = some (.int .i64 l2) := carry hb12 (by go_simp)
  have c1_12 : w12.cell? ⟨w.heap.size + 1 + 1, 1, none⟩ = some (.int .i64 u2) := carry hb12 (by go_simp)
  have cz_12 : w.heap.size + 1 + 1 < w12.heap.size := by have := hb12.size; first | omega | (simp at this; omega)
  have s0_12 : w12.cell? ⟨w5.heap.size, 0, none⟩ = some (.int .i64 ml) := carry hb12 (by go_simp)
  have s1_12 : w12.cell? ⟨w5.heap.size, 1, none⟩ = some (.int .i64 mh) := carry hb12 (by go_simp)
  have sz_12 : w5.heap.size < w12.heap.size := by have := hb12.size; first | omega | (simp at this; omega)
  have j0_12 : w12.cell? ⟨w6.heap.size, 0, none⟩ = some (.int .i64 jl) := carry hb12 (by go_simp)
  have j1_12 : w12.cell? ⟨w6.heap.size, 1, none⟩ = some (.int .i64 jh) := carry hb12 (by go_simp)
  have jz_12 : w6.heap.size < w12.heap.size := by have := hb12.size; first | omega | (simp at this; omega)
  have HB_12 := Lib.hid ((by repeat (first | exact HB_11.out | refine Below.drew ?_ | refine Below.setCell ?_ (by first | omega | (simp; done) | (simp; omega)) _ | refine Below.alloc ?_ (by first | omega | (simp; done) | (simp; omega)) _) : Below w.heap.size w _).trans (hb12.mono (by first | omega | (simp; done) | (simp; omega))))
  have nz_12 : w.heap.size ≤ w12.heap.size := HB_12.out.size
  clear hb12 a0_11 a1_11 b0_11 b1_11 c0_11 c1_11 s0_11 s1_11 j0_11 j1_11 HB_11
  go_wp2_with fail
  go_ret
  exact ⟨rfl, by repeat (first | exact HB_12.out | refine Below.drew ?_ | refine Below.setCell ?_ (by first | omega | (simp; done) | (simp; omega)) _ | refine Below.alloc ?_ (by first | omega | (simp; done) | (simp; omega)) _)⟩

set_option maxRecDepth 100000 in
set_option maxHeartbeats 8000000 in
theorem cDtf (l0 u0 l1 u1 l2 u2 n ml mh jl jh : Int) (w : World) (HA : Hid (vsp l0 u0 = true)) (HB : Hid (vsp l1 u1 = true)) (HC : Hid (vsp l2 u2 = true)) (HM : Hid (meetL l0 u0 l1 u1 = ml ∧ meetH l0 u0 l1 u1 = mh ∧ meetE l0 u0 l1 u1 = 5)) (HIA : Hid ((decide (l0 ≤ n) && decide (n ≤ u0)) = true)) (HIB : Hid ((decide (l1 ≤ n) && decide (n ≤ u1)) = false)) (HJ : Hid (joinL l0 u0 l1 u1 = jl ∧ joinH l0 u0 l1 u1 = jh ∧ joinE l0 u0 l1 u1 = 0)) (HW1 : Hid ((decide (jl ≤ l0) && decide (u0 ≤ jh)) = true)) (HW2 : Hid ((decide (jl ≤ l1) && decide (u1 ≤ jh)) = true)) (HP : Hid ((decide (l2 ≤ l0) && decide (u0 ≤ u2)) = true)) (HQ : Hid ((decide (l2 ≤ l1) && decide (u1 ≤ u2)) = false)) (HK : Hid (meetL l0 u0 jl jh = l0 ∧ meetH l0 u0 jl jh = u0 ∧ meetE l0 u0 jl jh = 0)) :
    Calls Try.prog 6 #[spanV l0 u0, spanV l1 u1, spanV l2 u2, .int .i64 n] w fun e w' => e = .returned (.bool true) ∧ Below w.heap.size w w' := by
  go_enter Try.func6, Try.ntmps6
  go_wp2_with fail
  refine (wide_any _).mono ?_
  rintro e w1 ⟨rfl, hb1⟩
  have a0_1 : w1.cell? ⟨w.heap.size, 0, none⟩ = some (.int .i64 l0) := carry hb1 (by go_simp)
  have a1_1 : w1.cell? ⟨w.heap.size, 1, none⟩ = some (.int .i64 u0) := carry hb1 (by go_simp)
  have az_1 : w.heap.size < w1.heap.size := by have := hb1.size; first | omega | (simp at this; omega)
  have b0_1 : w1.cell? ⟨w.heap.size + 1, 0, none⟩ = some (.int .i64 l1) := carry hb1 (by go_simp)
  have b1_1 : w1.cell? ⟨w.heap.size + 1, 1, none⟩ = some (.int .i64 u1) := carry hb1 (by go_simp)
  have bz_1 : w.heap.size + 1 < w1.heap.size := by have := hb1.size; first | omega | (simp at this; omega)
  have c0_1 : w1.cell? ⟨w.heap.size + 1 + 1, 0, none⟩ = some (.int .i64 l2) := carry hb1 (by go_simp)
  have c1_1 : w1.cell? ⟨w.heap.size + 1 + 1, 1, none⟩ = some (.int .i64 u2) := carry hb1 (by go_simp)
  have cz_1 : w.heap.size + 1 + 1 < w1.heap.size := by have := hb1.size; first | omega | (simp at this; omega)
  have HB_1 := Lib.hid ((by repeat (first | exact Below.refl _ _ | refine Below.drew ?_ | refine Below.setCell ?_ (by first | omega | (simp; done) | (simp; omega)) _ | refine Below.alloc ?_ (by first | omega | (simp; done) | (simp; omega)) _) : Below w.heap.size w _).trans (hb1.mono (by first | omega | (simp; done) | (simp; omega))))
  have nz_1 : w.heap.size ≤ w1.heap.size := HB_1.out.size
  clear hb1
  go_wp2_with fail
  refine (vspan_is HA.out _).mono ?_
  rintro e w2 ⟨rfl, hb2⟩
  have a0_2 : w2.cell? ⟨w.heap.size, 0, none⟩ = some (.int .i64 l0) := carry hb2 (by go_simp)
  have a1_2 : w2.cell? ⟨w.heap.size, 1, none⟩ = some (.int .i64 u0) := carry hb2 (by go_simp)
  have az_2 : w.heap.size < w2.heap.size := by have := hb2.size; first | omega | (simp at this; omega)
  have b0_2 : w2.cell? ⟨w.heap.size + 1, 0, none⟩ = some (.int .i64 l1) := carry hb2 (by go_simp)
  have b1_2 : w2.cell? ⟨w.heap.size + 1, 1, none⟩ = some (.int .i64 u1) := carry hb2 (by go_simp)
  have bz_2 : w.heap.size + 1 < w2.heap.size := by have := hb2.size; first | omega | (simp at this; omega)
  have c0_2 : w2.cell? ⟨w.heap.size + 1 + 1, 0, none⟩ = some (.int .i64 l2) := carry hb2 (by go_simp)
  have c1_2 : w2.cell? ⟨w.heap.size + 1 + 1, 1, none⟩ = some (.int .i64 u2) := carry hb2 (by go_simp)
  have cz_2 : w.heap.size + 1 + 1 < w2.heap.size := by have := hb2.size; first | omega | (simp at this; omega)
  have HB_2 := Lib.hid ((by repeat (first | exact HB_1.out | refine Below.drew ?_ | refine Below.setCell ?_ (by first | omega | (simp; done) | (simp; omega)) _ | refine Below.alloc ?_ (by first | omega | (simp; done) | (simp; omega)) _) : Below w.heap.size w _).trans (hb2.mono (by first | omega | (simp; done) | (simp; omega))))
  have nz_2 : w.heap.size ≤ w2.heap.size := HB_2.out.size
  clear hb2 a0_1 a1_1 b0_1 b1_1 c0_1 c1_1 HB_1
  go_wp2_with fail
  refine (vspan_is HB.out _).mono ?_
  rintro e w3 ⟨rfl, hb3⟩
  have a0_3 : w3.cell? ⟨w.heap.size, 0, none⟩ = some (.int .i64 l0) := carry hb3 (by go_simp)
  have a1_3 : w3.cell? ⟨w.heap.size, 1, none⟩ = some (.int .i64 u0) := carry hb3 (by go_simp)
  have az_3 : w.heap.size < w3.heap.size := by have := hb3.size; first | omega | (simp at this; omega)
  have b0_3 : w3.cell? ⟨w.heap.size + 1, 0, none⟩ = some (.int .i64 l1) := carry hb3 (by go_simp)
  have b1_3 : w3.cell? ⟨w.heap.size + 1, 1, none⟩ = some (.int .i64 u1) := carry hb3 (by go_simp)
  have bz_3 : w.heap.size + 1 < w3.heap.size := by have := hb3.size; first | omega | (simp at this; omega)
  have c0_3 : w3.cell? ⟨w.heap.size + 1 + 1, 0, none⟩ = some (.int .i64 l2) := carry hb3 (by go_simp)
  have c1_3 : w3.cell? ⟨w.heap.size + 1 + 1, 1, none⟩ = some (.int .i64 u2) := carry hb3 (by go_simp)
  have cz_3 : w.heap.size + 1 + 1 < w3.heap.size := by have := hb3.size; first | omega | (simp at this; omega)
  have HB_3 := Lib.hid ((by repeat (first | exact HB_2.out | refine Below.drew ?_ | refine Below.setCell ?_ (by first | omega | (simp; done) | (simp; omega)) _ | refine Below.alloc ?_ (by first | omega | (simp; done) | (simp; omega)) _) : Below w.heap.size w _).trans (hb3.mono (by first | omega | (simp; done) | (simp; omega))))
  have nz_3 : w.heap.size ≤ w3.heap.size := HB_3.out.size
  clear hb3 a0_2 a1_2 b0_2 b1_2 c0_2 c1_2 HB_2
  go_wp2_with fail
  refine (vspan_is HC.out _).mono ?_
  rintro e w4 ⟨rfl, hb4⟩
  have a0_4 : w4.cell? ⟨w.heap.size, 0, none⟩ = some (.int .i64 l0) := carry hb4 (by go_simp)
  have a1_4 : w4.cell? ⟨w.heap.size, 1, none⟩ = some (.int .i64 u0) := carry hb4 (by go_simp)
  have az_4 : w.heap.size < w4.heap.size := by have := hb4.size; first | omega | (simp at this; omega)
  have b0_4 : w4.cell? ⟨w.heap.size + 1, 0, none⟩ = some (.int .i64 l1) := carry hb4 (by go_simp)
  have b1_4 : w4.cell? ⟨w.heap.size + 1, 1, none⟩ = some (.int .i64 u1) := carry hb4 (by go_simp)
  have bz_4 : w.heap.size + 1 < w4.heap.size := by have := hb4.size; first | omega | (simp at this; omega)
  have c0_4 : w4.cell? ⟨w.heap.size + 1 + 1, 0, none⟩ = some (.int .i64 l2) := carry hb4 (by go_simp)
  have c1_4 : w4.cell? ⟨w.heap.size + 1 + 1, 1, none⟩ = some (.int .i64 u2) := carry hb4 (by go_simp)
  have cz_4 : w.heap.size + 1 + 1 < w4.heap.size := by have := hb4.size; first | omega | (simp at this; omega)
  have HB_4 := Lib.hid ((by repeat (first | exact HB_3.out | refine Below.drew ?_ | refine Below.setCell ?_ (by first | omega | (simp; done) | (simp; omega)) _ | refine Below.alloc ?_ (by first | omega | (simp; done) | (simp; omega)) _) : Below w.heap.size w _).trans (hb4.mono (by first | omega | (simp; done) | (simp; omega))))
  have nz_4 : w.heap.size ≤ w4.heap.size := HB_4.out.size
  clear hb4 a0_3 a1_3 b0_3 b1_3 c0_3 c1_3 HB_3
  go_wp2_with fail
  refine (smeet_is HM.out _).mono ?_
  rintro e w5 ⟨rfl, hb5⟩
  have a0_5 : w5.cell? ⟨w.heap.size, 0, none⟩ = some (.int .i64 l0) := carry hb5 (by go_simp)
  have a1_5 : w5.cell? ⟨w.heap.size, 1, none⟩ = some (.int .i64 u0) := carry hb5 (by go_simp)
  have az_5 : w.heap.size < w5.heap.size := by have := hb5.size; first | omega | (simp at this; omega)
  have b0_5 : w5.cell? ⟨w.heap.size + 1, 0, none⟩ = some (.int .i64 l1) := carry hb5 (by go_simp)
  have b1_5 : w5.cell? ⟨w.heap.size + 1, 1, none⟩ = some (.int .i64 u1) := carry hb5 (by go_simp)
  have bz_5 : w.heap.size + 1 < w5.heap.size := by have := hb5.size; first | omega | (simp at this; omega)
  have c0_5 : w5.cell? ⟨w.heap.size + 1 + 1, 0, none⟩ = some (.int .i64 l2) := carry hb5 (by go_simp)
  have c1_5 : w5.cell? ⟨w.heap.size + 1 + 1, 1, none⟩ = some (.int .i64 u2) := carry hb5 (by go_simp)
  have cz_5 : w.heap.size + 1 + 1 < w5.heap.size := by have := hb5.size; first | omega | (simp at this; omega)
  have HB_5 := Lib.hid ((by repeat (first | exact HB_4.out | refine Below.drew ?_ | refine Below.setCell ?_ (by first | omega | (simp; done) | (simp; omega)) _ | refine Below.alloc ?_ (by first | omega | (simp; done) | (simp; omega)) _) : Below w.heap.size w _).trans (hb5.mono (by first | omega | (simp; done) | (simp; omega))))
  have nz_5 : w.heap.size ≤ w5.heap.size := HB_5.out.size
  clear hb5 a0_4 a1_4 b0_4 b1_4 c0_4 c1_4 HB_4
  go_upto_region 7 with fail
  have hB0 := HB_5.out
  have hia := HIA.out
  have hib := HIB.out
  skip
  refine wp_region_noPanic ?_
  refine wp_region_held_drew (S := fun wx => wx.cell? ⟨w.heap.size, 0, none⟩ = some (.int .i64 l0) ∧ wx.cell? ⟨w.heap.size, 1, none⟩ = some (.int .i64 u0) ∧ w.heap.size < wx.heap.size ∧ wx.cell? ⟨w.heap.size + 1, 0, none⟩ = some (.int .i64 l1) ∧ wx.cell? ⟨w.heap.size + 1, 1, none⟩ = some (.int .i64 u1) ∧ w.heap.size + 1 < wx.heap.size ∧ wx.cell? ⟨w.heap.size + 1 + 1, 0, none⟩ = some (.int .i64 l2) ∧ wx.cell? ⟨w.heap.size + 1 + 1, 1, none⟩ = some (.int .i64 u2) ∧ w.heap.size + 1 + 1 < wx.heap.size ∧ wx.cell? ⟨w5.heap.size, 0, none⟩ = some (.int .i64 ml) ∧ wx.cell? ⟨w5.heap.size, 1, none⟩ = some (.int .i64 mh) ∧ w5.heap.size < wx.heap.size ∧ Below w.heap.size w wx) (by kernel_rfl) ?_ (fun hHeld => ?_)
  · (try dsimp only)
    (first | (go_keep; done) | ((try go_split_ands); (repeat' apply And.intro) <;> first | assumption | (go_simp; done) | (simp only [World.size_alloc, World.size_drew]; omega) | (go_keep; done) | (exact hB0.drew) | (exact (hB0.alloc (by first | omega | (simp <;> omega)) _).drew) | (exact carry hbq (by first | assumption | go_simp)) | (exact Nat.lt_of_lt_of_le (by first | assumption | (simp <;> omega)) hbq.size) | (simp <;> omega) | (exact Below.trans (by assumption) (hbq.mono (by first | omega | (simp <;> omega))))))
  refine wpAnyH_take (i := 0) (oi := _) (v := ?_) rfl (by kernel_rfl) (by kernel_rfl) (by kernel_rfl) (fun _ _ _ h => h) (Or.inl ⟨by rfl, ?hy0⟩) (by assumption) ?rest0
  case hy0 => (intro w hSw; (try dsimp only at hSw); go_simp; (try with_reducible rfl))
  (try simp only [Act.put, List.setIfInBounds_toArray, List.set_cons_zero, List.set_cons_succ])
  refine wpAnyH_take (i := 1) (oi := _) (v := ?_) rfl (by kernel_rfl) (by kernel_rfl) (by kernel_rfl) (fun _ _ _ h => h) (Or.inl ⟨by rfl, ?hy1⟩) (by assumption) ?rest1
  case hy1 => (intro w hSw; (try dsimp only at hSw); go_simp; (try with_reducible rfl))
  (try simp only [Act.put, List.setIfInBounds_toArray, List.set_cons_zero, List.set_cons_succ])
  refine wpAnyH_take (i := 2) (oi := _) (v := ?_) rfl (by kernel_rfl) (by kernel_rfl) (by kernel_rfl) (fun _ _ _ h => h) (Or.inl ⟨by rfl, ?hy2⟩) (by assumption) ?rest2
  case hy2 => (intro w hSw; (try dsimp only at hSw); go_simp; (try with_reducible rfl))
  (try simp only [Act.put, List.setIfInBounds_toArray, List.set_cons_zero, List.set_cons_succ])
  refine wpAnyH_take (i := 3) (oi := _) (v := _) rfl (by kernel_rfl) (by kernel_rfl) (by kernel_rfl) (fun _ _ _ h => h) (Or.inr ⟨by rfl, rfl⟩) (by assumption) ?_
  (try simp only [Act.put, List.setIfInBounds_toArray, List.set_cons_zero, List.set_cons_succ])
  refine wpAnyH_take (i := 4) (oi := _) (v := _) rfl (by kernel_rfl) (by kernel_rfl) (by kernel_rfl) (fun _ _ _ h => h) (Or.inr ⟨by rfl, rfl⟩) (by assumption) ?_
  (try simp only [Act.put, List.setIfInBounds_toArray, List.set_cons_zero, List.set_cons_succ])
  refine wpAnyH_take (i := 7) (oi := _) (v := ?_) rfl (by kernel_rfl) (by kernel_rfl) (by kernel_rfl) (fun _ _ _ h => h) (Or.inl ⟨by rfl, ?hy7⟩) (by assumption) ?rest7
  case hy7 => (intro w hSw; (try dsimp only at hSw); go_simp; (try with_reducible rfl))
  (try simp only [Act.put, List.setIfInBounds_toArray, List.set_cons_zero, List.set_cons_succ])
  refine wpAnyH_take (i := 8) (oi := _) (v := ?_) rfl (by kernel_rfl) (by kernel_rfl) (by kernel_rfl) (fun _ _ _ h => h) (Or.inl ⟨by rfl, ?hy8⟩) (by assumption) ?rest8
  case hy8 => (intro w hSw; (try dsimp only at hSw); go_simp; (try with_reducible rfl))
  (try simp only [Act.put, List.setIfInBounds_toArray, List.set_cons_zero, List.set_cons_succ])
  refine wpAnyH_take (i := 5) (oi := _) (v := _) rfl (by kernel_rfl) (by kernel_rfl) (by kernel_rfl) (fun _ _ _ h => h) (Or.inr ⟨by rfl, rfl⟩) (by assumption) ?_
  (try simp only [Act.put, List.setIfInBounds_toArray, List.set_cons_zero, List.set_cons_succ])
  refine wpAnyH_take (i := 6) (oi := _) (v := ?_) rfl (by kernel_rfl) (by kernel_rfl) (by kernel_rfl) (fun _ _ _ h => h) (Or.inl ⟨by rfl, ?hy6⟩) (by assumption) ?rest6
  case hy6 => (intro w hSw; (try dsimp only at hSw); go_simp; (try with_reducible rfl))
  (try simp only [Act.put, List.setIfInBounds_toArray, List.set_cons_zero, List.set_cons_succ])
  refine wpAnyH_ready (rs := [9]) (by kernel_rfl) (by simp) ?_
  refine AllReadyH.cons (o := _) rfl (fun K hK => ?_) AllReadyH.nil
  go_simp
  (first
      | (go_at_call 23; ((with_reducible refine (rin_is hia _).mono ?_); rintro e wq ⟨rfl, hbq⟩))
      | (go_at_call 23; ((with_reducible refine (rin_is hib _).mono ?_); rintro e wq ⟨rfl, hbq⟩)))
  go_wp2_with fail
  refine hK.out _ _ ?_ (fun hHeld => ?_)
  · (try dsimp only)
    (first | (go_keep; done) | ((try go_split_ands); (repeat' apply And.intro) <;> first | assumption | (go_simp; done) | (simp only [World.size_alloc, World.size_drew]; omega) | (go_keep; done) | (exact hB0.drew) | (exact (hB0.alloc (by first | omega | (simp <;> omega)) _).drew) | (exact carry hbq (by first | assumption | go_simp)) | (exact Nat.lt_of_lt_of_le (by first | assumption | (simp <;> omega)) hbq.size) | (simp <;> omega) | (exact Below.trans (by assumption) (hbq.mono (by first | omega | (simp <;> omega))))))
  clear hK K
  (try simp only [Act.put, List.setIfInBounds_toArray, List.set_cons_zero, List.set_cons_succ])
  refine wpAnyH_take (i := 10) (oi := _) (v := ?_) rfl (by kernel_rfl) (by kernel_rfl) (by kernel_rfl) (fun _ _ _ h => h) (Or.inl ⟨by rfl, ?hy10⟩) (by assumption) ?rest10
  case hy10 => (intro w hSw; (try dsimp only at hSw); go_simp; (try with_reducible rfl))
  (try simp only [Act.put, List.setIfInBounds_toArray, List.set_cons_zero, List.set_cons_succ])
  refine wpAnyH_take (i := 11) (oi := _) (v := ?_) rfl (by kernel_rfl) (by kernel_rfl) (by kernel_rfl) (fun _ _ _ h => h) (Or.inl ⟨by rfl, ?hy11⟩) (by assumption) ?rest11
  case hy11 => (intro w hSw; (try dsimp only at hSw); go_simp; (try with_reducible rfl))
  (try simp only [Act.put, List.setIfInBounds_toArray, List.set_cons_zero, List.set_cons_succ])
  refine wpAnyH_take (i := 12) (oi := _) (v := ?_) rfl (by kernel_rfl) (by kernel_rfl) (by kernel_rfl) (fun _ _ _ h => h) (Or.inl ⟨by rfl, ?hy12⟩) (by assumption) ?rest12
  case hy12 => (intro w hSw; (try dsimp only at hSw); go_simp; (try with_reducible rfl))
  (try simp only [Act.put, List.setIfInBounds_toArray, List.set_cons_zero, List.set_cons_succ])
  refine wpAnyH_ready (rs := [13]) (by kernel_rfl) (by simp) ?_
  refine AllReadyH.cons (o := _) rfl (fun K hK => ?_) AllReadyH.nil
  go_simp
  (first
      | (go_at_call 23; ((with_reducible refine (rin_is hia _).mono ?_); rintro e wq ⟨rfl, hbq⟩))
      | (go_at_call 23; ((with_reducible refine (rin_is hib _).mono ?_); rintro e wq ⟨rfl, hbq⟩)))
  go_wp2_with fail
  refine hK.out _ _ ?_ (fun hHeld => ?_)
  · (try dsimp only)
    (first | (go_keep; done) | ((try go_split_ands); (repeat' apply And.intro) <;> first | assumption | (go_simp; done) | (simp only [World.size_alloc, World.size_drew]; omega) | (go_keep; done) | (exact hB0.drew) | (exact (hB0.alloc (by first | omega | (simp <;> omega)) _).drew) | (exact carry hbq (by first | assumption | go_simp)) | (exact Nat.lt_of_lt_of_le (by first | assumption | (simp <;> omega)) hbq.size) | (simp <;> omega) | (exact Below.trans (by assumption) (hbq.mono (by first | omega | (simp <;> omega))))))
  clear hK K
  (try simp only [Act.put, List.setIfInBounds_toArray, List.set_cons_zero, List.set_cons_succ])
  refine wpAnyH_take (i := 14) (oi := _) (v := ?_) rfl (by kernel_rfl) (by kernel_rfl) (by kernel_rfl) (fun _ _ _ h => h) (Or.inl ⟨by rfl, ?hy14⟩) (by assumption) ?rest14
  case hy14 => (intro w hSw; (try dsimp only at hSw); go_simp; (try with_reducible rfl))
  (try simp only [Act.put, List.setIfInBounds_toArray, List.set_cons_zero, List.set_cons_succ])
  refine wpAnyH_take (i := 15) (oi := _) (v := ?_) rfl (by kernel_rfl) (by kernel_rfl) (by kernel_rfl) (fun _ _ _ h => h) (Or.inl ⟨by rfl, ?hy15⟩) (by assumption) ?rest15
  case hy15 => (intro w hSw; (try dsimp only at hSw); go_simp; (try with_reducible rfl))
  (try simp only [Act.put, List.setIfInBounds_toArray, List.set_cons_zero, List.set_cons_succ])
  refine wpAnyH_done (by kernel_rfl) ?_ _
  refine NoPanic.normal ?_
  have hS : wq.cell? ⟨w.heap.size, 0, none⟩ = some (.int .i64 l0) ∧ wq.cell? ⟨w.heap.size, 1, none⟩ = some (.int .i64 u0) ∧ w.heap.size < wq.heap.size ∧ wq.cell? ⟨w.heap.size + 1, 0, none⟩ = some (.int .i64 l1) ∧ wq.cell? ⟨w.heap.size + 1, 1, none⟩ = some (.int .i64 u1) ∧ w.heap.size + 1 < wq.heap.size ∧ wq.cell? ⟨w.heap.size + 1 + 1, 0, none⟩ = some (.int .i64 l2) ∧ wq.cell? ⟨w.heap.size + 1 + 1, 1, none⟩ = some (.int .i64 u2) ∧ w.heap.size + 1 + 1 < wq.heap.size ∧ wq.cell? ⟨w5.heap.size, 0, none⟩ = some (.int .i64 ml) ∧ wq.cell? ⟨w5.heap.size, 1, none⟩ = some (.int .i64 mh) ∧ w5.heap.size < wq.heap.size ∧ Below w.heap.size w wq := by assumption
  clear hB0 hia hib  a0_5 a1_5 b0_5 b1_5 c0_5 c1_5 HB_5
  obtain ⟨a0_q, a1_q, az_q, b0_q, b1_q, bz_q, c0_q, c1_q, cz_q, s0_q, s1_q, sz_q, hBq⟩ := hS
  have HBq := Lib.hid hBq
  clear hBq
  go_wp2_with fail
  refine (sjoin_is HJ.out _).mono ?_
  rintro e w6 ⟨rfl, hb6⟩
  have a0_6 : w6.cell? ⟨w.heap.size, 0, none⟩ = some (.int .i64 l0) := carry hb6 (by go_simp)
  have a1_6 : w6.cell? ⟨w.heap.size, 1, none⟩ = some (.int .i64 u0) := carry hb6 (by go_simp)
  have az_6 : w.heap.size < w6.heap.size := by have := hb6.size; first | omega | (simp at this; omega)
  have b0_6 : w6.cell? ⟨w.heap.size + 1, 0, none⟩ = some (.int .i64 l1) := carry hb6 (by go_simp)
  have b1_6 : w6.cell? ⟨w.heap.size + 1, 1, none⟩ = some (.int .i64 u1) := carry hb6 (by go_simp)
  have bz_6 : w.heap.size + 1 < w6.heap.size := by have := hb6.size; first | omega | (simp at this; omega)
  have c0_6 : w6.cell? ⟨w.heap.size + 1 + 1, 0, none⟩ = some (.int .i64 l2) := carry hb6 (by go_simp)
  have c1_6 : w6.cell? ⟨w.heap.size + 1 + 1, 1, none⟩ = some (.int .i64 u2) := carry hb6 (by go_simp)
  have cz_6 : w.heap.size + 1 + 1 < w6.heap.size := by have := hb6.size; first | omega | (simp at this; omega)
  have s0_6 : w6.cell? ⟨w5.heap.size, 0, none⟩ = some (.int .i64 ml) := carry hb6 (by go_simp)
  have s1_6 : w6.cell? ⟨w5.heap.size, 1, none⟩ = some (.int .i64 mh) := carry hb6 (by go_simp)
  have sz_6 : w5.heap.size < w6.heap.size := by have := hb6.size; first | omega | (simp at this; omega)
  have HB_6 := Lib.hid ((by repeat (first | exact HBq.out | refine Below.drew ?_ | refine Below.setCell ?_ (by first | omega | (simp; done) | (simp; omega)) _ | refine Below.alloc ?_ (by first | omega | (simp; done) | (simp; omega)) _) : Below w.heap.size w _).trans (hb6.mono (by first | omega | (simp; done) | (simp; omega))))
  have nz_6 : w.heap.size ≤ w6.heap.size := HB_6.out.size
  clear hb6 a0_q a1_q b0_q b1_q c0_q c1_q s0_q s1_q HBq
  go_wp2_with fail
  refine (within_is HW1.out _).mono ?_
  rintro e w7 ⟨rfl, hb7⟩
  have a0_7 : w7.cell? ⟨w.heap.size, 0, none⟩ = some (.int .i64 l0) := carry hb7 (by go_simp)
  have a1_7 : w7.cell? ⟨w.heap.size, 1, none⟩ = some (.int .i64 u0) := carry hb7 (by go_simp)
  have az_7 : w.heap.size < w7.heap.size := by have := hb7.size; first | omega | (simp at this; omega)
  have b0_7 : w7.cell? ⟨w.heap.size + 1, 0, none⟩ = some (.int .i64 l1) := carry hb7 (by go_simp)
  have b1_7 : w7.cell? ⟨w.heap.size + 1, 1, none⟩ = some (.int .i64 u1) := carry hb7 (by go_simp)
  have bz_7 : w.heap.size + 1 < w7.heap.size := by have := hb7.size; first | omega | (simp at this; omega)
  have c0_7 : w7.cell? ⟨w.heap.size + 1 + 1, 0, none⟩ = some (.int .i64 l2) := carry hb7 (by go_simp)
  have c1_7 : w7.cell? ⟨w.heap.size + 1 + 1, 1, none⟩ = some (.int .i64 u2) := carry hb7 (by go_simp)
  have cz_7 : w.heap.size + 1 + 1 < w7.heap.size := by have := hb7.size; first | omega | (simp at this; omega)
  have s0_7 : w7.cell? ⟨w5.heap.size, 0, none⟩ = some (.int .i64 ml) := carry hb7 (by go_simp)
  have s1_7 : w7.cell? ⟨w5.heap.size, 1, none⟩ = some (.int .i64 mh) := carry hb7 (by go_simp)
  have sz_7 : w5.heap.size < w7.heap.size := by have := hb7.size; first | omega | (simp at this; omega)
  have j0_7 : w7.cell? ⟨w6.heap.size, 0, none⟩ = some (.int .i64 jl) := carry hb7 (by go_simp)
  have j1_7 : w7.cell? ⟨w6.heap.size, 1, none⟩ = some (.int .i64 jh) := carry hb7 (by go_simp)
  have jz_7 : w6.heap.size < w7.heap.size := by have := hb7.size; first | omega | (simp at this; omega)
  have HB_7 := Lib.hid ((by repeat (first | exact HB_6.out | refine Below.drew ?_ | refine Below.setCell ?_ (by first | omega | (simp; done) | (simp; omega)) _ | refine Below.alloc ?_ (by first | omega | (simp; done) | (simp; omega)) _) : Below w.heap.size w _).trans (hb7.mono (by first | omega | (simp; done) | (simp; omega))))
  have nz_7 : w.heap.size ≤ w7.heap.size := HB_7.out.size
  clear hb7 a0_6 a1_6 b0_6 b1_6 c0_6 c1_6 s0_6 s1_6 HB_6
  go_wp2_with fail
  refine (within_is HW2.out _).mono ?_
  rintro e w8 ⟨rfl, hb8⟩
  have a0_8 : w8.cell? ⟨w.heap.size, 0, none⟩ = some (.int .i64 l0) := carry hb8 (by go_simp)
  have a1_8 : w8.cell? ⟨w.heap.size, 1, none⟩ = some (.int .i64 u0) := carry hb8 (by go_simp)
  have az_8 : w.heap.size < w8.heap.size := by have := hb8.size; first | omega | (simp at this; omega)
  have b0_8 : w8.cell? ⟨w.heap.size + 1, 0, none⟩ = some (.int .i64 l1) := carry hb8 (by go_simp)
  have b1_8 : w8.cell? ⟨w.heap.size + 1, 1, none⟩ = some (.int .i64 u1) := carry hb8 (by go_simp)
  have bz_8 : w.heap.size + 1 < w8.heap.size := by have := hb8.size; first | omega | (simp at this; omega)
  have c0_8 : w8.cell? ⟨w.heap.size + 1 + 1, 0, none⟩ = some (.int .i64 l2) := carry hb8 (by go_simp)
  have c1_8 : w8.cell? ⟨w.heap.size + 1 + 1, 1, none⟩ = some (.int .i64 u2) := carry hb8 (by go_simp)
  have cz_8 : w.heap.size + 1 + 1 < w8.heap.size := by have := hb8.size; first | omega | (simp at this; omega)
  have s0_8 : w8.cell? ⟨w5.heap.size, 0, none⟩ = some (.int .i64 ml) := carry hb8 (by go_simp)
  have s1_8 : w8.cell? ⟨w5.heap.size, 1, none⟩ = some (.int .i64 mh) := carry hb8 (by go_simp)
  have sz_8 : w5.heap.size < w8.heap.size := by have := hb8.size; first | omega | (simp at this; omega)
  have j0_8 : w8.cell? ⟨w6.heap.size, 0, none⟩ = some (.int .i64 jl) := carry hb8 (by go_simp)
  have j1_8 : w8.cell? ⟨w6.heap.size, 1, none⟩ = some (.int .i64 jh) := carry hb8 (by go_simp)
  have jz_8 : w6.heap.size < w8.heap.size := by have := hb8.size; first | omega | (simp at this; omega)
  have HB_8 := Lib.hid ((by repeat (first | exact HB_7.out | refine Below.drew ?_ | refine Below.setCell ?_ (by first | omega | (simp; done) | (simp; omega)) _ | refine Below.alloc ?_ (by first | omega | (simp; done) | (simp; omega)) _) : Below w.heap.size w _).trans (hb8.mono (by first | omega | (simp; done) | (simp; omega))))
  have nz_8 : w.heap.size ≤ w8.heap.size := HB_8.out.size
  clear hb8 a0_7 a1_7 b0_7 b1_7 c0_7 c1_7 s0_7 s1_7 j0_7 j1_7 HB_7
  go_wp2_with fail
  refine (within_is HP.out _).mono ?_
  rintro e w9 ⟨rfl, hb9⟩
  have a0_9 : w9.cell? ⟨w.heap.size, 0, none⟩ = some (.int .i64 l0) := carry hb9 (by go_simp)
  have a1_9 : w9.cell? ⟨w.heap.size, 1, none⟩ = some (.int .i64 u0) := carry hb9 (by go_simp)
  have az_9 : w.heap.size < w9.heap.size := by have := hb9.size; first | omega | (simp at this; omega)
  have b0_9 : w9.cell? ⟨w.heap.size + 1, 0, none⟩ = some (.int .i64 l1) := carry hb9 (by go_simp)
  have b1_9 : w9.cell? ⟨w.heap.size + 1, 1, none⟩ = some (.int .i64 u1) := carry hb9 (by go_simp)
  have bz_9 : w.heap.size + 1 < w9.heap.size := by have := hb9.size; first | omega | (simp at this; omega)
  have c0_9 : w9.cell? ⟨w.heap.size + 1 + 1, 0, none⟩ = some (.int .i64 l2) := carry hb9 (by go_simp)
  have c1_9 : w9.cell? ⟨w.heap.size + 1 + 1, 1, none⟩ = some (.int .i64 u2) := carry hb9 (by go_simp)
  have cz_9 : w.heap.size + 1 + 1 < w9.heap.size := by have := hb9.size; first | omega | (simp at this; omega)
  have s0_9 : w9.cell? ⟨w5.heap.size, 0, none⟩ = some (.int .i64 ml) := carry hb9 (by go_simp)
  have s1_9 : w9.cell? ⟨w5.heap.size, 1, none⟩ = some (.int .i64 mh) := carry hb9 (by go_simp)
  have sz_9 : w5.heap.size < w9.heap.size := by have := hb9.size; first | omega | (simp at this; omega)
  have j0_9 : w9.cell? ⟨w6.heap.size, 0, none⟩ = some (.int .i64 jl) := carry hb9 (by go_simp)
  have j1_9 : w9.cell? ⟨w6.heap.size, 1, none⟩ = some (.int .i64 jh) := carry hb9 (by go_simp)
  have jz_9 : w6.heap.size < w9.heap.size := by have := hb9.size; first | omega | (simp at this; omega)
  have HB_9 := Lib.hid ((by repeat (first | exact HB_8.out | refine Below.drew ?_ | refine Below.setCell ?_ (by first | omega | (simp; done) | (simp; omega)) _ | refine Below.alloc ?_ (by first | omega | (simp; done) | (simp; omega)) _) : Below w.heap.size w _).trans (hb9.mono (by first | omega | (simp; done) | (simp; omega))))
  have nz_9 : w.heap.size ≤ w9.heap.size := HB_9.out.size
  clear hb9 a0_8 a1_8 b0_8 b1_8 c0_8 c1_8 s0_8 s1_8 j0_8 j1_8 HB_8
  go_wp2_with fail
  refine (within_is HQ.out _).mono ?_
  rintro e w10 ⟨rfl, hb10⟩
  have a0_10 : w10.cell? ⟨w.heap.size, 0, none⟩ = some (.int .i64 l0) := carry hb10 (by go_simp)
  have a1_10 : w10.cell? ⟨w.heap.size, 1, none⟩ = some (.int .i64 u0) := carry hb10 (by go_simp)
  have az_10 : w.heap.size < w10.heap.size := by have := hb10.size; first | omega | (simp at this; omega)
  have b0_10 : w10.cell? ⟨w.heap.size + 1, 0, none⟩ = some (.int .i64 l1) := carry hb10 (by go_simp)
  have b1_10 : w10.cell? ⟨w.heap.size + 1, 1, none⟩ = some (.int .i64 u1) := carry hb10 (by go_simp)
  have bz_10 : w.heap.size + 1 < w10.heap.size := by have := hb10.size; first | omega | (simp at this; omega)
  have c0_10 : w10.cell? ⟨w.heap.size + 1 + 1, 0, none⟩ = some (.int .i64 l2) := carry hb10 (by go_simp)
  have c1_10 : w10.cell? ⟨w.heap.size + 1 + 1, 1, none⟩ = some (.int .i64 u2) := carry hb10 (by go_simp)
  have cz_10 : w.heap.size + 1 + 1 < w10.heap.size := by have := hb10.size; first | omega | (simp at this; omega)
  have s0_10 : w10.cell? ⟨w5.heap.size, 0, none⟩ = some (.int .i64 ml) := carry hb10 (by go_simp)
  have s1_10 : w10.cell? ⟨w5.heap.size, 1, none⟩ = some (.int .i64 mh) := carry hb10 (by go_simp)
  have sz_10 : w5.heap.size < w10.heap.size := by have := hb10.size; first | omega | (simp at this; omega)
  have j0_10 : w10.cell? ⟨w6.heap.size, 0, none⟩ = some (.int .i64 jl) := carry hb10 (by go_simp)
  have j1_10 : w10.cell? ⟨w6.heap.size, 1, none⟩ = some (.int .i64 jh) := carry hb10 (by go_simp)
  have jz_10 : w6.heap.size < w10.heap.size := by have := hb10.size; first | omega | (simp at this; omega)
  have HB_10 := Lib.hid ((by repeat (first | exact HB_9.out | refine Below.drew ?_ | refine Below.setCell ?_ (by first | omega | (simp; done) | (simp; omega)) _ | refine Below.alloc ?_ (by first | omega | (simp; done) | (simp; omega)) _) : Below w.heap.size w _).trans (hb10.mono (by first | omega | (simp; done) | (simp; omega))))
  have nz_10 : w.heap.size ≤ w10.heap.size := HB_10.out.size
  clear hb10 a0_9 a1_9 b0_9 b1_9 c0_9 c1_9 s0_9 s1_9 j0_9 j1_9 HB_9
  go_wp2_with fail
  refine (smeet_is HK.out _).mono ?_
  rintro e w11 ⟨rfl, hb11⟩
  have a0_11 : w11.cell? ⟨w.heap.size, 0, none⟩ = some (.int .i64 l0) := carry hb11 (by go_simp)
  have a1_11 : w11.cell? ⟨w.heap.size, 1, none⟩ = some (.int .i64 u0) := carry hb11 (by go_simp)
  have az_11 : w.heap.size < w11.heap.size := by have := hb11.size; first | omega | (simp at this; omega)
  have b0_11 : w11.cell? ⟨w.heap.size + 1, 0, none⟩ = some (.int .i64 l1) := carry hb11 (by go_simp)
  have b1_11 : w11.cell? ⟨w.heap.size + 1, 1, none⟩ = some (.int .i64 u1) := carry hb11 (by go_simp)
  have bz_11 : w.heap.size + 1 < w11.heap.size := by have := hb11.size; first | omega | (simp at this; omega)
  have c0_11 : w11.cell? ⟨w.heap.size + 1 + 1, 0, none⟩ = some (.int .i64 l2) := carry hb11 (by go_simp)
  have c1_11 : w11.cell? ⟨w.heap.size + 1 + 1, 1, none⟩ = some (.int .i64 u2) := carry hb11 (by go_simp)
  have cz_11 : w.heap.size + 1 + 1 < w11.heap.size := by have := hb11.size; first | omega | (simp at this; omega)
  have s0_11 : w11.cell? ⟨w5.heap.size, 0, none⟩ = some (.int .i64 ml) := carry hb11 (by go_simp)
  have s1_11 : w11.cell? ⟨w5.heap.size, 1, none⟩ = some (.int .i64 mh) := carry hb11 (by go_simp)
  have sz_11 : w5.heap.size < w11.heap.size := by have := hb11.size; first | omega | (simp at this; omega)
  have j0_11 : w11.cell? ⟨w6.heap.size, 0, none⟩ = some (.int .i64 jl) := carry hb11 (by go_simp)
  have j1_11 : w11.cell? ⟨w6.heap.size, 1, none⟩ = some (.int .i64 jh) := carry hb11 (by go_simp)
  have jz_11 : w6.heap.size < w11.heap.size := by have := hb11.size; first | omega | (simp at this; omega)
  have HB_11 := Lib.hid ((by repeat (first | exact HB_10.out | refine Below.drew ?_ | refine Below.setCell ?_ (by first | omega | (simp; done) | (simp; omega)) _ | refine Below.alloc ?_ (by first | omega | (simp; done) | (simp; omega)) _) : Below w.heap.size w _).trans (hb11.mono (by first | omega | (simp; done) | (simp; omega))))
  have nz_11 : w.heap.size ≤ w11.heap.size := HB_11.out.size
  clear hb11 a0_10 a1_10 b0_10 b1_10 c0_10 c1_10 s0_10 s1_10 j0_10 j1_10 HB_10
  go_wp2_with fail
  go_ret
  exact ⟨rfl, by repeat (first | exact HB_11.out | refine Below.drew ?_ | refine Below.setCell ?_ (by first | omega | (simp; done) | (simp; omega)) _ | refine Below.alloc ?_ (by first | omega | (simp; done) | (simp; omega)) _)⟩

set_option maxRecDepth 100000 in
set_option maxHeartbeats 8000000 in
theorem cDf (l0 u0 l1 u1 l2 u2 n ml mh jl jh : Int) (w : World) (HA : Hid (vsp l0 u0 = true)) (HB : Hid (vsp l1 u1 = true)) (HC : Hid (vsp l2 u2 = true)) (HM : Hid (meetL l0 u0 l1 u1 = ml ∧ meetH l0 u0 l1 u1 = mh ∧ meetE l0 u0 l1 u1 = 5)) (HIA : Hid ((decide (l0 ≤ n) && decide (n ≤ u0)) = true)) (HIB : Hid ((decide (l1 ≤ n) && decide (n ≤ u1)) = false)) (HJ : Hid (joinL l0 u0 l1 u1 = jl ∧ joinH l0 u0 l1 u1 = jh ∧ joinE l0 u0 l1 u1 = 0)) (HW1 : Hid ((decide (jl ≤ l0) && decide (u0 ≤ jh)) = true)) (HW2 : Hid ((decide (jl ≤ l1) && decide (u1 ≤ jh)) = true)) (HP : Hid ((decide (l2 ≤ l0) && decide (u0 ≤ u2)) = false)) (HK : Hid (meetL l0 u0 jl jh = l0 ∧ meetH l0 u0 jl jh = u0 ∧ meetE l0 u0 jl jh = 0)) :
    Calls Try.prog 6 #[spanV l0 u0, spanV l1 u1, spanV l2 u2, .int .i64 n] w fun e w' => e = .returned (.bool true) ∧ Below w.heap.size w w' := by
  go_enter Try.func6, Try.ntmps6
  go_wp2_with fail
  refine (wide_any _).mono ?_
  rintro e w1 ⟨rfl, hb1⟩
  have a0_1 : w1.cell? ⟨w.heap.size, 0, none⟩ = some (.int .i64 l0) := carry hb1 (by go_simp)
  have a1_1 : w1.cell? ⟨w.heap.size, 1, none⟩ = some (.int .i64 u0) := carry hb1 (by go_simp)
  have az_1 : w.heap.size < w1.heap.size := by have := hb1.size; first | omega | (simp at this; omega)
  have b0_1 : w1.cell? ⟨w.heap.size + 1, 0, none⟩ = some (.int .i64 l1) := carry hb1 (by go_simp)
  have b1_1 : w1.cell? ⟨w.heap.size + 1, 1, none⟩ = some (.int .i64 u1) := carry hb1 (by go_simp)
  have bz_1 : w.heap.size + 1 < w1.heap.size := by have := hb1.size; first | omega | (simp at this; omega)
  have c0_1 : w1.cell? ⟨w.heap.size + 1 + 1, 0, none⟩ = some (.int .i64 l2) := carry hb1 (by go_simp)
  have c1_1 : w1.cell? ⟨w.heap.size + 1 + 1, 1, none⟩ = some (.int .i64 u2) := carry hb1 (by go_simp)
  have cz_1 : w.heap.size + 1 + 1 < w1.heap.size := by have := hb1.size; first | omega | (simp at this; omega)
  have HB_1 := Lib.hid ((by repeat (first | exact Below.refl _ _ | refine Below.drew ?_ | refine Below.setCell ?_ (by first | omega | (simp; done) | (simp; omega)) _ | refine Below.alloc ?_ (by first | omega | (simp; done) | (simp; omega)) _) : Below w.heap.size w _).trans (hb1.mono (by first | omega | (simp; done) | (simp; omega))))
  have nz_1 : w.heap.size ≤ w1.heap.size := HB_1.out.size
  clear hb1
  go_wp2_with fail
  refine (vspan_is HA.out _).mono ?_
  rintro e w2 ⟨rfl, hb2⟩
  have a0_2 : w2.cell? ⟨w.heap.size, 0, none⟩ = some (.int .i64 l0) := carry hb2 (by go_simp)
  have a1_2 : w2.cell? ⟨w.heap.size, 1, none⟩ = some (.int .i64 u0) := carry hb2 (by go_simp)
  have az_2 : w.heap.size < w2.heap.size := by have := hb2.size; first | omega | (simp at this; omega)
  have b0_2 : w2.cell? ⟨w.heap.size + 1, 0, none⟩ = some (.int .i64 l1) := carry hb2 (by go_simp)
  have b1_2 : w2.cell? ⟨w.heap.size + 1, 1, none⟩ = some (.int .i64 u1) := carry hb2 (by go_simp)
  have bz_2 : w.heap.size + 1 < w2.heap.size := by have := hb2.size; first | omega | (simp at this; omega)
  have c0_2 : w2.cell? ⟨w.heap.size + 1 + 1, 0, none⟩ = some (.int .i64 l2) := carry hb2 (by go_simp)
  have c1_2 : w2.cell? ⟨w.heap.size + 1 + 1, 1, none⟩ = some (.int .i64 u2) := carry hb2 (by go_simp)
  have cz_2 : w.heap.size + 1 + 1 < w2.heap.size := by have := hb2.size; first | omega | (simp at this; omega)
  have HB_2 := Lib.hid ((by repeat (first | exact HB_1.out | refine Below.drew ?_ | refine Below.setCell ?_ (by first | omega | (simp; done) | (simp; omega)) _ | refine Below.alloc ?_ (by first | omega | (simp; done) | (simp; omega)) _) : Below w.heap.size w _).trans (hb2.mono (by first | omega | (simp; done) | (simp; omega))))
  have nz_2 : w.heap.size ≤ w2.heap.size := HB_2.out.size
  clear hb2 a0_1 a1_1 b0_1 b1_1 c0_1 c1_1 HB_1
  go_wp2_with fail
  refine (vspan_is HB.out _).mono ?_
  rintro e w3 ⟨rfl, hb3⟩
  have a0_3 : w3.cell? ⟨w.heap.size, 0, none⟩ = some (.int .i64 l0) := carry hb3 (by go_simp)
  have a1_3 : w3.cell? ⟨w.heap.size, 1, none⟩ = some (.int .i64 u0) := carry hb3 (by go_simp)
  have az_3 : w.heap.size < w3.heap.size := by have := hb3.size; first | omega | (simp at this; omega)
  have b0_3 : w3.cell? ⟨w.heap.size + 1, 0, none⟩ = some (.int .i64 l1) := carry hb3 (by go_simp)
  have b1_3 : w3.cell? ⟨w.heap.size + 1, 1, none⟩ = some (.int .i64 u1) := carry hb3 (by go_simp)
  have bz_3 : w.heap.size + 1 < w3.heap.size := by have := hb3.size; first | omega | (simp at this; omega)
  have c0_3 : w3.cell? ⟨w.heap.size + 1 + 1, 0, none⟩ = some (.int .i64 l2) := carry hb3 (by go_simp)
  have c1_3 : w3.cell? ⟨w.heap.size + 1 + 1, 1, none⟩ = some (.int .i64 u2) := carry hb3 (by go_simp)
  have cz_3 : w.heap.size + 1 + 1 < w3.heap.size := by have := hb3.size; first | omega | (simp at this; omega)
  have HB_3 := Lib.hid ((by repeat (first | exact HB_2.out | refine Below.drew ?_ | refine Below.setCell ?_ (by first | omega | (simp; done) | (simp; omega)) _ | refine Below.alloc ?_ (by first | omega | (simp; done) | (simp; omega)) _) : Below w.heap.size w _).trans (hb3.mono (by first | omega | (simp; done) | (simp; omega))))
  have nz_3 : w.heap.size ≤ w3.heap.size := HB_3.out.size
  clear hb3 a0_2 a1_2 b0_2 b1_2 c0_2 c1_2 HB_2
  go_wp2_with fail
  refine (vspan_is HC.out _).mono ?_
  rintro e w4 ⟨rfl, hb4⟩
  have a0_4 : w4.cell? ⟨w.heap.size, 0, none⟩ = some (.int .i64 l0) := carry hb4 (by go_simp)
  have a1_4 : w4.cell? ⟨w.heap.size, 1, none⟩ = some (.int .i64 u0) := carry hb4 (by go_simp)
  have az_4 : w.heap.size < w4.heap.size := by have := hb4.size; first | omega | (simp at this; omega)
  have b0_4 : w4.cell? ⟨w.heap.size + 1, 0, none⟩ = some (.int .i64 l1) := carry hb4 (by go_simp)
  have b1_4 : w4.cell? ⟨w.heap.size + 1, 1, none⟩ = some (.int .i64 u1) := carry hb4 (by go_simp)
  have bz_4 : w.heap.size + 1 < w4.heap.size := by have := hb4.size; first | omega | (simp at this; omega)
  have c0_4 : w4.cell? ⟨w.heap.size + 1 + 1, 0, none⟩ = some (.int .i64 l2) := carry hb4 (by go_simp)
  have c1_4 : w4.cell? ⟨w.heap.size + 1 + 1, 1, none⟩ = some (.int .i64 u2) := carry hb4 (by go_simp)
  have cz_4 : w.heap.size + 1 + 1 < w4.heap.size := by have := hb4.size; first | omega | (simp at this; omega)
  have HB_4 := Lib.hid ((by repeat (first | exact HB_3.out | refine Below.drew ?_ | refine Below.setCell ?_ (by first | omega | (simp; done) | (simp; omega)) _ | refine Below.alloc ?_ (by first | omega | (simp; done) | (simp; omega)) _) : Below w.heap.size w _).trans (hb4.mono (by first | omega | (simp; done) | (simp; omega))))
  have nz_4 : w.heap.size ≤ w4.heap.size := HB_4.out.size
  clear hb4 a0_3 a1_3 b0_3 b1_3 c0_3 c1_3 HB_3
  go_wp2_with fail
  refine (smeet_is HM.out _).mono ?_
  rintro e w5 ⟨rfl, hb5⟩
  have a0_5 : w5.cell? ⟨w.heap.size, 0, none⟩ = some (.int .i64 l0) := carry hb5 (by go_simp)
  have a1_5 : w5.cell? ⟨w.heap.size, 1, none⟩ = some (.int .i64 u0) := carry hb5 (by go_simp)
  have az_5 : w.heap.size < w5.heap.size := by have := hb5.size; first | omega | (simp at this; omega)
  have b0_5 : w5.cell? ⟨w.heap.size + 1, 0, none⟩ = some (.int .i64 l1) := carry hb5 (by go_simp)
  have b1_5 : w5.cell? ⟨w.heap.size + 1, 1, none⟩ = some (.int .i64 u1) := carry hb5 (by go_simp)
  have bz_5 : w.heap.size + 1 < w5.heap.size := by have := hb5.size; first | omega | (simp at this; omega)
  have c0_5 : w5.cell? ⟨w.heap.size + 1 + 1, 0, none⟩ = some (.int .i64 l2) := carry hb5 (by go_simp)
  have c1_5 : w5.cell? ⟨w.heap.size + 1 + 1, 1, none⟩ = some (.int .i64 u2) := carry hb5 (by go_simp)
  have cz_5 : w.heap.size + 1 + 1 < w5.heap.size := by have := hb5.size; first | omega | (simp at this; omega)
  have HB_5 := Lib.hid ((by repeat (first | exact HB_4.out | refine Below.drew ?_ | refine Below.setCell ?_ (by first | omega | (simp; done) | (simp; omega)) _ | refine Below.alloc ?_ (by first | omega | (simp; done) | (simp; omega)) _) : Below w.heap.size w _).trans (hb5.mono (by first | omega | (simp; done) | (simp; omega))))
  have nz_5 : w.heap.size ≤ w5.heap.size := HB_5.out.size
  clear hb5 a0_4 a1_4 b0_4 b1_4 c0_4 c1_4 HB_4
  go_upto_region 7 with fail
  have hB0 := HB_5.out
  have hia := HIA.out
  have hib := HIB.out
  skip
  refine wp_region_noPanic ?_
  refine wp_region_held_drew (S := fun wx => wx.cell? ⟨w.heap.size, 0, none⟩ = some (.int .i64 l0) ∧ wx.cell? ⟨w.heap.size, 1, none⟩ = some (.int .i64 u0) ∧ w.heap.size < wx.heap.size ∧ wx.cell? ⟨w.heap.size + 1, 0, none⟩ = some (.int .i64 l1) ∧ wx.cell? ⟨w.heap.size + 1, 1, none⟩ = some (.int .i64 u1) ∧ w.heap.size + 1 < wx.heap.size ∧ wx.cell? ⟨w.heap.size + 1 + 1, 0, none⟩ = some (.int .i64 l2) ∧ wx.cell? ⟨w.heap.size + 1 + 1, 1, none⟩ = some (.int .i64 u2) ∧ w.heap.size + 1 + 1 < wx.heap.size ∧ wx.cell? ⟨w5.heap.size, 0, none⟩ = some (.int .i64 ml) ∧ wx.cell? ⟨w5.heap.size, 1, none⟩ = some (.int .i64 mh) ∧ w5.heap.size < wx.heap.size ∧ Below w.heap.size w wx) (by kernel_rfl) ?_ (fun hHeld => ?_)
  · (try dsimp only)
    (first | (go_keep; done) | ((try go_split_ands); (repeat' apply And.intro) <;> first | assumption | (go_simp; done) | (simp only [World.size_alloc, World.size_drew]; omega) | (go_keep; done) | (exact hB0.drew) | (exact (hB0.alloc (by first | omega | (simp <;> omega)) _).drew) | (exact carry hbq (by first | assumption | go_simp)) | (exact Nat.lt_of_lt_of_le (by first | assumption | (simp <;> omega)) hbq.size) | (simp <;> omega) | (exact Below.trans (by assumption) (hbq.mono (by first | omega | (simp <;> omega))))))
  refine wpAnyH_take (i := 0) (oi := _) (v := ?_) rfl (by kernel_rfl) (by kernel_rfl) (by kernel_rfl) (fun _ _ _ h => h) (Or.inl ⟨by rfl, ?hy0⟩) (by assumption) ?rest0
  case hy0 => (intro w hSw; (try dsimp only at hSw); go_simp; (try with_reducible rfl))
  (try simp only [Act.put, List.setIfInBounds_toArray, List.set_cons_zero, List.set_cons_succ])
  refine wpAnyH_take (i := 1) (oi := _) (v := ?_) rfl (by kernel_rfl) (by kernel_rfl) (by kernel_rfl) (fun _ _ _ h => h) (Or.inl ⟨by rfl, ?hy1⟩) (by assumption) ?rest1
  case hy1 => (intro w hSw; (try dsimp only at hSw); go_simp; (try with_reducible rfl))
  (try simp only [Act.put, List.setIfInBounds_toArray, List.set_cons_zero, List.set_cons_succ])
  refine wpAnyH_take (i := 2) (oi := _) (v := ?_) rfl (by kernel_rfl) (by kernel_rfl) (by kernel_rfl) (fun _ _ _ h => h) (Or.inl ⟨by rfl, ?hy2⟩) (by assumption) ?rest2
  case hy2 => (intro w hSw; (try dsimp only at hSw); go_simp; (try with_reducible rfl))
  (try simp only [Act.put, List.setIfInBounds_toArray, List.set_cons_zero, List.set_cons_succ])
  refine wpAnyH_take (i := 3) (oi := _) (v := _) rfl (by kernel_rfl) (by kernel_rfl) (by kernel_rfl) (fun _ _ _ h => h) (Or.inr ⟨by rfl, rfl⟩) (by assumption) ?_
  (try simp only [Act.put, List.setIfInBounds_toArray, List.set_cons_zero, List.set_cons_succ])
  refine wpAnyH_take (i := 4) (oi := _) (v := _) rfl (by kernel_rfl) (by kernel_rfl) (by kernel_rfl) (fun _ _ _ h => h) (Or.inr ⟨by rfl, rfl⟩) (by assumption) ?_
  (try simp only [Act.put, List.setIfInBounds_toArray, List.set_cons_zero, List.set_cons_succ])
  refine wpAnyH_take (i := 7) (oi := _) (v := ?_) rfl (by kernel_rfl) (by kernel_rfl) (by kernel_rfl) (fun _ _ _ h => h) (Or.inl ⟨by rfl, ?hy7⟩) (by assumption) ?rest7
  case hy7 => (intro w hSw; (try dsimp only at hSw); go_simp; (try with_reducible rfl))
  (try simp only [Act.put, List.setIfInBounds_toArray, List.set_cons_zero, List.set_cons_succ])
  refine wpAnyH_take (i := 8) (oi := _) (v := ?_) rfl (by kernel_rfl) (by kernel_rfl) (by kernel_rfl) (fun _ _ _ h => h) (Or.inl ⟨by rfl, ?hy8⟩) (by assumption) ?rest8
  case hy8 => (intro w hSw; (try dsimp only at hSw); go_simp; (try with_reducible rfl))
  (try simp only [Act.put, List.setIfInBounds_toArray, List.set_cons_zero, List.set_cons_succ])
  refine wpAnyH_take (i := 5) (oi := _) (v := _) rfl (by kernel_rfl) (by kernel_rfl) (by kernel_rfl) (fun _ _ _ h => h) (Or.inr ⟨by rfl, rfl⟩) (by assumption) ?_
  (try simp only [Act.put, List.setIfInBounds_toArray, List.set_cons_zero, List.set_cons_succ])
  refine wpAnyH_take (i := 6) (oi := _) (v := ?_) rfl (by kernel_rfl) (by kernel_rfl) (by kernel_rfl) (fun _ _ _ h => h) (Or.inl ⟨by rfl, ?hy6⟩) (by assumption) ?rest6
  case hy6 => (intro w hSw; (try dsimp only at hSw); go_simp; (try with_reducible rfl))
  (try simp only [Act.put, List.setIfInBounds_toArray, List.set_cons_zero, List.set_cons_succ])
  refine wpAnyH_ready (rs := [9]) (by kernel_rfl) (by simp) ?_
  refine AllReadyH.cons (o := _) rfl (fun K hK => ?_) AllReadyH.nil
  go_simp
  (first
      | (go_at_call 23; ((with_reducible refine (rin_is hia _).mono ?_); rintro e wq ⟨rfl, hbq⟩))
      | (go_at_call 23; ((with_reducible refine (rin_is hib _).mono ?_); rintro e wq ⟨rfl, hbq⟩)))
  go_wp2_with fail
  refine hK.out _ _ ?_ (fun hHeld => ?_)
  · (try dsimp only)
    (first | (go_keep; done) | ((try go_split_ands); (repeat' apply And.intro) <;> first | assumption | (go_simp; done) | (simp only [World.size_alloc, World.size_drew]; omega) | (go_keep; done) | (exact hB0.drew) | (exact (hB0.alloc (by first | omega | (simp <;> omega)) _).drew) | (exact carry hbq (by first | assumption | go_simp)) | (exact Nat.lt_of_lt_of_le (by first | assumption | (simp <;> omega)) hbq.size) | (simp <;> omega) | (exact Below.trans (by assumption) (hbq.mono (by first | omega | (simp <;> omega))))))
  clear hK K
  (try simp only [Act.put, List.setIfInBounds_toArray, List.set_cons_zero, List.set_cons_succ])
  refine wpAnyH_take (i := 10) (oi := _) (v := ?_) rfl (by kernel_rfl) (by kernel_rfl) (by kernel_rfl) (fun _ _ _ h => h) (Or.inl ⟨by rfl, ?hy10⟩) (by assumption) ?rest10
  case hy10 => (intro w hSw; (try dsimp only at hSw); go_simp; (try with_reducible rfl))
  (try simp only [Act.put, List.setIfInBounds_toArray, List.set_cons_zero, List.set_cons_succ])
  refine wpAnyH_take (i := 11) (oi := _) (v := ?_) rfl (by kernel_rfl) (by kernel_rfl) (by kernel_rfl) (fun _ _ _ h => h) (Or.inl ⟨by rfl, ?hy11⟩) (by assumption) ?rest11
  case hy11 => (intro w hSw; (try dsimp only at hSw); go_simp; (try with_reducible rfl))
  (try simp only [Act.put, List.setIfInBounds_toArray, List.set_cons_zero, List.set_cons_succ])
  refine wpAnyH_take (i := 12) (oi := _) (v := ?_) rfl (by kernel_rfl) (by kernel_rfl) (by kernel_rfl) (fun _ _ _ h => h) (Or.inl ⟨by rfl, ?hy12⟩) (by assumption) ?rest12
  case hy12 => (intro w hSw; (try dsimp only at hSw); go_simp; (try with_reducible rfl))
  (try simp only [Act.put, List.setIfInBounds_toArray, List.set_cons_zero, List.set_cons_succ])
  refine wpAnyH_ready (rs := [13]) (by kernel_rfl) (by simp) ?_
  refine AllReadyH.cons (o := _) rfl (fun K hK => ?_) AllReadyH.nil
  go_simp
  (first
      | (go_at_call 23; ((with_reducible refine (rin_is hia _).mono ?_); rintro e wq ⟨rfl, hbq⟩))
      | (go_at_call 23; ((with_reducible refine (rin_is hib _).mono ?_); rintro e wq ⟨rfl, hbq⟩)))
  go_wp2_with fail
  refine hK.out _ _ ?_ (fun hHeld => ?_)
  · (try dsimp only)
    (first | (go_keep; done) | ((try go_split_ands); (repeat' apply And.intro) <;> first | assumption | (go_simp; done) | (simp only [World.size_alloc, World.size_drew]; omega) | (go_keep; done) | (exact hB0.drew) | (exact (hB0.alloc (by first | omega | (simp <;> omega)) _).drew) | (exact carry hbq (by first | assumption | go_simp)) | (exact Nat.lt_of_lt_of_le (by first | assumption | (simp <;> omega)) hbq.size) | (simp <;> omega) | (exact Below.trans (by assumption) (hbq.mono (by first | omega | (simp <;> omega))))))
  clear hK K
  (try simp only [Act.put, List.setIfInBounds_toArray, List.set_cons_zero, List.set_cons_succ])
  refine wpAnyH_take (i := 14) (oi := _) (v := ?_) rfl (by kernel_rfl) (by kernel_rfl) (by kernel_rfl) (fun _ _ _ h => h) (Or.inl ⟨by rfl, ?hy14⟩) (by assumption) ?rest14
  case hy14 => (intro w hSw; (try dsimp only at hSw); go_simp; (try with_reducible rfl))
  (try simp only [Act.put, List.setIfInBounds_toArray, List.set_cons_zero, List.set_cons_succ])
  refine wpAnyH_take (i := 15) (oi := _) (v := ?_) rfl (by kernel_rfl) (by kernel_rfl) (by kernel_rfl) (fun _ _ _ h => h) (Or.inl ⟨by rfl, ?hy15⟩) (by assumption) ?rest15
  case hy15 => (intro w hSw; (try dsimp only at hSw); go_simp; (try with_reducible rfl))
  (try simp only [Act.put, List.setIfInBounds_toArray, List.set_cons_zero, List.set_cons_succ])
  refine wpAnyH_done (by kernel_rfl) ?_ _
  refine NoPanic.normal ?_
  have hS : wq.cell? ⟨w.heap.size, 0, none⟩ = some (.int .i64 l0) ∧ wq.cell? ⟨w.heap.size, 1, none⟩ = some (.int .i64 u0) ∧ w.heap.size < wq.heap.size ∧ wq.cell? ⟨w.heap.size + 1, 0, none⟩ = some (.int .i64 l1) ∧ wq.cell? ⟨w.heap.size + 1, 1, none⟩ = some (.int .i64 u1) ∧ w.heap.size + 1 < wq.heap.size ∧ wq.cell? ⟨w.heap.size + 1 + 1, 0, none⟩ = some (.int .i64 l2) ∧ wq.cell? ⟨w.heap.size + 1 + 1, 1, none⟩ = some (.int .i64 u2) ∧ w.heap.size + 1 + 1 < wq.heap.size ∧ wq.cell? ⟨w5.heap.size, 0, none⟩ = some (.int .i64 ml) ∧ wq.cell? ⟨w5.heap.size, 1, none⟩ = some (.int .i64 mh) ∧ w5.heap.size < wq.heap.size ∧ Below w.heap.size w wq := by assumption
  clear hB0 hia hib  a0_5 a1_5 b0_5 b1_5 c0_5 c1_5 HB_5
  obtain ⟨a0_q, a1_q, az_q, b0_q, b1_q, bz_q, c0_q, c1_q, cz_q, s0_q, s1_q, sz_q, hBq⟩ := hS
  have HBq := Lib.hid hBq
  clear hBq
  go_wp2_with fail
  refine (sjoin_is HJ.out _).mono ?_
  rintro e w6 ⟨rfl, hb6⟩
  have a0_6 : w6.cell? ⟨w.heap.size, 0, none⟩ = some (.int .i64 l0) := carry hb6 (by go_simp)
  have a1_6 : w6.cell? ⟨w.heap.size, 1, none⟩ = some (.int .i64 u0) := carry hb6 (by go_simp)
  have az_6 : w.heap.size < w6.heap.size := by have := hb6.size; first | omega | (simp at this; omega)
  have b0_6 : w6.cell? ⟨w.heap.size + 1, 0, none⟩ = some (.int .i64 l1) := carry hb6 (by go_simp)
  have b1_6 : w6.cell? ⟨w.heap.size + 1, 1, none⟩ = some (.int .i64 u1) := carry hb6 (by go_simp)
  have bz_6 : w.heap.size + 1 < w6.heap.size := by have := hb6.size; first | omega | (simp at this; omega)
  have c0_6 : w6.cell? ⟨w.heap.size + 1 + 1, 0, none⟩ = some (.int .i64 l2) := carry hb6 (by go_simp)
  have c1_6 : w6.cell? ⟨w.heap.size + 1 + 1, 1, none⟩ = some (.int .i64 u2) := carry hb6 (by go_simp)
  have cz_6 : w.heap.size + 1 + 1 < w6.heap.size := by have := hb6.size; first | omega | (simp at this; omega)
  have s0_6 : w6.cell? ⟨w5.heap.size, 0, none⟩ = some (.int .i64 ml) := carry hb6 (by go_simp)
  have s1_6 : w6.cell? ⟨w5.heap.size, 1, none⟩ = some (.int .i64 mh) := carry hb6 (by go_simp)
  have sz_6 : w5.heap.size < w6.heap.size := by have := hb6.size; first | omega | (simp at this; omega)
  have HB_6 := Lib.hid ((by repeat (first | exact HBq.out | refine Below.drew ?_ | refine Below.setCell ?_ (by first | omega | (simp; done) | (simp; omega)) _ | refine Below.alloc ?_ (by first | omega | (simp; done) | (simp; omega)) _) : Below w.heap.size w _).trans (hb6.mono (by first | omega | (simp; done) | (simp; omega))))
  have nz_6 : w.heap.size ≤ w6.heap.size := HB_6.out.size
  clear hb6 a0_q a1_q b0_q b1_q c0_q c1_q s0_q s1_q HBq
  go_wp2_with fail
  refine (within_is HW1.out _).mono ?_
  rintro e w7 ⟨rfl, hb7⟩
  have a0_7 : w7.cell? ⟨w.heap.size, 0, none⟩ = some (.int .i64 l0) := carry hb7 (by go_simp)
  have a1_7 : w7.cell? ⟨w.heap.size, 1, none⟩ = some (.int .i64 u0) := carry hb7 (by go_simp)
  have az_7 : w.heap.size < w7.heap.size := by have := hb7.size; first | omega | (simp at this; omega)
  have b0_7 : w7.cell? ⟨w.heap.size + 1, 0, none⟩ = some (.int .i64 l1) := carry hb7 (by go_simp)
  have b1_7 : w7.cell? ⟨w.heap.size + 1, 1, none⟩ = some (.int .i64 u1) := carry hb7 (by go_simp)
  have bz_7 : w.heap.size + 1 < w7.heap.size := by have := hb7.size; first | omega | (simp at this; omega)
  have c0_7 : w7.cell? ⟨w.heap.size + 1 + 1, 0, none⟩ = some (.int .i64 l2) := carry hb7 (by go_simp)
  have c1_7 : w7.cell? ⟨w.heap.size + 1 + 1, 1, none⟩ = some (.int .i64 u2) := carry hb7 (by go_simp)
  have cz_7 : w.heap.size + 1 + 1 < w7.heap.size := by have := hb7.size; first | omega | (simp at this; omega)
  have s0_7 : w7.cell? ⟨w5.heap.size, 0, none⟩ = some (.int .i64 ml) := carry hb7 (by go_simp)
  have s1_7 : w7.cell? ⟨w5.heap.size, 1, none⟩ = some (.int .i64 mh) := carry hb7 (by go_simp)
  have sz_7 : w5.heap.size < w7.heap.size := by have := hb7.size; first | omega | (simp at this; omega)
  have j0_7 : w7.cell? ⟨w6.heap.size, 0, none⟩ = some (.int .i64 jl) := carry hb7 (by go_simp)
  have j1_7 : w7.cell? ⟨w6.heap.size, 1, none⟩ = some (.int .i64 jh) := carry hb7 (by go_simp)
  have jz_7 : w6.heap.size < w7.heap.size := by have := hb7.size; first | omega | (simp at this; omega)
  have HB_7 := Lib.hid ((by repeat (first | exact HB_6.out | refine Below.drew ?_ | refine Below.setCell ?_ (by first | omega | (simp; done) | (simp; omega)) _ | refine Below.alloc ?_ (by first | omega | (simp; done) | (simp; omega)) _) : Below w.heap.size w _).trans (hb7.mono (by first | omega | (simp; done) | (simp; omega))))
  have nz_7 : w.heap.size ≤ w7.heap.size := HB_7.out.size
  clear hb7 a0_6 a1_6 b0_6 b1_6 c0_6 c1_6 s0_6 s1_6 HB_6
  go_wp2_with fail
  refine (within_is HW2.out _).mono ?_
  rintro e w8 ⟨rfl, hb8⟩
  have a0_8 : w8.cell? ⟨w.heap.size, 0, none⟩ = some (.int .i64 l0) := carry hb8 (by go_simp)
  have a1_8 : w8.cell? ⟨w.heap.size, 1, none⟩ = some (.int .i64 u0) := carry hb8 (by go_simp)
  have az_8 : w.heap.size < w8.heap.size := by have := hb8.size; first | omega | (simp at this; omega)
  have b0_8 : w8.cell? ⟨w.heap.size + 1, 0, none⟩ = some (.int .i64 l1) := carry hb8 (by go_simp)
  have b1_8 : w8.cell? ⟨w.heap.size + 1, 1, none⟩ = some (.int .i64 u1) := carry hb8 (by go_simp)
  have bz_8 : w.heap.size + 1 < w8.heap.size := by have := hb8.size; first | omega | (simp at this; omega)
  have c0_8 : w8.cell? ⟨w.heap.size + 1 + 1, 0, none⟩ = some (.int .i64 l2) := carry hb8 (by go_simp)
  have c1_8 : w8.cell? ⟨w.heap.size + 1 + 1, 1, none⟩ = some (.int .i64 u2) := carry hb8 (by go_simp)
  have cz_8 : w.heap.size + 1 + 1 < w8.heap.size := by have := hb8.size; first | omega | (simp at this; omega)
  have s0_8 : w8.cell? ⟨w5.heap.size, 0, none⟩ = some (.int .i64 ml) := carry hb8 (by go_simp)
  have s1_8 : w8.cell? ⟨w5.heap.size, 1, none⟩ = some (.int .i64 mh) := carry hb8 (by go_simp)
  have sz_8 : w5.heap.size < w8.heap.size := by have := hb8.size; first | omega | (simp at this; omega)
  have j0_8 : w8.cell? ⟨w6.heap.size, 0, none⟩ = some (.int .i64 jl) := carry hb8 (by go_simp)
  have j1_8 : w8.cell? ⟨w6.heap.size, 1, none⟩ = some (.int .i64 jh) := carry hb8 (by go_simp)
  have jz_8 : w6.heap.size < w8.heap.size := by have := hb8.size; first | omega | (simp at this; omega)
  have HB_8 := Lib.hid ((by repeat (first | exact HB_7.out | refine Below.drew ?_ | refine Below.setCell ?_ (by first | omega | (simp; done) | (simp; omega)) _ | refine Below.alloc ?_ (by first | omega | (simp; done) | (simp; omega)) _) : Below w.heap.size w _).trans (hb8.mono (by first | omega | (simp; done) | (simp; omega))))
  have nz_8 : w.heap.size ≤ w8.heap.size := HB_8.out.size
  clear hb8 a0_7 a1_7 b0_7 b1_7 c0_7 c1_7 s0_7 s1_7 j0_7 j1_7 HB_7
  go_wp2_with fail
  refine (within_is HP.out _).mono ?_
  rintro e w9 ⟨rfl, hb9⟩
  have a0_9 : w9.cell? ⟨w.heap.size, 0, none⟩ = some (.int .i64 l0) := carry hb9 (by go_simp)
  have a1_9 : w9.cell? ⟨w.heap.size, 1, none⟩ = some (.int .i64 u0) := carry hb9 (by go_simp)
  have az_9 : w.heap.size < w9.heap.size := by have := hb9.size; first | omega | (simp at this; omega)
  have b0_9 : w9.cell? ⟨w.heap.size + 1, 0, none⟩ = some (.int .i64 l1) := carry hb9 (by go_simp)
  have b1_9 : w9.cell? ⟨w.heap.size + 1, 1, none⟩ = some (.int .i64 u1) := carry hb9 (by go_simp)
  have bz_9 : w.heap.size + 1 < w9.heap.size := by have := hb9.size; first | omega | (simp at this; omega)
  have c0_9 : w9.cell? ⟨w.heap.size + 1 + 1, 0, none⟩ = some (.int .i64 l2) := carry hb9 (by go_simp)
  have c1_9 : w9.cell? ⟨w.heap.size + 1 + 1, 1, none⟩ = some (.int .i64 u2) := carry hb9 (by go_simp)
  have cz_9 : w.heap.size + 1 + 1 < w9.heap.size := by have := hb9.size; first | omega | (simp at this; omega)
  have s0_9 : w9.cell? ⟨w5.heap.size, 0, none⟩ = some (.int .i64 ml) := carry hb9 (by go_simp)
  have s1_9 : w9.cell? ⟨w5.heap.size, 1, none⟩ = some (.int .i64 mh) := carry hb9 (by go_simp)
  have sz_9 : w5.heap.size < w9.heap.size := by have := hb9.size; first | omega | (simp at this; omega)
  have j0_9 : w9.cell? ⟨w6.heap.size, 0, none⟩ = some (.int .i64 jl) := carry hb9 (by go_simp)
  have j1_9 : w9.cell? ⟨w6.heap.size, 1, none⟩ = some (.int .i64 jh) := carry hb9 (by go_simp)
  have jz_9 : w6.heap.size < w9.heap.size := by have := hb9.size; first | omega | (simp at this; omega)
  have HB_9 := Lib.hid ((by repeat (first | exact HB_8.out | refine Below.drew ?_ | refine Below.setCell ?_ (by first | omega | (simp; done) | (simp; omega)) _ | refine Below.alloc ?_ (by first | omega | (simp; done) | (simp; omega)) _) : Below w.heap.size w _).trans (hb9.mono (by first | omega | (simp; done) | (simp; omega))))
  have nz_9 : w.heap.size ≤ w9.heap.size := HB_9.out.size
  clear hb9 a0_8 a1_8 b0_8 b1_8 c0_8 c1_8 s0_8 s1_8 j0_8 j1_8 HB_8
  go_wp2_with fail
  refine (smeet_is HK.out _).mono ?_
  rintro e w10 ⟨rfl, hb10⟩
  have a0_10 : w10.cell? ⟨w.heap.size, 0, none⟩ = some (.int .i64 l0) := carry hb10 (by go_simp)
  have a1_10 : w10.cell? ⟨w.heap.size, 1, none⟩ = some (.int .i64 u0) := carry hb10 (by go_simp)
  have az_10 : w.heap.size < w10.heap.size := by have := hb10.size; first | omega | (simp at this; omega)
  have b0_10 : w10.cell? ⟨w.heap.size + 1, 0, none⟩ = some (.int .i64 l1) := carry hb10 (by go_simp)
  have b1_10 : w10.cell? ⟨w.heap.size + 1, 1, none⟩ = some (.int .i64 u1) := carry hb10 (by go_simp)
  have bz_10 : w.heap.size + 1 < w10.heap.size := by have := hb10.size; first | omega | (simp at this; omega)
  have c0_10 : w10.cell? ⟨w.heap.size + 1 + 1, 0, none⟩ = some (.int .i64 l2) := carry hb10 (by go_simp)
  have c1_10 : w10.cell? ⟨w.heap.size + 1 + 1, 1, none⟩ = some (.int .i64 u2) := carry hb10 (by go_simp)
  have cz_10 : w.heap.size + 1 + 1 < w10.heap.size := by have := hb10.size; first | omega | (simp at this; omega)
  have s0_10 : w10.cell? ⟨w5.heap.size, 0, none⟩ = some (.int .i64 ml) := carry hb10 (by go_simp)
  have s1_10 : w10.cell? ⟨w5.heap.size, 1, none⟩ = some (.int .i64 mh) := carry hb10 (by go_simp)
  have sz_10 : w5.heap.size < w10.heap.size := by have := hb10.size; first | omega | (simp at this; omega)
  have j0_10 : w10.cell? ⟨w6.heap.size, 0, none⟩ = some (.int .i64 jl) := carry hb10 (by go_simp)
  have j1_10 : w10.cell? ⟨w6.heap.size, 1, none⟩ = some (.int .i64 jh) := carry hb10 (by go_simp)
  have jz_10 : w6.heap.size < w10.heap.size := by have := hb10.size; first | omega | (simp at this; omega)
  have HB_10 := Lib.hid ((by repeat (first | exact HB_9.out | refine Below.drew ?_ | refine Below.setCell ?_ (by first | omega | (simp; done) | (simp; omega)) _ | refine Below.alloc ?_ (by first | omega | (simp; done) | (simp; omega)) _) : Below w.heap.size w _).trans (hb10.mono (by first | omega | (simp; done) | (simp; omega))))
  have nz_10 : w.heap.size ≤ w10.heap.size := HB_10.out.size
  clear hb10 a0_9 a1_9 b0_9 b1_9 c0_9 c1_9 s0_9 s1_9 j0_9 j1_9 HB_9
  go_wp2_with fail
  go_ret
  exact ⟨rfl, by repeat (first | exact HB_10.out | refine Below.drew ?_ | refine Below.setCell ?_ (by first | omega | (simp; done) | (simp; omega)) _ | refine Below.alloc ?_ (by first | omega | (simp; done) | (simp; omega)) _)⟩

end Go.Proofs.Ytnhieokegidibaa.integerLattice
