/-
  RealNumbers: the ways.
-/
import Derived.Test.YtbfknapmhkpgcaaGreatDoorNaD
import Derived.Test.YtbfknapmhkpgcaaGreatDoorRefI
import Derived.Test.YtbfknapmhkpgcaaGreatDoorSanH
import Derived.Deep.RegionHeld3
import Derived.Deep.CutRange

namespace Go.Proofs.YtbfknapmhkpgcaaGreatDoor.realNumbers
open Go.RowKit
set_option linter.unusedVariables false

set_option maxRecDepth 100000 in
set_option maxHeartbeats 1600000 in
theorem rneg_any (m e : Int) (w : World) (h1 : -16777216 ≤ m) (h2 : m ≤ 16777216) :
    Calls Tryz.prog 22 #[realV m e] w fun r w' => r = .returned (realV (-m) e) ∧ Below w.heap.size w w' := by
  have hw : IntKind.i64.wrap (-m) = -m := wrap64' _ (by omega) (by omega)
  have hw2 : IntKind.i64.wrap (0 - m) = -m := by rw [wrap64' _ (by omega) (by omega)]; omega
  go_enter Tryz.func22, Tryz.ntmps22
  go_wp2_with fail
  refine bodyPost_ret (v := realV (-m) e) (by simp [results, Tryz.results22, go_sem]) rfl ⟨rfl, by repeat (first | with_reducible exact HBB.out | with_reducible exact Below.refl _ _ | with_reducible refine Below.drew ?_ | with_reducible refine belowN ?_ _ | with_reducible refine Below.setCell ?_ (by first | omega | (simp; done) | (simp; omega)) _ | with_reducible refine Below.alloc ?_ (by first | omega | (simp; done) | (simp; omega)) _)⟩

set_option maxRecDepth 100000 in
set_option maxHeartbeats 8000000 in
theorem bad (m e k f i0 n0 am ae ax fm fe i nm ne gm s c : Int) (w : World) (HAt : Hid (∀ W : World, Calls Tryz.prog 7 #[.int .i64 i0] W fun r w' => r = .returned (rE am ae ax) ∧ Below W.heap.size W w')) (HF : Hid (-2533359615 ≤ i0 ∧ i0 ≤ 2533359615 → ax = 0 ∧ ∀ W : World, Calls Tryz.prog 9 #[.int .i64 i0] W fun r w' => r = .returned (realV am ae) ∧ Below W.heap.size W w')) (HG : Hid (¬ (-2533359615 ≤ i0 ∧ i0 ≤ 2533359615) → ax = 1 ∧ am = 0 ∧ ae = 0)) (HY : Hid (∀ (a b : Int) (W : World), Calls Tryz.prog 8 #[realV a b, .int .i64 0, realV a b] W fun r w' => r = .returned (.bool true) ∧ Below W.heap.size W w')) (HFI : Hid (∀ W : World, Calls Tryz.prog 10 #[.int .i64 n0] W fun r w' => r = .returned (realV fm fe) ∧ Below W.heap.size W w')) (HRF : Hid (∀ W : World, Calls Tryz.prog 11 #[.int .i64 n0] W fun r w' => r = .returned (realV fm fe) ∧ Below W.heap.size W w')) (HV : Hid (∀ W : World, Calls Tryz.prog 12 #[realV m e] W fun r w' => r = .returned (.bool false) ∧ Below W.heap.size W w')) (HVx : Hid (∀ W : World, Calls Tryz.prog 13 #[realV m e] W fun r w' => r = .returned (.bool false) ∧ Below W.heap.size W w')) (HIx : Hid (∀ W : World, Calls Tryz.prog 14 #[realV m e] W fun r w' => r = .returned (iE 0 1) ∧ Below W.heap.size W w')) (HNx : Hid (∀ W : World, Calls Tryz.prog 15 #[realV m e] W fun r w' => r = .returned (rE 0 0 1) ∧ Below W.heap.size W w')) (HNg : Hid (∀ W : World, Calls Tryz.prog 16 #[realV m e] W fun r w' => r = .returned (rE 0 0 1) ∧ Below W.heap.size W w')) (HAb : Hid (∀ W : World, Calls Tryz.prog 17 #[realV m e] W fun r w' => r = .returned (rE 0 0 1) ∧ Below W.heap.size W w')) (HSg : Hid (∀ W : World, Calls Tryz.prog 18 #[realV m e] W fun r w' => r = .returned (iE 0 1) ∧ Below W.heap.size W w')) (HCm : Hid (∀ W : World, Calls Tryz.prog 19 #[realV m e, realV k f] W fun r w' => r = .returned (iE 0 1) ∧ Below W.heap.size W w')) (HSan : Hid (∀ W, Below w.heap.size w W → Calls Tryz.prog 20 #[] W fun r W' => r = .returned (.bool true) ∧ Below W.heap.size W W'))  :
    Calls Tryz.prog 3 #[realV m e, realV k f, .int .i64 i0, .int .i64 n0] w fun r w' => r = .returned (.bool true) ∧ Below w.heap.size w w' := by
  obtain ⟨tt, htt⟩ : ∃ tt : Bool, tt = decide (-2533359615 ≤ i0 ∧ i0 ≤ 2533359615) := ⟨_, rfl⟩
  have HT := Lib.hid htt
  clear htt
  go_enter Tryz.func3, Tryz.ntmps3
  go_wp2_with fail
  refine (HAt.out _).mono ?_
  rintro e w1 ⟨rfl, hb1⟩
  have x0_1 : w1.cell? ⟨w.heap.size, 0, none⟩ = some (.int .i64 m) := carry hb1 (by go_simp)
  have x1_1 : w1.cell? ⟨w.heap.size, 1, none⟩ = some (.int .i64 e) := carry hb1 (by go_simp)
  have xz_1 : w.heap.size < w1.heap.size := by have := hb1.size; first | omega | (simp at this; omega)
  have y0_1 : w1.cell? ⟨w.heap.size + 1, 0, none⟩ = some (.int .i64 k) := carry hb1 (by go_simp)
  have y1_1 : w1.cell? ⟨w.heap.size + 1, 1, none⟩ = some (.int .i64 f) := carry hb1 (by go_simp)
  have yz_1 : w.heap.size + 1 < w1.heap.size := by have := hb1.size; first | omega | (simp at this; omega)
  have HB_1 := Lib.hid ((by repeat (first | exact Below.refl _ _ | refine Below.drew ?_ | refine Below.setCell ?_ (by first | omega | (simp; done) | (simp; omega)) _ | refine Below.alloc ?_ (by first | omega | (simp; done) | (simp; omega)) _) : Below w.heap.size w _).trans (hb1.mono (by first | omega | (simp; done) | (simp; omega))))
  have nz_1 : w.heap.size ≤ w1.heap.size := HB_1.out.size
  clear hb1
  go_upto_region 2 with fail
  generalize hW : w1.alloc _ = w2
  have x0_2 : w2.cell? ⟨w.heap.size, 0, none⟩ = some (.int .i64 m) := by rw [← hW]; clear hW; go_simp
  have x1_2 : w2.cell? ⟨w.heap.size, 1, none⟩ = some (.int .i64 e) := by rw [← hW]; clear hW; go_simp
  have xz_2 : w.heap.size < w2.heap.size := by rw [← hW]; clear hW; simp <;> omega
  have y0_2 : w2.cell? ⟨w.heap.size + 1, 0, none⟩ = some (.int .i64 k) := by rw [← hW]; clear hW; go_simp
  have y1_2 : w2.cell? ⟨w.heap.size + 1, 1, none⟩ = some (.int .i64 f) := by rw [← hW]; clear hW; go_simp
  have yz_2 : w.heap.size + 1 < w2.heap.size := by rw [← hW]; clear hW; simp <;> omega
  have a0_2 : w2.cell? ⟨w1.heap.size, 0, none⟩ = some (.int .i64 am) := by rw [← hW]; clear hW; go_simp
  have a1_2 : w2.cell? ⟨w1.heap.size, 1, none⟩ = some (.int .i64 ae) := by rw [← hW]; clear hW; go_simp
  have az_2 : w1.heap.size < w2.heap.size := by rw [← hW]; clear hW; simp <;> omega
  have HB_2 := Lib.hid (show Below w.heap.size w w2 by rw [← hW]; exact Below.alloc HB_1.out (by have := HB_1.out.size; omega) _)
  clear hW HB_1 x0_1 x1_1 y0_1 y1_1
  have nz_2 : w.heap.size ≤ w2.heap.size := HB_2.out.size
  go_cut [33] from 28 to 33 (fun s wx => s = .bool tt ∧ w2 = wx)
  case first =>
    by_cases h1 : -2533359615 ≤ i0
    · by_cases h2 : i0 ≤ 2533359615
      · go_wp2_with fail
        go_meet
        case rel => exact ⟨by rw [HT.out]; simp [h1, h2], rfl⟩
      · have h3 : decide (i0 ≤ 2533359615) = false := by simpa using h2
        go_wp2_with fail
        go_meet
        case rel => exact ⟨by rw [HT.out]; simp [h2], rfl⟩
    · have h3 : decide (-2533359615 ≤ i0) = false := by simpa using h1
      have h4 : decide (-2533359615 ≤ i0 ∧ i0 ≤ 2533359615) = false := decide_eq_false (fun h => h1 h.1)
      go_wp2_with fail
      go_meet
      case rel => exact ⟨by rw [HT.out, h4], rfl⟩
  case rest =>
  obtain ⟨rfl, rfl⟩ := hcut
  go_upto_if 33 with fail
  go_cut [9, 10] from 34 to 46 (fun p q wx => wx.cell? ⟨w.heap.size, 0, none⟩ = some (.int .i64 m) ∧ wx.cell? ⟨w.heap.size, 1, none⟩ = some (.int .i64 e) ∧ w.heap.size < wx.heap.size ∧ wx.cell? ⟨w.heap.size + 1, 0, none⟩ = some (.int .i64 k) ∧ wx.cell? ⟨w.heap.size + 1, 1, none⟩ = some (.int .i64 f) ∧ w.heap.size + 1 < wx.heap.size ∧ Below w.heap.size w wx)
  case first =>
    cases tt
    · obtain ⟨rfl, rfl, rfl⟩ := HG.out (of_decide_eq_false HT.out.symm)
      go_wp2_with fail
      go_meet
      case rel => exact ⟨x0_2, x1_2, xz_2, y0_2, y1_2, yz_2, HB_2.out⟩
    · obtain ⟨rfl, HRAt⟩ := HF.out (of_decide_eq_true HT.out.symm)
      have K0 := Lib.hid (Below.refl w2.heap.size w2)
      have SK := Lib.hid (show ∀ wx, Below w2.heap.size w2 wx → wx.cell? ⟨w.heap.size, 0, none⟩ = some (.int .i64 m) ∧ wx.cell? ⟨w.heap.size, 1, none⟩ = some (.int .i64 e) ∧ w.heap.size < wx.heap.size ∧ wx.cell? ⟨w.heap.size + 1, 0, none⟩ = some (.int .i64 k) ∧ wx.cell? ⟨w.heap.size + 1, 1, none⟩ = some (.int .i64 f) ∧ w.heap.size + 1 < wx.heap.size ∧ wx.cell? ⟨w1.heap.size, 0, none⟩ = some (.int .i64 am) ∧ wx.cell? ⟨w1.heap.size, 1, none⟩ = some (.int .i64 ae) ∧ w1.heap.size < wx.heap.size ∧ Below w2.heap.size w2 wx from fun wx h => ⟨carry h x0_2, carry h x1_2, Nat.lt_of_lt_of_le xz_2 h.size, carry h y0_2, carry h y1_2, Nat.lt_of_lt_of_le yz_2 h.size, carry h a0_2, carry h a1_2, Nat.lt_of_lt_of_le az_2 h.size, h⟩)
      go_wp2_with fail
      go_region_held3 (fun wx => wx.cell? ⟨w.heap.size, 0, none⟩ = some (.int .i64 m) ∧ wx.cell? ⟨w.heap.size, 1, none⟩ = some (.int .i64 e) ∧ w.heap.size < wx.heap.size ∧ wx.cell? ⟨w.heap.size + 1, 0, none⟩ = some (.int .i64 k) ∧ wx.cell? ⟨w.heap.size + 1, 1, none⟩ = some (.int .i64 f) ∧ w.heap.size + 1 < wx.heap.size ∧ wx.cell? ⟨w1.heap.size, 0, none⟩ = some (.int .i64 am) ∧ wx.cell? ⟨w1.heap.size, 1, none⟩ = some (.int .i64 ae) ∧ w1.heap.size < wx.heap.size ∧ Below w2.heap.size w2 wx) (first | (go_keep; done) | exact SK.out _ (by first | with_reducible assumption | with_reducible exact K0.out | with_reducible exact K0.out.drew | with_reducible exact Below.drew (by with_reducible assumption)))
        (first
          | (go_at_call 9; ((with_reducible refine (HRAt _).mono ?_); rintro r wq ⟨rfl, hbq⟩; have qb : Below w2.heap.size w2 wq := Below.trans (by first | with_reducible assumption | with_reducible exact K0.out | with_reducible exact K0.out.drew | with_reducible exact Below.drew (by with_reducible assumption)) (hbq.mono (Below.size (by first | with_reducible assumption | with_reducible exact K0.out | with_reducible exact K0.out.drew | with_reducible exact Below.drew (by with_reducible assumption))))))
          | (go_at_call 8; ((with_reducible refine (HY.out _ _ _).mono ?_); rintro r wq ⟨rfl, hbq⟩; have qb : Below w2.heap.size w2 wq := Below.trans (by first | with_reducible assumption | with_reducible exact K0.out | with_reducible exact K0.out.drew | with_reducible exact Below.drew (by with_reducible assumption)) (hbq.mono (Below.size (by first | with_reducible assumption | with_reducible exact K0.out | with_reducible exact K0.out.drew | with_reducible exact Below.drew (by with_reducible assumption)))))))
      rename _ ∧ _ ∧ _ ∧ _ ∧ _ ∧ _ ∧ _ ∧ _ ∧ _ ∧ Below w2.heap.size w2 _ => hS
      obtain ⟨w3, rfl⟩ : ∃ x, x = wq := ⟨_, rfl⟩
      obtain ⟨x0_3, x1_3, xz_3, y0_3, y1_3, yz_3, a0_3, a1_3, az_3, xb⟩ := hS
      have HB_3 := Lib.hid (HB_2.out.trans (xb.mono HB_2.out.size))
      clear xb HB_2 K0 SK x0_2 x1_2 y0_2 y1_2 a0_2 a1_2
      have nz_3 : w.heap.size ≤ w3.heap.size := HB_3.out.size
      go_wp2_with fail
      go_meet
      case rel => exact ⟨x0_3, x1_3, xz_3, y0_3, y1_3, yz_3, HB_3.out⟩
  case rest =>
  clear HB_2 x0_2 x1_2 y0_2 y1_2 a0_2 a1_2 az_2 xz_2 yz_2
  obtain ⟨w3, rfl⟩ : ∃ x, x = wc := ⟨_, rfl⟩
  obtain ⟨x0_3, x1_3, xz_3, y0_3, y1_3, yz_3, hb9⟩ := hcut
  have HB_3 := Lib.hid hb9
  clear hb9
  have nz_3 : w.heap.size ≤ w3.heap.size := HB_3.out.size
  have K0 := Lib.hid (Below.refl w3.heap.size w3)
  have SK := Lib.hid (show ∀ wx, Below w3.heap.size w3 wx → wx.cell? ⟨w.heap.size, 0, none⟩ = some (.int .i64 m) ∧ wx.cell? ⟨w.heap.size, 1, none⟩ = some (.int .i64 e) ∧ w.heap.size < wx.heap.size ∧ wx.cell? ⟨w.heap.size + 1, 0, none⟩ = some (.int .i64 k) ∧ wx.cell? ⟨w.heap.size + 1, 1, none⟩ = some (.int .i64 f) ∧ w.heap.size + 1 < wx.heap.size ∧ Below w3.heap.size w3 wx from fun wx h => ⟨carry h x0_3, carry h x1_3, Nat.lt_of_lt_of_le xz_3 h.size, carry h y0_3, carry h y1_3, Nat.lt_of_lt_of_le yz_3 h.size, h⟩)
  go_wp2_with fail
  go_region_held3 (fun wx => wx.cell? ⟨w.heap.size, 0, none⟩ = some (.int .i64 m) ∧ wx.cell? ⟨w.heap.size, 1, none⟩ = some (.int .i64 e) ∧ w.heap.size < wx.heap.size ∧ wx.cell? ⟨w.heap.size + 1, 0, none⟩ = some (.int .i64 k) ∧ wx.cell? ⟨w.heap.size + 1, 1, none⟩ = some (.int .i64 f) ∧ w.heap.size + 1 < wx.heap.size ∧ Below w3.heap.size w3 wx) (first | (go_keep; done) | exact SK.out _ (by first | with_reducible assumption | with_reducible exact K0.out | with_reducible exact K0.out.drew | with_reducible exact Below.drew (by with_reducible assumption)))
    (first
      | (go_at_call 10; ((with_reducible refine (HFI.out _).mono ?_); rintro r wq ⟨rfl, hbq⟩; have qb : Below w3.heap.size w3 wq := Below.trans (by first | with_reducible assumption | with_reducible exact K0.out | with_reducible exact K0.out.drew | with_reducible exact Below.drew (by with_reducible assumption)) (hbq.mono (Below.size (by first | with_reducible assumption | with_reducible exact K0.out | with_reducible exact K0.out.drew | with_reducible exact Below.drew (by with_reducible assumption))))))
      | (go_at_call 11; ((with_reducible refine (HRF.out _).mono ?_); rintro r wq ⟨rfl, hbq⟩; have qb : Below w3.heap.size w3 wq := Below.trans (by first | with_reducible assumption | with_reducible exact K0.out | with_reducible exact K0.out.drew | with_reducible exact Below.drew (by with_reducible assumption)) (hbq.mono (Below.size (by first | with_reducible assumption | with_reducible exact K0.out | with_reducible exact K0.out.drew | with_reducible exact Below.drew (by with_reducible assumption))))))
      | (go_at_call 12; ((with_reducible refine (HV.out _).mono ?_); rintro r wq ⟨rfl, hbq⟩; have qb : Below w3.heap.size w3 wq := Below.trans (by first | with_reducible assumption | with_reducible exact K0.out | with_reducible exact K0.out.drew | with_reducible exact Below.drew (by with_reducible assumption)) (hbq.mono (Below.size (by first | with_reducible assumption | with_reducible exact K0.out | with_reducible exact K0.out.drew | with_reducible exact Below.drew (by with_reducible assumption))))))
      | (go_at_call 13; ((with_reducible refine (HVx.out _).mono ?_); rintro r wq ⟨rfl, hbq⟩; have qb : Below w3.heap.size w3 wq := Below.trans (by first | with_reducible assumption | with_reducible exact K0.out | with_reducible exact K0.out.drew | with_reducible exact Below.drew (by with_reducible assumption)) (hbq.mono (Below.size (by first | with_reducible assumption | with_reducible exact K0.out | with_reducible exact K0.out.drew | with_reducible exact Below.drew (by with_reducible assumption)))))))
  rename _ ∧ _ ∧ _ ∧ _ ∧ _ ∧ _ ∧ Below w3.heap.size w3 _ => hS
  obtain ⟨w4, rfl⟩ : ∃ x, x = wq := ⟨_, rfl⟩
  obtain ⟨x0_4, x1_4, xz_4, y0_4, y1_4, yz_4, xb⟩ := hS
  have HB_4 := Lib.hid (HB_3.out.trans (xb.mono HB_3.out.size))
  clear xb HB_3 K0 SK x0_3 x1_3 y0_3 y1_3
  have nz_4 : w.heap.size ≤ w4.heap.size := HB_4.out.size
  go_wp2_with fail
  refine (HIx.out _).mono ?_
  rintro e w5 ⟨rfl, hb5⟩
  have x0_5 : w5.cell? ⟨w.heap.size, 0, none⟩ = some (.int .i64 m) := carry hb5 (by go_simp)
  have x1_5 : w5.cell? ⟨w.heap.size, 1, none⟩ = some (.int .i64 e) := carry hb5 (by go_simp)
  have xz_5 : w.heap.size < w5.heap.size := by have := hb5.size; first | omega | (simp at this; omega)
  have y0_5 : w5.cell? ⟨w.heap.size + 1, 0, none⟩ = some (.int .i64 k) := carry hb5 (by go_simp)
  have y1_5 : w5.cell? ⟨w.heap.size + 1, 1, none⟩ = some (.int .i64 f) := carry hb5 (by go_simp)
  have yz_5 : w.heap.size + 1 < w5.heap.size := by have := hb5.size; first | omega | (simp at this; omega)
  have HB_5 := Lib.hid ((by repeat (first | exact HB_4.out | refine Below.drew ?_ | refine Below.setCell ?_ (by first | omega | (simp; done) | (simp; omega)) _ | refine Below.alloc ?_ (by first | omega | (simp; done) | (simp; omega)) _) : Below w.heap.size w _).trans (hb5.mono (by first | omega | (simp; done) | (simp; omega))))
  have nz_5 : w.heap.size ≤ w5.heap.size := HB_5.out.size
  clear hb5 x0_4 x1_4 y0_4 y1_4 HB_4
  go_wp2_with fail
  refine (HNx.out _).mono ?_
  rintro e w6 ⟨rfl, hb6⟩
  have x0_6 : w6.cell? ⟨w.heap.size, 0, none⟩ = some (.int .i64 m) := carry hb6 (by go_simp)
  have x1_6 : w6.cell? ⟨w.heap.size, 1, none⟩ = some (.int .i64 e) := carry hb6 (by go_simp)
  have xz_6 : w.heap.size < w6.heap.size := by have := hb6.size; first | omega | (simp at this; omega)
  have y0_6 : w6.cell? ⟨w.heap.size + 1, 0, none⟩ = some (.int .i64 k) := carry hb6 (by go_simp)
  have y1_6 : w6.cell? ⟨w.heap.size + 1, 1, none⟩ = some (.int .i64 f) := carry hb6 (by go_simp)
  have yz_6 : w.heap.size + 1 < w6.heap.size := by have := hb6.size; first | omega | (simp at this; omega)
  have HB_6 := Lib.hid ((by repeat (first | exact HB_5.out | refine Below.drew ?_ | refine Below.setCell ?_ (by first | omega | (simp; done) | (simp; omega)) _ | refine Below.alloc ?_ (by first | omega | (simp; done) | (simp; omega)) _) : Below w.heap.size w _).trans (hb6.mono (by first | omega | (simp; done) | (simp; omega))))
  have nz_6 : w.heap.size ≤ w6.heap.size := HB_6.out.size
  clear hb6 x0_5 x1_5 y0_5 y1_5 HB_5
  go_wp2_with fail
  refine (HNg.out _).mono ?_
  rintro e w7 ⟨rfl, hb7⟩
  have x0_7 : w7.cell? ⟨w.heap.size, 0, none⟩ = some (.int .i64 m) := carry hb7 (by go_simp)
  have x1_7 : w7.cell? ⟨w.heap.size, 1, none⟩ = some (.int .i64 e) := carry hb7 (by go_simp)
  have xz_7 : w.heap.size < w7.heap.size := by have := hb7.size; first | omega | (simp at this; omega)
  have y0_7 : w7.cell? ⟨w.heap.size + 1, 0, none⟩ = some (.int .i64 k) := carry hb7 (by go_simp)
  have y1_7 : w7.cell? ⟨w.heap.size + 1, 1, none⟩ = some (.int .i64 f) := carry hb7 (by go_simp)
  have yz_7 : w.heap.size + 1 < w7.heap.size := by have := hb7.size; first | omega | (simp at this; omega)
  have q0_7 : w7.cell? ⟨w6.heap.size, 0, none⟩ = some (.int .i64 0) := carry hb7 (by go_simp)
  have q1_7 : w7.cell? ⟨w6.heap.size, 1, none⟩ = some (.int .i64 0) := carry hb7 (by go_simp)
  have qz_7 : w6.heap.size < w7.heap.size := by have := hb7.size; first | omega | (simp at this; omega)
  have HB_7 := Lib.hid ((by repeat (first | exact HB_6.out | refine Below.drew ?_ | refine Below.setCell ?_ (by first | omega | (simp; done) | (simp; omega)) _ | refine Below.alloc ?_ (by first | omega | (simp; done) | (simp; omega)) _) : Below w.heap.size w _).trans (hb7.mono (by first | omega | (simp; done) | (simp; omega))))
  have nz_7 : w.heap.size ≤ w7.heap.size := HB_7.out.size
  clear hb7 x0_6 x1_6 y0_6 y1_6 HB_6
  go_wp2_with fail
  refine (HAb.out _).mono ?_
  rintro e w8 ⟨rfl, hb8⟩
  have x0_8 : w8.cell? ⟨w.heap.size, 0, none⟩ = some (.int .i64 m) := carry hb8 (by go_simp)
  have x1_8 : w8.cell? ⟨w.heap.size, 1, none⟩ = some (.int .i64 e) := carry hb8 (by go_simp)
  have xz_8 : w.heap.size < w8.heap.size := by have := hb8.size; first | omega | (simp at this; omega)
  have y0_8 : w8.cell? ⟨w.heap.size + 1, 0, none⟩ = some (.int .i64 k) := carry hb8 (by go_simp)
  have y1_8 : w8.cell? ⟨w.heap.size + 1, 1, none⟩ = some (.int .i64 f) := carry hb8 (by go_simp)
  have yz_8 : w.heap.size + 1 < w8.heap.size := by have := hb8.size; first | omega | (simp at this; omega)
  have q0_8 : w8.cell? ⟨w6.heap.size, 0, none⟩ = some (.int .i64 0) := carry hb8 (by go_simp)
  have q1_8 : w8.cell? ⟨w6.heap.size, 1, none⟩ = some (.int .i64 0) := carry hb8 (by go_simp)
  have qz_8 : w6.heap.size < w8.heap.size := by have := hb8.size; first | omega | (simp at this; omega)
  have g0_8 : w8.cell? ⟨w7.heap.size, 0, none⟩ = some (.int .i64 0) := carry hb8 (by go_simp)
  have g1_8 : w8.cell? ⟨w7.heap.size, 1, none⟩ = some (.int .i64 0) := carry hb8 (by go_simp)
  have gz_8 : w7.heap.size < w8.heap.size := by have := hb8.size; first | omega | (simp at this; omega)
  have HB_8 := Lib.hid ((by repeat (first | exact HB_7.out | refine Below.drew ?_ | refine Below.setCell ?_ (by first | omega | (simp; done) | (simp; omega)) _ | refine Below.alloc ?_ (by first | omega | (simp; done) | (simp; omega)) _) : Below w.heap.size w _).trans (hb8.mono (by first | omega | (simp; done) | (simp; omega))))
  have nz_8 : w.heap.size ≤ w8.heap.size := HB_8.out.size
  clear hb8 x0_7 x1_7 y0_7 y1_7 q0_7 q1_7 HB_7
  go_wp2_with fail
  refine (HSg.out _).mono ?_
  rintro e w9 ⟨rfl, hb9⟩
  have x0_9 : w9.cell? ⟨w.heap.size, 0, none⟩ = some (.int .i64 m) := carry hb9 (by go_simp)
  have x1_9 : w9.cell? ⟨w.heap.size, 1, none⟩ = some (.int .i64 e) := carry hb9 (by go_simp)
  have xz_9 : w.heap.size < w9.heap.size := by have := hb9.size; first | omega | (simp at this; omega)
  have y0_9 : w9.cell? ⟨w.heap.size + 1, 0, none⟩ = some (.int .i64 k) := carry hb9 (by go_simp)
  have y1_9 : w9.cell? ⟨w.heap.size + 1, 1, none⟩ = some (.int .i64 f) := carry hb9 (by go_simp)
  have yz_9 : w.heap.size + 1 < w9.heap.size := by have := hb9.size; first | omega | (simp at this; omega)
  have q0_9 : w9.cell? ⟨w6.heap.size, 0, none⟩ = some (.int .i64 0) := carry hb9 (by go_simp)
  have q1_9 : w9.cell? ⟨w6.heap.size, 1, none⟩ = some (.int .i64 0) := carry hb9 (by go_simp)
  have qz_9 : w6.heap.size < w9.heap.size := by have := hb9.size; first | omega | (simp at this; omega)
  have g0_9 : w9.cell? ⟨w7.heap.size, 0, none⟩ = some (.int .i64 0) := carry hb9 (by go_simp)
  have g1_9 : w9.cell? ⟨w7.heap.size, 1, none⟩ = some (.int .i64 0) := carry hb9 (by go_simp)
  have gz_9 : w7.heap.size < w9.heap.size := by have := hb9.size; first | omega | (simp at this; omega)
  have b0_9 : w9.cell? ⟨w8.heap.size, 0, none⟩ = some (.int .i64 0) := carry hb9 (by go_simp)
  have b1_9 : w9.cell? ⟨w8.heap.size, 1, none⟩ = some (.int .i64 0) := carry hb9 (by go_simp)
  have bz_9 : w8.heap.size < w9.heap.size := by have := hb9.size; first | omega | (simp at this; omega)
  have HB_9 := Lib.hid ((by repeat (first | exact HB_8.out | refine Below.drew ?_ | refine Below.setCell ?_ (by first | omega | (simp; done) | (simp; omega)) _ | refine Below.alloc ?_ (by first | omega | (simp; done) | (simp; omega)) _) : Below w.heap.size w _).trans (hb9.mono (by first | omega | (simp; done) | (simp; omega))))
  have nz_9 : w.heap.size ≤ w9.heap.size := HB_9.out.size
  clear hb9 x0_8 x1_8 y0_8 y1_8 q0_8 q1_8 g0_8 g1_8 HB_8
  go_wp2_with fail
  refine (HCm.out _).mono ?_
  rintro e w10 ⟨rfl, hb10⟩
  have x0_10 : w10.cell? ⟨w.heap.size, 0, none⟩ = some (.int .i64 m) := carry hb10 (by go_simp)
  have x1_10 : w10.cell? ⟨w.heap.size, 1, none⟩ = some (.int .i64 e) := carry hb10 (by go_simp)
  have xz_10 : w.heap.size < w10.heap.size := by have := hb10.size; first | omega | (simp at this; omega)
  have y0_10 : w10.cell? ⟨w.heap.size + 1, 0, none⟩ = some (.int .i64 k) := carry hb10 (by go_simp)
  have y1_10 : w10.cell? ⟨w.heap.size + 1, 1, none⟩ = some (.int .i64 f) := carry hb10 (by go_simp)
  have yz_10 : w.heap.size + 1 < w10.heap.size := by have := hb10.size; first | omega | (simp at this; omega)
  have q0_10 : w10.cell? ⟨w6.heap.size, 0, none⟩ = some (.int .i64 0) := carry hb10 (by go_simp)
  have q1_10 : w10.cell? ⟨w6.heap.size, 1, none⟩ = some (.int .i64 0) := carry hb10 (by go_simp)
  have qz_10 : w6.heap.size < w10.heap.size := by have := hb10.size; first | omega | (simp at this; omega)
  have g0_10 : w10.cell? ⟨w7.heap.size, 0, none⟩ = some (.int .i64 0) := carry hb10 (by go_simp)
  have g1_10 : w10.cell? ⟨w7.heap.size, 1, none⟩ = some (.int .i64 0) := carry hb10 (by go_simp)
  have gz_10 : w7.heap.size < w10.heap.size := by have := hb10.size; first | omega | (simp at this; omega)
  have b0_10 : w10.cell? ⟨w8.heap.size, 0, none⟩ = some (.int .i64 0) := carry hb10 (by go_simp)
  have b1_10 : w10.cell? ⟨w8.heap.size, 1, none⟩ = some (.int .i64 0) := carry hb10 (by go_simp)
  have bz_10 : w8.heap.size < w10.heap.size := by have := hb10.size; first | omega | (simp at this; omega)
  have HB_10 := Lib.hid ((by repeat (first | exact HB_9.out | refine Below.drew ?_ | refine Below.setCell ?_ (by first | omega | (simp; done) | (simp; omega)) _ | refine Below.alloc ?_ (by first | omega | (simp; done) | (simp; omega)) _) : Below w.heap.size w _).trans (hb10.mono (by first | omega | (simp; done) | (simp; omega))))
  have nz_10 : w.heap.size ≤ w10.heap.size := HB_10.out.size
  clear hb10 x0_9 x1_9 y0_9 y1_9 q0_9 q1_9 g0_9 g1_9 b0_9 b1_9 HB_9
  go_wp2_with fail
  refine (HVx.out _).mono ?_
  rintro e w11 ⟨rfl, hb11⟩
  have x0_11 : w11.cell? ⟨w.heap.size, 0, none⟩ = some (.int .i64 m) := carry hb11 (by go_simp)
  have x1_11 : w11.cell? ⟨w.heap.size, 1, none⟩ = some (.int .i64 e) := carry hb11 (by go_simp)
  have xz_11 : w.heap.size < w11.heap.size := by have := hb11.size; first | omega | (simp at this; omega)
  have y0_11 : w11.cell? ⟨w.heap.size + 1, 0, none⟩ = some (.int .i64 k) := carry hb11 (by go_simp)
  have y1_11 : w11.cell? ⟨w.heap.size + 1, 1, none⟩ = some (.int .i64 f) := carry hb11 (by go_simp)
  have yz_11 : w.heap.size + 1 < w11.heap.size := by have := hb11.size; first | omega | (simp at this; omega)
  have q0_11 : w11.cell? ⟨w6.heap.size, 0, none⟩ = some (.int .i64 0) := carry hb11 (by go_simp)
  have q1_11 : w11.cell? ⟨w6.heap.size, 1, none⟩ = some (.int .i64 0) := carry hb11 (by go_simp)
  have qz_11 : w6.heap.size < w11.heap.size := by have := hb11.size; first | omega | (simp at this; omega)
  have g0_11 : w11.cell? ⟨w7.heap.size, 0, none⟩ = some (.int .i64 0) := carry hb11 (by go_simp)
  have g1_11 : w11.cell? ⟨w7.heap.size, 1, none⟩ = some (.int .i64 0) := carry hb11 (by go_simp)
  have gz_11 : w7.heap.size < w11.heap.size := by have := hb11.size; first | omega | (simp at this; omega)
  have b0_11 : w11.cell? ⟨w8.heap.size, 0, none⟩ = some (.int .i64 0) := carry hb11 (by go_simp)
  have b1_11 : w11.cell? ⟨w8.heap.size, 1, none⟩ = some (.int .i64 0) := carry hb11 (by go_simp)
  have bz_11 : w8.heap.size < w11.heap.size := by have := hb11.size; first | omega | (simp at this; omega)
  have HB_11 := Lib.hid ((by repeat (first | exact HB_10.out | refine Below.drew ?_ | refine Below.setCell ?_ (by first | omega | (simp; done) | (simp; omega)) _ | refine Below.alloc ?_ (by first | omega | (simp; done) | (simp; omega)) _) : Below w.heap.size w _).trans (hb11.mono (by first | omega | (simp; done) | (simp; omega))))
  have nz_11 : w.heap.size ≤ w11.heap.size := HB_11.out.size
  clear hb11 x0_10 x1_10 y0_10 y1_10 q0_10 q1_10 g0_10 g1_10 b0_10 b1_10 HB_10
  go_wp2_with fail
  refine (HSan.out _ (by repeat (first | exact HB_11.out | refine Below.drew ?_ | refine Below.setCell ?_ (by first | omega | (simp; done) | (simp; omega)) _ | refine Below.alloc ?_ (by first | omega | (simp; done) | (simp; omega)) _))).mono ?_
  rintro e w12 ⟨rfl, hb12⟩
  have q0_12 : w12.cell? ⟨w6.heap.size, 0, none⟩ = some (.int .i64 0) := carry hb12 (by go_simp)
  have q1_12 : w12.cell? ⟨w6.heap.size, 1, none⟩ = some (.int .i64 0) := carry hb12 (by go_simp)
  have qz_12 : w6.heap.size < w12.heap.size := by have := hb12.size; first | omega | (simp at this; omega)
  have g0_12 : w12.cell? ⟨w7.heap.size, 0, none⟩ = some (.int .i64 0) := carry hb12 (by go_simp)
  have g1_12 : w12.cell? ⟨w7.heap.size, 1, none⟩ = some (.int .i64 0) := carry hb12 (by go_simp)
  have gz_12 : w7.heap.size < w12.heap.size := by have := hb12.size; first | omega | (simp at this; omega)
  have b0_12 : w12.cell? ⟨w8.heap.size, 0, none⟩ = some (.int .i64 0) := carry hb12 (by go_simp)
  have b1_12 : w12.cell? ⟨w8.heap.size, 1, none⟩ = some (.int .i64 0) := carry hb12 (by go_simp)
  have bz_12 : w8.heap.size < w12.heap.size := by have := hb12.size; first | omega | (simp at this; omega)
  have HB_12 := Lib.hid ((by repeat (first | exact HB_11.out | refine Below.drew ?_ | refine Below.setCell ?_ (by first | omega | (simp; done) | (simp; omega)) _ | refine Below.alloc ?_ (by first | omega | (simp; done) | (simp; omega)) _) : Below w.heap.size w _).trans (hb12.mono (by first | omega | (simp; done) | (simp; omega))))
  have nz_12 : w.heap.size ≤ w12.heap.size := HB_12.out.size
  clear hb12 x0_11 x1_11 y0_11 y1_11 q0_11 q1_11 g0_11 g1_11 b0_11 b1_11 HB_11
  go_wp2_with fail
  go_ret
  exact ⟨rfl, by repeat (first | exact HB_12.out | refine Below.drew ?_ | refine Below.setCell ?_ (by first | omega | (simp; done) | (simp; omega)) _ | refine Below.alloc ?_ (by first | omega | (simp; done) | (simp; omega)) _)⟩

set_option maxRecDepth 100000 in
set_option maxHeartbeats 8000000 in
theorem negB (m e k f i0 n0 am ae ax fm fe i nm ne gm s c : Int) (w : World) (HAt : Hid (∀ W : World, Calls Tryz.prog 7 #[.int .i64 i0] W fun r w' => r = .returned (rE am ae ax) ∧ Below W.heap.size W w')) (HF : Hid (-2533359615 ≤ i0 ∧ i0 ≤ 2533359615 → ax = 0 ∧ ∀ W : World, Calls Tryz.prog 9 #[.int .i64 i0] W fun r w' => r = .returned (realV am ae) ∧ Below W.heap.size W w')) (HG : Hid (¬ (-2533359615 ≤ i0 ∧ i0 ≤ 2533359615) → ax = 1 ∧ am = 0 ∧ ae = 0)) (HY : Hid (∀ (a b : Int) (W : World), Calls Tryz.prog 8 #[realV a b, .int .i64 0, realV a b] W fun r w' => r = .returned (.bool true) ∧ Below W.heap.size W w')) (HFI : Hid (∀ W : World, Calls Tryz.prog 10 #[.int .i64 n0] W fun r w' => r = .returned (realV fm fe) ∧ Below W.heap.size W w')) (HRF : Hid (∀ W : World, Calls Tryz.prog 11 #[.int .i64 n0] W fun r w' => r = .returned (realV fm fe) ∧ Below W.heap.size W w')) (HV : Hid (∀ W : World, Calls Tryz.prog 12 #[realV m e] W fun r w' => r = .returned (.bool true) ∧ Below W.heap.size W w')) (HVx : Hid (∀ W : World, Calls Tryz.prog 13 #[realV m e] W fun r w' => r = .returned (.bool true) ∧ Below W.heap.size W w')) (HVy : Hid (∀ W : World, Calls Tryz.prog 13 #[realV k f] W fun r w' => r = .returned (.bool false) ∧ Below W.heap.size W w')) (HIx : Hid (∀ W : World, Calls Tryz.prog 14 #[realV m e] W fun r w' => r = .returned (iE i 0) ∧ Below W.heap.size W w')) (HNx : Hid (∀ W : World, Calls Tryz.prog 15 #[realV m e] W fun r w' => r = .returned (rE nm ne 0) ∧ Below W.heap.size W w')) (HNg : Hid (∀ W : World, Calls Tryz.prog 16 #[realV m e] W fun r w' => r = .returned (rE gm e 0) ∧ Below W.heap.size W w')) (HAb : Hid (∀ W : World, Calls Tryz.prog 17 #[realV m e] W fun r w' => r = .returned (rE gm e 0) ∧ Below W.heap.size W w')) (HSg : Hid (∀ W : World, Calls Tryz.prog 18 #[realV m e] W fun r w' => r = .returned (iE s 0) ∧ Below W.heap.size W w')) (HCm : Hid (∀ W : World, Calls Tryz.prog 19 #[realV m e, realV k f] W fun r w' => r = .returned (iE 0 1) ∧ Below W.heap.size W w')) (HSan : Hid (∀ W, Below w.heap.size w W → Calls Tryz.prog 20 #[] W fun r W' => r = .returned (.bool true) ∧ Below W.heap.size W W')) (HRI : Hid (∀ W : World, Calls Tryz.prog 23 #[realV m e] W fun r w' => r = .returned (.int .i64 i) ∧ Below W.heap.size W w')) (HRN : Hid (∀ W : World, Calls Tryz.prog 22 #[realV m e] W fun r w' => r = .returned (realV gm e) ∧ Below W.heap.size W w')) (HRC : Hid (∀ W : World, Calls Tryz.prog 24 #[.int .i64 m, .int .i64 0] W fun r w' => r = .returned (.int .i64 s) ∧ Below W.heap.size W w')) (hm : m < 0) (hi : (i == 2533359615) = false) (hw : IntKind.i64.wrap (i + 1) = i + 1) (HRA : Hid (∀ W : World, Calls Tryz.prog 9 #[.int .i64 (i + 1)] W fun r w' => r = .returned (realV nm ne) ∧ Below W.heap.size W w'))  :
    Calls Tryz.prog 3 #[realV m e, realV k f, .int .i64 i0, .int .i64 n0] w fun r w' => r = .returned (.bool true) ∧ Below w.heap.size w w' := by
  obtain ⟨tt, htt⟩ : ∃ tt : Bool, tt = decide (-2533359615 ≤ i0 ∧ i0 ≤ 2533359615) := ⟨_, rfl⟩
  have HT := Lib.hid htt
  clear htt
  go_enter Tryz.func3, Tryz.ntmps3
  go_wp2_with fail
  refine (HAt.out _).mono ?_
  rintro e w1 ⟨rfl, hb1⟩
  have x0_1 : w1.cell? ⟨w.heap.size, 0, none⟩ = some (.int .i64 m) := carry hb1 (by go_simp)
  have x1_1 : w1.cell? ⟨w.heap.size, 1, none⟩ = some (.int .i64 e) := carry hb1 (by go_simp)
  have xz_1 : w.heap.size < w1.heap.size := by have := hb1.size; first | omega | (simp at this; omega)
  have y0_1 : w1.cell? ⟨w.heap.size + 1, 0, none⟩ = some (.int .i64 k) := carry hb1 (by go_simp)
  have y1_1 : w1.cell? ⟨w.heap.size + 1, 1, none⟩ = some (.int .i64 f) := carry hb1 (by go_simp)
  have yz_1 : w.heap.size + 1 < w1.heap.size := by have := hb1.size; first | omega | (simp at this; omega)
  have HB_1 := Lib.hid ((by repeat (first | exact Below.refl _ _ | refine Below.drew ?_ | refine Below.setCell ?_ (by first | omega | (simp; done) | (simp; omega)) _ | refine Below.alloc ?_ (by first | omega | (simp; done) | (simp; omega)) _) : Below w.heap.size w _).trans (hb1.mono (by first | omega | (simp; done) | (simp; omega))))
  have nz_1 : w.heap.size ≤ w1.heap.size := HB_1.out.size
  clear hb1
  go_upto_region 2 with fail
  generalize hW : w1.alloc _ = w2
  have x0_2 : w2.cell? ⟨w.heap.size, 0, none⟩ = some (.int .i64 m) := by rw [← hW]; clear hW; go_simp
  have x1_2 : w2.cell? ⟨w.heap.size, 1, none⟩ = some (.int .i64 e) := by rw [← hW]; clear hW; go_simp
  have xz_2 : w.heap.size < w2.heap.size := by rw [← hW]; clear hW; simp <;> omega
  have y0_2 : w2.cell? ⟨w.heap.size + 1, 0, none⟩ = some (.int .i64 k) := by rw [← hW]; clear hW; go_simp
  have y1_2 : w2.cell? ⟨w.heap.size + 1, 1, none⟩ = some (.int .i64 f) := by rw [← hW]; clear hW; go_simp
  have yz_2 : w.heap.size + 1 < w2.heap.size := by rw [← hW]; clear hW; simp <;> omega
  have a0_2 : w2.cell? ⟨w1.heap.size, 0, none⟩ = some (.int .i64 am) := by rw [← hW]; clear hW; go_simp
  have a1_2 : w2.cell? ⟨w1.heap.size, 1, none⟩ = some (.int .i64 ae) := by rw [← hW]; clear hW; go_simp
  have az_2 : w1.heap.size < w2.heap.size := by rw [← hW]; clear hW; simp <;> omega
  have HB_2 := Lib.hid (show Below w.heap.size w w2 by rw [← hW]; exact Below.alloc HB_1.out (by have := HB_1.out.size; omega) _)
  clear hW HB_1 x0_1 x1_1 y0_1 y1_1
  have nz_2 : w.heap.size ≤ w2.heap.size := HB_2.out.size
  go_cut [33] from 28 to 33 (fun s wx => s = .bool tt ∧ w2 = wx)
  case first =>
    by_cases h1 : -2533359615 ≤ i0
    · by_cases h2 : i0 ≤ 2533359615
      · go_wp2_with fail
        go_meet
        case rel => exact ⟨by rw [HT.out]; simp [h1, h2], rfl⟩
      · have h3 : decide (i0 ≤ 2533359615) = false := by simpa using h2
        go_wp2_with fail
        go_meet
        case rel => exact ⟨by rw [HT.out]; simp [h2], rfl⟩
    · have h3 : decide (-2533359615 ≤ i0) = false := by simpa using h1
      have h4 : decide (-2533359615 ≤ i0 ∧ i0 ≤ 2533359615) = false := decide_eq_false (fun h => h1 h.1)
      go_wp2_with fail
      go_meet
      case rel => exact ⟨by rw [HT.out, h4], rfl⟩
  case rest =>
  obtain ⟨rfl, rfl⟩ := hcut
  go_upto_if 33 with fail
  go_cut [9, 10] from 34 to 46 (fun p q wx => wx.cell? ⟨w.heap.size, 0, none⟩ = some (.int .i64 m) ∧ wx.cell? ⟨w.heap.size, 1, none⟩ = some (.int .i64 e) ∧ w.heap.size < wx.heap.size ∧ wx.cell? ⟨w.heap.size + 1, 0, none⟩ = some (.int .i64 k) ∧ wx.cell? ⟨w.heap.size + 1, 1, none⟩ = some (.int .i64 f) ∧ w.heap.size + 1 < wx.heap.size ∧ Below w.heap.size w wx)
  case first =>
    cases tt
    · obtain ⟨rfl, rfl, rfl⟩ := HG.out (of_decide_eq_false HT.out.symm)
      go_wp2_with fail
      go_meet
      case rel => exact ⟨x0_2, x1_2, xz_2, y0_2, y1_2, yz_2, HB_2.out⟩
    · obtain ⟨rfl, HRAt⟩ := HF.out (of_decide_eq_true HT.out.symm)
      have K0 := Lib.hid (Below.refl w2.heap.size w2)
      have SK := Lib.hid (show ∀ wx, Below w2.heap.size w2 wx → wx.cell? ⟨w.heap.size, 0, none⟩ = some (.int .i64 m) ∧ wx.cell? ⟨w.heap.size, 1, none⟩ = some (.int .i64 e) ∧ w.heap.size < wx.heap.size ∧ wx.cell? ⟨w.heap.size + 1, 0, none⟩ = some (.int .i64 k) ∧ wx.cell? ⟨w.heap.size + 1, 1, none⟩ = some (.int .i64 f) ∧ w.heap.size + 1 < wx.heap.size ∧ wx.cell? ⟨w1.heap.size, 0, none⟩ = some (.int .i64 am) ∧ wx.cell? ⟨w1.heap.size, 1, none⟩ = some (.int .i64 ae) ∧ w1.heap.size < wx.heap.size ∧ Below w2.heap.size w2 wx from fun wx h => ⟨carry h x0_2, carry h x1_2, Nat.lt_of_lt_of_le xz_2 h.size, carry h y0_2, carry h y1_2, Nat.lt_of_lt_of_le yz_2 h.size, carry h a0_2, carry h a1_2, Nat.lt_of_lt_of_le az_2 h.size, h⟩)
      go_wp2_with fail
      go_region_held3 (fun wx => wx.cell? ⟨w.heap.size, 0, none⟩ = some (.int .i64 m) ∧ wx.cell? ⟨w.heap.size, 1, none⟩ = some (.int .i64 e) ∧ w.heap.size < wx.heap.size ∧ wx.cell? ⟨w.heap.size + 1, 0, none⟩ = some (.int .i64 k) ∧ wx.cell? ⟨w.heap.size + 1, 1, none⟩ = some (.int .i64 f) ∧ w.heap.size + 1 < wx.heap.size ∧ wx.cell? ⟨w1.heap.size, 0, none⟩ = some (.int .i64 am) ∧ wx.cell? ⟨w1.heap.size, 1, none⟩ = some (.int .i64 ae) ∧ w1.heap.size < wx.heap.size ∧ Below w2.heap.size w2 wx) (first | (go_keep; done) | exact SK.out _ (by first | with_reducible assumption | with_reducible exact K0.out | with_reducible exact K0.out.drew | with_reducible exact Below.drew (by with_reducible assumption)))
        (first
          | (go_at_call 9; ((with_reducible refine (HRAt _).mono ?_); rintro r wq ⟨rfl, hbq⟩; have qb : Below w2.heap.size w2 wq := Below.trans (by first | with_reducible assumption | with_reducible exact K0.out | with_reducible exact K0.out.drew | with_reducible exact Below.drew (by with_reducible assumption)) (hbq.mono (Below.size (by first | with_reducible assumption | with_reducible exact K0.out | with_reducible exact K0.out.drew | with_reducible exact Below.drew (by with_reducible assumption))))))
          | (go_at_call 8; ((with_reducible refine (HY.out _ _ _).mono ?_); rintro r wq ⟨rfl, hbq⟩; have qb : Below w2.heap.size w2 wq := Below.trans (by first | with_reducible assumption | with_reducible exact K0.out | with_reducible exact K0.out.drew | with_reducible exact Below.drew (by with_reducible assumption)) (hbq.mono (Below.size (by first | with_reducible assumption | with_reducible exact K0.out | with_reducible exact K0.out.drew | with_reducible exact Below.drew (by with_reducible assumption)))))))
      rename _ ∧ _ ∧ _ ∧ _ ∧ _ ∧ _ ∧ _ ∧ _ ∧ _ ∧ Below w2.heap.size w2 _ => hS
      obtain ⟨w3, rfl⟩ : ∃ x, x = wq := ⟨_, rfl⟩
      obtain ⟨x0_3, x1_3, xz_3, y0_3, y1_3, yz_3, a0_3, a1_3, az_3, xb⟩ := hS
      have HB_3 := Lib.hid (HB_2.out.trans (xb.mono HB_2.out.size))
      clear xb HB_2 K0 SK x0_2 x1_2 y0_2 y1_2 a0_2 a1_2
      have nz_3 : w.heap.size ≤ w3.heap.size := HB_3.out.size
      go_wp2_with fail
      go_meet
      case rel => exact ⟨x0_3, x1_3, xz_3, y0_3, y1_3, yz_3, HB_3.out⟩
  case rest =>
  clear HB_2 x0_2 x1_2 y0_2 y1_2 a0_2 a1_2 az_2 xz_2 yz_2
  obtain ⟨w3, rfl⟩ : ∃ x, x = wc := ⟨_, rfl⟩
  obtain ⟨x0_3, x1_3, xz_3, y0_3, y1_3, yz_3, hb9⟩ := hcut
  have HB_3 := Lib.hid hb9
  clear hb9
  have nz_3 : w.heap.size ≤ w3.heap.size := HB_3.out.size
  have K0 := Lib.hid (Below.refl w3.heap.size w3)
  have SK := Lib.hid (show ∀ wx, Below w3.heap.size w3 wx → wx.cell? ⟨w.heap.size, 0, none⟩ = some (.int .i64 m) ∧ wx.cell? ⟨w.heap.size, 1, none⟩ = some (.int .i64 e) ∧ w.heap.size < wx.heap.size ∧ wx.cell? ⟨w.heap.size + 1, 0, none⟩ = some (.int .i64 k) ∧ wx.cell? ⟨w.heap.size + 1, 1, none⟩ = some (.int .i64 f) ∧ w.heap.size + 1 < wx.heap.size ∧ Below w3.heap.size w3 wx from fun wx h => ⟨carry h x0_3, carry h x1_3, Nat.lt_of_lt_of_le xz_3 h.size, carry h y0_3, carry h y1_3, Nat.lt_of_lt_of_le yz_3 h.size, h⟩)
  go_wp2_with fail
  go_region_held3 (fun wx => wx.cell? ⟨w.heap.size, 0, none⟩ = some (.int .i64 m) ∧ wx.cell? ⟨w.heap.size, 1, none⟩ = some (.int .i64 e) ∧ w.heap.size < wx.heap.size ∧ wx.cell? ⟨w.heap.size + 1, 0, none⟩ = some (.int .i64 k) ∧ wx.cell? ⟨w.heap.size + 1, 1, none⟩ = some (.int .i64 f) ∧ w.heap.size + 1 < wx.heap.size ∧ Below w3.heap.size w3 wx) (first | (go_keep; done) | exact SK.out _ (by first | with_reducible assumption | with_reducible exact K0.out | with_reducible exact K0.out.drew | with_reducible exact Below.drew (by with_reducible assumption)))
    (first
      | (go_at_call 10; ((with_reducible refine (HFI.out _).mono ?_); rintro r wq ⟨rfl, hbq⟩; have qb : Below w3.heap.size w3 wq := Below.trans (by first | with_reducible assumption | with_reducible exact K0.out | with_reducible exact K0.out.drew | with_reducible exact Below.drew (by with_reducible assumption)) (hbq.mono (Below.size (by first | with_reducible assumption | with_reducible exact K0.out | with_reducible exact K0.out.drew | with_reducible exact Below.drew (by with_reducible assumption))))))
      | (go_at_call 11; ((with_reducible refine (HRF.out _).mono ?_); rintro r wq ⟨rfl, hbq⟩; have qb : Below w3.heap.size w3 wq := Below.trans (by first | with_reducible assumption | with_reducible exact K0.out | with_reducible exact K0.out.drew | with_reducible exact Below.drew (by with_reducible assumption)) (hbq.mono (Below.size (by first | with_reducible assumption | with_reducible exact K0.out | with_reducible exact K0.out.drew | with_reducible exact Below.drew (by with_reducible assumption))))))
      | (go_at_call 12; ((with_reducible refine (HV.out _).mono ?_); rintro r wq ⟨rfl, hbq⟩; have qb : Below w3.heap.size w3 wq := Below.trans (by first | with_reducible assumption | with_reducible exact K0.out | with_reducible exact K0.out.drew | with_reducible exact Below.drew (by with_reducible assumption)) (hbq.mono (Below.size (by first | with_reducible assumption | with_reducible exact K0.out | with_reducible exact K0.out.drew | with_reducible exact Below.drew (by with_reducible assumption))))))
      | (go_at_call 13; ((with_reducible refine (HVx.out _).mono ?_); rintro r wq ⟨rfl, hbq⟩; have qb : Below w3.heap.size w3 wq := Below.trans (by first | with_reducible assumption | with_reducible exact K0.out | with_reducible exact K0.out.drew | with_reducible exact Below.drew (by with_reducible assumption)) (hbq.mono (Below.size (by first | with_reducible assumption | with_reducible exact K0.out | with_reducible exact K0.out.drew | with_reducible exact Below.drew (by with_reducible assumption)))))))
  rename _ ∧ _ ∧ _ ∧ _ ∧ _ ∧ _ ∧ Below w3.heap.size w3 _ => hS
  obtain ⟨w4, rfl⟩ : ∃ x, x = wq := ⟨_, rfl⟩
  obtain ⟨x0_4, x1_4, xz_4, y0_4, y1_4, yz_4, xb⟩ := hS
  have HB_4 := Lib.hid (HB_3.out.trans (xb.mono HB_3.out.size))
  clear xb HB_3 K0 SK x0_3 x1_3 y0_3 y1_3
  have nz_4 : w.heap.size ≤ w4.heap.size := HB_4.out.size
  go_wp2_with fail
  refine (HIx.out _).mono ?_
  rintro e w5 ⟨rfl, hb5⟩
  have x0_5 : w5.cell? ⟨w.heap.size, 0, none⟩ = some (.int .i64 m) := carry hb5 (by go_simp)
  have x1_5 : w5.cell? ⟨w.heap.size, 1, none⟩ = some (.int .i64 e) := carry hb5 (by go_simp)
  have xz_5 : w.heap.size < w5.heap.size := by have := hb5.size; first | omega | (simp at this; omega)
  have y0_5 : w5.cell? ⟨w.heap.size + 1, 0, none⟩ = some (.int .i64 k) := carry hb5 (by go_simp)
  have y1_5 : w5.cell? ⟨w.heap.size + 1, 1, none⟩ = some (.int .i64 f) := carry hb5 (by go_simp)
  have yz_5 : w.heap.size + 1 < w5.heap.size := by have := hb5.size; first | omega | (simp at this; omega)
  have HB_5 := Lib.hid ((by repeat (first | exact HB_4.out | refine Below.drew ?_ | refine Below.setCell ?_ (by first | omega | (simp; done) | (simp; omega)) _ | refine Below.alloc ?_ (by first | omega | (simp; done) | (simp; omega)) _) : Below w.heap.size w _).trans (hb5.mono (by first | omega | (simp; done) | (simp; omega))))
  have nz_5 : w.heap.size ≤ w5.heap.size := HB_5.out.size
  clear hb5 x0_4 x1_4 y0_4 y1_4 HB_4
  go_wp2_with fail
  refine (HNx.out _).mono ?_
  rintro e w6 ⟨rfl, hb6⟩
  have x0_6 : w6.cell? ⟨w.heap.size, 0, none⟩ = some (.int .i64 m) := carry hb6 (by go_simp)
  have x1_6 : w6.cell? ⟨w.heap.size, 1, none⟩ = some (.int .i64 e) := carry hb6 (by go_simp)
  have xz_6 : w.heap.size < w6.heap.size := by have := hb6.size; first | omega | (simp at this; omega)
  have y0_6 : w6.cell? ⟨w.heap.size + 1, 0, none⟩ = some (.int .i64 k) := carry hb6 (by go_simp)
  have y1_6 : w6.cell? ⟨w.heap.size + 1, 1, none⟩ = some (.int .i64 f) := carry hb6 (by go_simp)
  have yz_6 : w.heap.size + 1 < w6.heap.size := by have := hb6.size; first | omega | (simp at this; omega)
  have HB_6 := Lib.hid ((by repeat (first | exact HB_5.out | refine Below.drew ?_ | refine Below.setCell ?_ (by first | omega | (simp; done) | (simp; omega)) _ | refine Below.alloc ?_ (by first | omega | (simp; done) | (simp; omega)) _) : Below w.heap.size w _).trans (hb6.mono (by first | omega | (simp; done) | (simp; omega))))
  have nz_6 : w.heap.size ≤ w6.heap.size := HB_6.out.size
  clear hb6 x0_5 x1_5 y0_5 y1_5 HB_5
  go_wp2_with fail
  refine (HNg.out _).mono ?_
  rintro e w7 ⟨rfl, hb7⟩
  have x0_7 : w7.cell? ⟨w.heap.size, 0, none⟩ = some (.int .i64 m) := carry hb7 (by go_simp)
  have x1_7 : w7.cell? ⟨w.heap.size, 1, none⟩ = some (.int .i64 e) := carry hb7 (by go_simp)
  have xz_7 : w.heap.size < w7.heap.size := by have := hb7.size; first | omega | (simp at this; omega)
  have y0_7 : w7.cell? ⟨w.heap.size + 1, 0, none⟩ = some (.int .i64 k) := carry hb7 (by go_simp)
  have y1_7 : w7.cell? ⟨w.heap.size + 1, 1, none⟩ = some (.int .i64 f) := carry hb7 (by go_simp)
  have yz_7 : w.heap.size + 1 < w7.heap.size := by have := hb7.size; first | omega | (simp at this; omega)
  have q0_7 : w7.cell? ⟨w6.heap.size, 0, none⟩ = some (.int .i64 nm) := carry hb7 (by go_simp)
  have q1_7 : w7.cell? ⟨w6.heap.size, 1, none⟩ = some (.int .i64 ne) := carry hb7 (by go_simp)
  have qz_7 : w6.heap.size < w7.heap.size := by have := hb7.size; first | omega | (simp at this; omega)
  have HB_7 := Lib.hid ((by repeat (first | exact HB_6.out | refine Below.drew ?_ | refine Below.setCell ?_ (by first | omega | (simp; done) | (simp; omega)) _ | refine Below.alloc ?_ (by first | omega | (simp; done) | (simp; omega)) _) : Below w.heap.size w _).trans (hb7.mono (by first | omega | (simp; done) | (simp; omega))))
  have nz_7 : w.heap.size ≤ w7.heap.size := HB_7.out.size
  clear hb7 x0_6 x1_6 y0_6 y1_6 HB_6
  go_wp2_with fail
  refine (HAb.out _).mono ?_
  rintro e w8 ⟨rfl, hb8⟩
  have x0_8 : w8.cell? ⟨w.heap.size, 0, none⟩ = some (.int .i64 m) := carry hb8 (by go_simp)
  have x1_8 : w8.cell? ⟨w.heap.size, 1, none⟩ = some (.int .i64 e) := carry hb8 (by go_simp)
  have xz_8 : w.heap.size < w8.heap.size := by have := hb8.size; first | omega | (simp at this; omega)
  have y0_8 : w8.cell? ⟨w.heap.size + 1, 0, none⟩ = some (.int .i64 k) := carry hb8 (by go_simp)
  have y1_8 : w8.cell? ⟨w.heap.size + 1, 1, none⟩ = some (.int .i64 f) := carry hb8 (by go_simp)
  have yz_8 : w.heap.size + 1 < w8.heap.size := by have := hb8.size; first | omega | (simp at this; omega)
  have q0_8 : w8.cell? ⟨w6.heap.size, 0, none⟩ = some (.int .i64 nm) := carry hb8 (by go_simp)
  have q1_8 : w8.cell? ⟨w6.heap.size, 1, none⟩ = some (.int .i64 ne) := carry hb8 (by go_simp)
  have qz_8 : w6.heap.size < w8.heap.size := by have := hb8.size; first | omega | (simp at this; omega)
  have g0_8 : w8.cell? ⟨w7.heap.size, 0, none⟩ = some (.int .i64 gm) := carry hb8 (by go_simp)
  have g1_8 : w8.cell? ⟨w7.heap.size, 1, none⟩ = some (.int .i64 e) := carry hb8 (by go_simp)
  have gz_8 : w7.heap.size < w8.heap.size := by have := hb8.size; first | omega | (simp at this; omega)
  have HB_8 := Lib.hid ((by repeat (first | exact HB_7.out | refine Below.drew ?_ | refine Below.setCell ?_ (by first | omega | (simp; done) | (simp; omega)) _ | refine Below.alloc ?_ (by first | omega | (simp; done) | (simp; omega)) _) : Below w.heap.size w _).trans (hb8.mono (by first | omega | (simp; done) | (simp; omega))))
  have nz_8 : w.heap.size ≤ w8.heap.size := HB_8.out.size
  clear hb8 x0_7 x1_7 y0_7 y1_7 q0_7 q1_7 HB_7
  go_wp2_with fail
  refine (HSg.out _).mono ?_
  rintro e w9 ⟨rfl, hb9⟩
  have x0_9 : w9.cell? ⟨w.heap.size, 0, none⟩ = some (.int .i64 m) := carry hb9 (by go_simp)
  have x1_9 : w9.cell? ⟨w.heap.size, 1, none⟩ = some (.int .i64 e) := carry hb9 (by go_simp)
  have xz_9 : w.heap.size < w9.heap.size := by have := hb9.size; first | omega | (simp at this; omega)
  have y0_9 : w9.cell? ⟨w.heap.size + 1, 0, none⟩ = some (.int .i64 k) := carry hb9 (by go_simp)
  have y1_9 : w9.cell? ⟨w.heap.size + 1, 1, none⟩ = some (.int .i64 f) := carry hb9 (by go_simp)
  have yz_9 : w.heap.size + 1 < w9.heap.size := by have := hb9.size; first | omega | (simp at this; omega)
  have q0_9 : w9.cell? ⟨w6.heap.size, 0, none⟩ = some (.int .i64 nm) := carry hb9 (by go_simp)
  have q1_9 : w9.cell? ⟨w6.heap.size, 1, none⟩ = some (.int .i64 ne) := carry hb9 (by go_simp)
  have qz_9 : w6.heap.size < w9.heap.size := by have := hb9.size; first | omega | (simp at this; omega)
  have g0_9 : w9.cell? ⟨w7.heap.size, 0, none⟩ = some (.int .i64 gm) := carry hb9 (by go_simp)
  have g1_9 : w9.cell? ⟨w7.heap.size, 1, none⟩ = some (.int .i64 e) := carry hb9 (by go_simp)
  have gz_9 : w7.heap.size < w9.heap.size := by have := hb9.size; first | omega | (simp at this; omega)
  have b0_9 : w9.cell? ⟨w8.heap.size, 0, none⟩ = some (.int .i64 gm) := carry hb9 (by go_simp)
  have b1_9 : w9.cell? ⟨w8.heap.size, 1, none⟩ = some (.int .i64 e) := carry hb9 (by go_simp)
  have bz_9 : w8.heap.size < w9.heap.size := by have := hb9.size; first | omega | (simp at this; omega)
  have HB_9 := Lib.hid ((by repeat (first | exact HB_8.out | refine Below.drew ?_ | refine Below.setCell ?_ (by first | omega | (simp; done) | (simp; omega)) _ | refine Below.alloc ?_ (by first | omega | (simp; done) | (simp; omega)) _) : Below w.heap.size w _).trans (hb9.mono (by first | omega | (simp; done) | (simp; omega))))
  have nz_9 : w.heap.size ≤ w9.heap.size := HB_9.out.size
  clear hb9 x0_8 x1_8 y0_8 y1_8 q0_8 q1_8 g0_8 g1_8 HB_8
  go_wp2_with fail
  refine (HCm.out _).mono ?_
  rintro e w10 ⟨rfl, hb10⟩
  have x0_10 : w10.cell? ⟨w.heap.size, 0, none⟩ = some (.int .i64 m) := carry hb10 (by go_simp)
  have x1_10 : w10.cell? ⟨w.heap.size, 1, none⟩ = some (.int .i64 e) := carry hb10 (by go_simp)
  have xz_10 : w.heap.size < w10.heap.size := by have := hb10.size; first | omega | (simp at this; omega)
  have y0_10 : w10.cell? ⟨w.heap.size + 1, 0, none⟩ = some (.int .i64 k) := carry hb10 (by go_simp)
  have y1_10 : w10.cell? ⟨w.heap.size + 1, 1, none⟩ = some (.int .i64 f) := carry hb10 (by go_simp)
  have yz_10 : w.heap.size + 1 < w10.heap.size := by have := hb10.size; first | omega | (simp at this; omega)
  have q0_10 : w10.cell? ⟨w6.heap.size, 0, none⟩ = some (.int .i64 nm) := carry hb10 (by go_simp)
  have q1_10 : w10.cell? ⟨w6.heap.size, 1, none⟩ = some (.int .i64 ne) := carry hb10 (by go_simp)
  have qz_10 : w6.heap.size < w10.heap.size := by have := hb10.size; first | omega | (simp at this; omega)
  have g0_10 : w10.cell? ⟨w7.heap.size, 0, none⟩ = some (.int .i64 gm) := carry hb10 (by go_simp)
  have g1_10 : w10.cell? ⟨w7.heap.size, 1, none⟩ = some (.int .i64 e) := carry hb10 (by go_simp)
  have gz_10 : w7.heap.size < w10.heap.size := by have := hb10.size; first | omega | (simp at this; omega)
  have b0_10 : w10.cell? ⟨w8.heap.size, 0, none⟩ = some (.int .i64 gm) := carry hb10 (by go_simp)
  have b1_10 : w10.cell? ⟨w8.heap.size, 1, none⟩ = some (.int .i64 e) := carry hb10 (by go_simp)
  have bz_10 : w8.heap.size < w10.heap.size := by have := hb10.size; first | omega | (simp at this; omega)
  have HB_10 := Lib.hid ((by repeat (first | exact HB_9.out | refine Below.drew ?_ | refine Below.setCell ?_ (by first | omega | (simp; done) | (simp; omega)) _ | refine Below.alloc ?_ (by first | omega | (simp; done) | (simp; omega)) _) : Below w.heap.size w _).trans (hb10.mono (by first | omega | (simp; done) | (simp; omega))))
  have nz_10 : w.heap.size ≤ w10.heap.size := HB_10.out.size
  clear hb10 x0_9 x1_9 y0_9 y1_9 q0_9 q1_9 g0_9 g1_9 b0_9 b1_9 HB_9
  go_wp2_with fail
  refine (HVx.out _).mono ?_
  rintro e w11 ⟨rfl, hb11⟩
  have x0_11 : w11.cell? ⟨w.heap.size, 0, none⟩ = some (.int .i64 m) := carry hb11 (by go_simp)
  have x1_11 : w11.cell? ⟨w.heap.size, 1, none⟩ = some (.int .i64 e) := carry hb11 (by go_simp)
  have xz_11 : w.heap.size < w11.heap.size := by have := hb11.size; first | omega | (simp at this; omega)
  have y0_11 : w11.cell? ⟨w.heap.size + 1, 0, none⟩ = some (.int .i64 k) := carry hb11 (by go_simp)
  have y1_11 : w11.cell? ⟨w.heap.size + 1, 1, none⟩ = some (.int .i64 f) := carry hb11 (by go_simp)
  have yz_11 : w.heap.size + 1 < w11.heap.size := by have := hb11.size; first | omega | (simp at this; omega)
  have q0_11 : w11.cell? ⟨w6.heap.size, 0, none⟩ = some (.int .i64 nm) := carry hb11 (by go_simp)
  have q1_11 : w11.cell? ⟨w6.heap.size, 1, none⟩ = some (.int .i64 ne) := carry hb11 (by go_simp)
  have qz_11 : w6.heap.size < w11.heap.size := by have := hb11.size; first | omega | (simp at this; omega)
  have g0_11 : w11.cell? ⟨w7.heap.size, 0, none⟩ = some (.int .i64 gm) := carry hb11 (by go_simp)
  have g1_11 : w11.cell? ⟨w7.heap.size, 1, none⟩ = some (.int .i64 e) := carry hb11 (by go_simp)
  have gz_11 : w7.heap.size < w11.heap.size := by have := hb11.size; first | omega | (simp at this; omega)
  have b0_11 : w11.cell? ⟨w8.heap.size, 0, none⟩ = some (.int .i64 gm) := carry hb11 (by go_simp)
  have b1_11 : w11.cell? ⟨w8.heap.size, 1, none⟩ = some (.int .i64 e) := carry hb11 (by go_simp)
  have bz_11 : w8.heap.size < w11.heap.size := by have := hb11.size; first | omega | (simp at this; omega)
  have HB_11 := Lib.hid ((by repeat (first | exact HB_10.out | refine Below.drew ?_ | refine Below.setCell ?_ (by first | omega | (simp; done) | (simp; omega)) _ | refine Below.alloc ?_ (by first | omega | (simp; done) | (simp; omega)) _) : Below w.heap.size w _).trans (hb11.mono (by first | omega | (simp; done) | (simp; omega))))
  have nz_11 : w.heap.size ≤ w11.heap.size := HB_11.out.size
  clear hb11 x0_10 x1_10 y0_10 y1_10 q0_10 q1_10 g0_10 g1_10 b0_10 b1_10 HB_10
  go_wp2_with fail
  refine (HVy.out _).mono ?_
  rintro e w12 ⟨rfl, hb12⟩
  have x0_12 : w12.cell? ⟨w.heap.size, 0, none⟩ = some (.int .i64 m) := carry hb12 (by go_simp)
  have x1_12 : w12.cell? ⟨w.heap.size, 1, none⟩ = some (.int .i64 e) := carry hb12 (by go_simp)
  have xz_12 : w.heap.size < w12.heap.size := by have := hb12.size; first | omega | (simp at this; omega)
  have y0_12 : w12.cell? ⟨w.heap.size + 1, 0, none⟩ = some (.int .i64 k) := carry hb12 (by go_simp)
  have y1_12 : w12.cell? ⟨w.heap.size + 1, 1, none⟩ = some (.int .i64 f) := carry hb12 (by go_simp)
  have yz_12 : w.heap.size + 1 < w12.heap.size := by have := hb12.size; first | omega | (simp at this; omega)
  have q0_12 : w12.cell? ⟨w6.heap.size, 0, none⟩ = some (.int .i64 nm) := carry hb12 (by go_simp)
  have q1_12 : w12.cell? ⟨w6.heap.size, 1, none⟩ = some (.int .i64 ne) := carry hb12 (by go_simp)
  have qz_12 : w6.heap.size < w12.heap.size := by have := hb12.size; first | omega | (simp at this; omega)
  have g0_12 : w12.cell? ⟨w7.heap.size, 0, none⟩ = some (.int .i64 gm) := carry hb12 (by go_simp)
  have g1_12 : w12.cell? ⟨w7.heap.size, 1, none⟩ = some (.int .i64 e) := carry hb12 (by go_simp)
  have gz_12 : w7.heap.size < w12.heap.size := by have := hb12.size; first | omega | (simp at this; omega)
  have b0_12 : w12.cell? ⟨w8.heap.size, 0, none⟩ = some (.int .i64 gm) := carry hb12 (by go_simp)
  have b1_12 : w12.cell? ⟨w8.heap.size, 1, none⟩ = some (.int .i64 e) := carry hb12 (by go_simp)
  have bz_12 : w8.heap.size < w12.heap.size := by have := hb12.size; first | omega | (simp at this; omega)
  have HB_12 := Lib.hid ((by repeat (first | exact HB_11.out | refine Below.drew ?_ | refine Below.setCell ?_ (by first | omega | (simp; done) | (simp; omega)) _ | refine Below.alloc ?_ (by first | omega | (simp; done) | (simp; omega)) _) : Below w.heap.size w _).trans (hb12.mono (by first | omega | (simp; done) | (simp; omega))))
  have nz_12 : w.heap.size ≤ w12.heap.size := HB_12.out.size
  clear hb12 x0_11 x1_11 y0_11 y1_11 q0_11 q1_11 g0_11 g1_11 b0_11 b1_11 HB_11
  go_wp2_with fail
  refine (HVy.out _).mono ?_
  rintro e w13 ⟨rfl, hb13⟩
  have x0_13 : w13.cell? ⟨w.heap.size, 0, none⟩ = some (.int .i64 m) := carry hb13 (by go_simp)
  have x1_13 : w13.cell? ⟨w.heap.size, 1, none⟩ = some (.int .i64 e) := carry hb13 (by go_simp)
  have xz_13 : w.heap.size < w13.heap.size := by have := hb13.size; first | omega | (simp at this; omega)
  have y0_13 : w13.cell? ⟨w.heap.size + 1, 0, none⟩ = some (.int .i64 k) := carry hb13 (by go_simp)
  have y1_13 : w13.cell? ⟨w.heap.size + 1, 1, none⟩ = some (.int .i64 f) := carry hb13 (by go_simp)
  have yz_13 : w.heap.size + 1 < w13.heap.size := by have := hb13.size; first | omega | (simp at this; omega)
  have q0_13 : w13.cell? ⟨w6.heap.size, 0, none⟩ = some (.int .i64 nm) := carry hb13 (by go_simp)
  have q1_13 : w13.cell? ⟨w6.heap.size, 1, none⟩ = some (.int .i64 ne) := carry hb13 (by go_simp)
  have qz_13 : w6.heap.size < w13.heap.size := by have := hb13.size; first | omega | (simp at this; omega)
  have g0_13 : w13.cell? ⟨w7.heap.size, 0, none⟩ = some (.int .i64 gm) := carry hb13 (by go_simp)
  have g1_13 : w13.cell? ⟨w7.heap.size, 1, none⟩ = some (.int .i64 e) := carry hb13 (by go_simp)
  have gz_13 : w7.heap.size < w13.heap.size := by have := hb13.size; first | omega | (simp at this; omega)
  have b0_13 : w13.cell? ⟨w8.heap.size, 0, none⟩ = some (.int .i64 gm) := carry hb13 (by go_simp)
  have b1_13 : w13.cell? ⟨w8.heap.size, 1, none⟩ = some (.int .i64 e) := carry hb13 (by go_simp)
  have bz_13 : w8.heap.size < w13.heap.size := by have := hb13.size; first | omega | (simp at this; omega)
  have HB_13 := Lib.hid ((by repeat (first | exact HB_12.out | refine Below.drew ?_ | refine Below.setCell ?_ (by first | omega | (simp; done) | (simp; omega)) _ | refine Below.alloc ?_ (by first | omega | (simp; done) | (simp; omega)) _) : Below w.heap.size w _).trans (hb13.mono (by first | omega | (simp; done) | (simp; omega))))
  have nz_13 : w.heap.size ≤ w13.heap.size := HB_13.out.size
  clear hb13 x0_12 x1_12 y0_12 y1_12 q0_12 q1_12 g0_12 g1_12 b0_12 b1_12 HB_12
  go_wp2_with fail
  refine (HRN.out _).mono ?_
  rintro e w14 ⟨rfl, hb14⟩
  have x0_14 : w14.cell? ⟨w.heap.size, 0, none⟩ = some (.int .i64 m) := carry hb14 (by go_simp)
  have x1_14 : w14.cell? ⟨w.heap.size, 1, none⟩ = some (.int .i64 e) := carry hb14 (by go_simp)
  have xz_14 : w.heap.size < w14.heap.size := by have := hb14.size; first | omega | (simp at this; omega)
  have q0_14 : w14.cell? ⟨w6.heap.size, 0, none⟩ = some (.int .i64 nm) := carry hb14 (by go_simp)
  have q1_14 : w14.cell? ⟨w6.heap.size, 1, none⟩ = some (.int .i64 ne) := carry hb14 (by go_simp)
  have qz_14 : w6.heap.size < w14.heap.size := by have := hb14.size; first | omega | (simp at this; omega)
  have g0_14 : w14.cell? ⟨w7.heap.size, 0, none⟩ = some (.int .i64 gm) := carry hb14 (by go_simp)
  have g1_14 : w14.cell? ⟨w7.heap.size, 1, none⟩ = some (.int .i64 e) := carry hb14 (by go_simp)
  have gz_14 : w7.heap.size < w14.heap.size := by have := hb14.size; first | omega | (simp at this; omega)
  have b0_14 : w14.cell? ⟨w8.heap.size, 0, none⟩ = some (.int .i64 gm) := carry hb14 (by go_simp)
  have b1_14 : w14.cell? ⟨w8.heap.size, 1, none⟩ = some (.int .i64 e) := carry hb14 (by go_simp)
  have bz_14 : w8.heap.size < w14.heap.size := by have := hb14.size; first | omega | (simp at this; omega)
  have t0_14 : w14.cell? ⟨w13.heap.size, 0, none⟩ = some (.int .i64 m) := carry hb14 (by go_simp)
  have tf0_14 : w14.frozen? ⟨w13.heap.size, 0, none⟩ = false := carryF hb14 (v := .int .i64 m) (by go_simp) (by go_simp)
  have t1_14 : w14.cell? ⟨w13.heap.size, 1, none⟩ = some (.int .i64 e) := carry hb14 (by go_simp)
  have tf1_14 : w14.frozen? ⟨w13.heap.size, 1, none⟩ = false := carryF hb14 (v := .int .i64 e) (by go_simp) (by go_simp)
  have tz_14 : w13.heap.size < w14.heap.size := by have := hb14.size; first | omega | (simp at this; omega)
  have HB_14 := Lib.hid ((by repeat (first | exact HB_13.out | refine Below.drew ?_ | refine Below.setCell ?_ (by first | omega | (simp; done) | (simp; omega)) _ | refine Below.alloc ?_ (by first | omega | (simp; done) | (simp; omega)) _) : Below w.heap.size w _).trans (hb14.mono (by first | omega | (simp; done) | (simp; omega))))
  have nz_14 : w.heap.size ≤ w14.heap.size := HB_14.out.size
  clear hb14 x0_13 x1_13 y0_13 y1_13 q0_13 q1_13 g0_13 g1_13 b0_13 b1_13 HB_13
  go_wp2_with fail
  generalize hW : (w14.setCell _ _).setCell _ _ = w15
  have x0_15 : w15.cell? ⟨w.heap.size, 0, none⟩ = some (.int .i64 m) := by rw [← hW]; clear hW; go_simp
  have x1_15 : w15.cell? ⟨w.heap.size, 1, none⟩ = some (.int .i64 e) := by rw [← hW]; clear hW; go_simp
  have xz_15 : w.heap.size < w15.heap.size := by rw [← hW]; clear hW; simp <;> omega
  have q0_15 : w15.cell? ⟨w6.heap.size, 0, none⟩ = some (.int .i64 nm) := by rw [← hW]; clear hW; go_simp
  have q1_15 : w15.cell? ⟨w6.heap.size, 1, none⟩ = some (.int .i64 ne) := by rw [← hW]; clear hW; go_simp
  have qz_15 : w6.heap.size < w15.heap.size := by rw [← hW]; clear hW; simp <;> omega
  have g0_15 : w15.cell? ⟨w7.heap.size, 0, none⟩ = some (.int .i64 gm) := by rw [← hW]; clear hW; go_simp
  have g1_15 : w15.cell? ⟨w7.heap.size, 1, none⟩ = some (.int .i64 e) := by rw [← hW]; clear hW; go_simp
  have gz_15 : w7.heap.size < w15.heap.size := by rw [← hW]; clear hW; simp <;> omega
  have b0_15 : w15.cell? ⟨w8.heap.size, 0, none⟩ = some (.int .i64 gm) := by rw [← hW]; clear hW; go_simp
  have b1_15 : w15.cell? ⟨w8.heap.size, 1, none⟩ = some (.int .i64 e) := by rw [← hW]; clear hW; go_simp
  have bz_15 : w8.heap.size < w15.heap.size := by rw [← hW]; clear hW; simp <;> omega
  have t0_15 : w15.cell? ⟨w13.heap.size, 0, none⟩ = some (.int .i64 gm) := by rw [← hW]; clear hW; go_simp
  have t1_15 : w15.cell? ⟨w13.heap.size, 1, none⟩ = some (.int .i64 e) := by rw [← hW]; clear hW; go_simp
  have tz_15 : w13.heap.size < w15.heap.size := by rw [← hW]; clear hW; simp <;> omega
  have HB_15 := Lib.hid ((by rw [← hW]; clear hW; repeat (first | exact HB_14.out | refine Below.drew ?_ | refine Below.setCell ?_ (by first | omega | (simp; done) | (simp; omega)) _ | refine Below.alloc ?_ (by first | omega | (simp; done) | (simp; omega)) _)) : Below w.heap.size w w15)
  clear hW HB_14 x0_14 x1_14 q0_14 q1_14 g0_14 g1_14 b0_14 b1_14 t0_14 tf0_14 t1_14 tf1_14
  have nz_15 : w.heap.size ≤ w15.heap.size := HB_15.out.size
  have K0 := Lib.hid (Below.refl w15.heap.size w15)
  have SK := Lib.hid (show ∀ wx, Below w15.heap.size w15 wx → wx.cell? ⟨w.heap.size, 0, none⟩ = some (.int .i64 m) ∧ wx.cell? ⟨w.heap.size, 1, none⟩ = some (.int .i64 e) ∧ w.heap.size < wx.heap.size ∧ wx.cell? ⟨w6.heap.size, 0, none⟩ = some (.int .i64 nm) ∧ wx.cell? ⟨w6.heap.size, 1, none⟩ = some (.int .i64 ne) ∧ w6.heap.size < wx.heap.size ∧ wx.cell? ⟨w7.heap.size, 0, none⟩ = some (.int .i64 gm) ∧ wx.cell? ⟨w7.heap.size, 1, none⟩ = some (.int .i64 e) ∧ w7.heap.size < wx.heap.size ∧ wx.cell? ⟨w8.heap.size, 0, none⟩ = some (.int .i64 gm) ∧ wx.cell? ⟨w8.heap.size, 1, none⟩ = some (.int .i64 e) ∧ w8.heap.size < wx.heap.size ∧ wx.cell? ⟨w13.heap.size, 0, none⟩ = some (.int .i64 gm) ∧ wx.cell? ⟨w13.heap.size, 1, none⟩ = some (.int .i64 e) ∧ w13.heap.size < wx.heap.size ∧ Below w15.heap.size w15 wx from fun wx h => ⟨carry h x0_15, carry h x1_15, Nat.lt_of_lt_of_le xz_15 h.size, carry h q0_15, carry h q1_15, Nat.lt_of_lt_of_le qz_15 h.size, carry h g0_15, carry h g1_15, Nat.lt_of_lt_of_le gz_15 h.size, carry h b0_15, carry h b1_15, Nat.lt_of_lt_of_le bz_15 h.size, carry h t0_15, carry h t1_15, Nat.lt_of_lt_of_le tz_15 h.size, h⟩)
  go_wp2_with fail
  go_region_held3 (fun wx => wx.cell? ⟨w.heap.size, 0, none⟩ = some (.int .i64 m) ∧ wx.cell? ⟨w.heap.size, 1, none⟩ = some (.int .i64 e) ∧ w.heap.size < wx.heap.size ∧ wx.cell? ⟨w6.heap.size, 0, none⟩ = some (.int .i64 nm) ∧ wx.cell? ⟨w6.heap.size, 1, none⟩ = some (.int .i64 ne) ∧ w6.heap.size < wx.heap.size ∧ wx.cell? ⟨w7.heap.size, 0, none⟩ = some (.int .i64 gm) ∧ wx.cell? ⟨w7.heap.size, 1, none⟩ = some (.int .i64 e) ∧ w7.heap.size < wx.heap.size ∧ wx.cell? ⟨w8.heap.size, 0, none⟩ = some (.int .i64 gm) ∧ wx.cell? ⟨w8.heap.size, 1, none⟩ = some (.int .i64 e) ∧ w8.heap.size < wx.heap.size ∧ wx.cell? ⟨w13.heap.size, 0, none⟩ = some (.int .i64 gm) ∧ wx.cell? ⟨w13.heap.size, 1, none⟩ = some (.int .i64 e) ∧ w13.heap.size < wx.heap.size ∧ Below w15.heap.size w15 wx) (first | (go_keep; done) | exact SK.out _ (by first | with_reducible assumption | with_reducible exact K0.out | with_reducible exact K0.out.drew | with_reducible exact Below.drew (by with_reducible assumption)))
    (first
      | (go_at_call 23; ((with_reducible refine (HRI.out _).mono ?_); rintro r wq ⟨rfl, hbq⟩; have qb : Below w15.heap.size w15 wq := Below.trans (by first | with_reducible assumption | with_reducible exact K0.out | with_reducible exact K0.out.drew | with_reducible exact Below.drew (by with_reducible assumption)) (hbq.mono (Below.size (by first | with_reducible assumption | with_reducible exact K0.out | with_reducible exact K0.out.drew | with_reducible exact Below.drew (by with_reducible assumption))))))
      | (go_at_call 22; ((with_reducible refine (HRN.out _).mono ?_); rintro r wq ⟨rfl, hbq⟩; have qb : Below w15.heap.size w15 wq := Below.trans (by first | with_reducible assumption | with_reducible exact K0.out | with_reducible exact K0.out.drew | with_reducible exact Below.drew (by with_reducible assumption)) (hbq.mono (Below.size (by first | with_reducible assumption | with_reducible exact K0.out | with_reducible exact K0.out.drew | with_reducible exact Below.drew (by with_reducible assumption))))))
      | (go_at_call 8; ((with_reducible refine (HY.out _ _ _).mono ?_); rintro r wq ⟨rfl, hbq⟩; have qb : Below w15.heap.size w15 wq := Below.trans (by first | with_reducible assumption | with_reducible exact K0.out | with_reducible exact K0.out.drew | with_reducible exact Below.drew (by with_reducible assumption)) (hbq.mono (Below.size (by first | with_reducible assumption | with_reducible exact K0.out | with_reducible exact K0.out.drew | with_reducible exact Below.drew (by with_reducible assumption))))))
      | (go_at_call 24; ((with_reducible refine (HRC.out _).mono ?_); rintro r wq ⟨rfl, hbq⟩; have qb : Below w15.heap.size w15 wq := Below.trans (by first | with_reducible assumption | with_reducible exact K0.out | with_reducible exact K0.out.drew | with_reducible exact Below.drew (by with_reducible assumption)) (hbq.mono (Below.size (by first | with_reducible assumption | with_reducible exact K0.out | with_reducible exact K0.out.drew | with_reducible exact Below.drew (by with_reducible assumption)))))))
  rename _ ∧ _ ∧ _ ∧ _ ∧ _ ∧ _ ∧ _ ∧ _ ∧ _ ∧ _ ∧ _ ∧ _ ∧ _ ∧ _ ∧ _ ∧ Below w15.heap.size w15 _ => hS
  obtain ⟨w16, rfl⟩ : ∃ x, x = wq := ⟨_, rfl⟩
  obtain ⟨x0_16, x1_16, xz_16, q0_16, q1_16, qz_16, g0_16, g1_16, gz_16, b0_16, b1_16, bz_16, t0_16, t1_16, tz_16, xb⟩ := hS
  have HB_16 := Lib.hid (HB_15.out.trans (xb.mono HB_15.out.size))
  clear xb HB_15 K0 SK x0_15 x1_15 q0_15 q1_15 g0_15 g1_15 b0_15 b1_15 t0_15 t1_15
  have nz_16 : w.heap.size ≤ w16.heap.size := HB_16.out.size
  have K0 := Lib.hid (Below.refl w16.heap.size w16)
  have SK := Lib.hid (show ∀ wx, Below w16.heap.size w16 wx → wx.cell? ⟨w6.heap.size, 0, none⟩ = some (.int .i64 nm) ∧ wx.cell? ⟨w6.heap.size, 1, none⟩ = some (.int .i64 ne) ∧ w6.heap.size < wx.heap.size from fun wx h => ⟨carry h q0_16, carry h q1_16, Nat.lt_of_lt_of_le qz_16 h.size⟩)
  go_wp2_with fail
  go_region_held3 (fun wx => wx.cell? ⟨w6.heap.size, 0, none⟩ = some (.int .i64 nm) ∧ wx.cell? ⟨w6.heap.size, 1, none⟩ = some (.int .i64 ne) ∧ w6.heap.size < wx.heap.size) (first | (go_keep; done) | exact SK.out _ (by first | with_reducible assumption | with_reducible exact K0.out | with_reducible exact K0.out.drew | with_reducible exact Below.drew (by with_reducible assumption)))
    (first
      | (go_at_call 20; ((with_reducible refine (HSan.out _ (HB_16.out.trans (Below.mono (by first | with_reducible assumption | with_reducible exact K0.out | with_reducible exact K0.out.drew | with_reducible exact Below.drew (by with_reducible assumption)) nz_16))).mono ?_); rintro r wq ⟨rfl, hbq⟩; have qb : Below w16.heap.size w16 wq := Below.trans (by first | with_reducible assumption | with_reducible exact K0.out | with_reducible exact K0.out.drew | with_reducible exact Below.drew (by with_reducible assumption)) (hbq.mono (Below.size (by first | with_reducible assumption | with_reducible exact K0.out | with_reducible exact K0.out.drew | with_reducible exact Below.drew (by with_reducible assumption))))))
      | (go_at_call 9; ((with_reducible refine (HRA.out _).mono ?_); rintro r wq ⟨rfl, hbq⟩; have qb : Below w16.heap.size w16 wq := Below.trans (by first | with_reducible assumption | with_reducible exact K0.out | with_reducible exact K0.out.drew | with_reducible exact Below.drew (by with_reducible assumption)) (hbq.mono (Below.size (by first | with_reducible assumption | with_reducible exact K0.out | with_reducible exact K0.out.drew | with_reducible exact Below.drew (by with_reducible assumption))))))
      | (go_at_call 8; ((with_reducible refine (HY.out _ _ _).mono ?_); rintro r wq ⟨rfl, hbq⟩; have qb : Below w16.heap.size w16 wq := Below.trans (by first | with_reducible assumption | with_reducible exact K0.out | with_reducible exact K0.out.drew | with_reducible exact Below.drew (by with_reducible assumption)) (hbq.mono (Below.size (by first | with_reducible assumption | with_reducible exact K0.out | with_reducible exact K0.out.drew | with_reducible exact Below.drew (by with_reducible assumption)))))))
  go_wp2_with fail
  go_ret
  exact ⟨rfl, HB_16.out.trans (qb.mono nz_16)⟩

set_option maxRecDepth 100000 in
set_option maxHeartbeats 8000000 in
theorem topB (m e k f i0 n0 am ae ax fm fe i nm ne gm s c : Int) (w : World) (HAt : Hid (∀ W : World, Calls Tryz.prog 7 #[.int .i64 i0] W fun r w' => r = .returned (rE am ae ax) ∧ Below W.heap.size W w')) (HF : Hid (-2533359615 ≤ i0 ∧ i0 ≤ 2533359615 → ax = 0 ∧ ∀ W : World, Calls Tryz.prog 9 #[.int .i64 i0] W fun r w' => r = .returned (realV am ae) ∧ Below W.heap.size W w')) (HG : Hid (¬ (-2533359615 ≤ i0 ∧ i0 ≤ 2533359615) → ax = 1 ∧ am = 0 ∧ ae = 0)) (HY : Hid (∀ (a b : Int) (W : World), Calls Tryz.prog 8 #[realV a b, .int .i64 0, realV a b] W fun r w' => r = .returned (.bool true) ∧ Below W.heap.size W w')) (HFI : Hid (∀ W : World, Calls Tryz.prog 10 #[.int .i64 n0] W fun r w' => r = .returned (realV fm fe) ∧ Below W.heap.size W w')) (HRF : Hid (∀ W : World, Calls Tryz.prog 11 #[.int .i64 n0] W fun r w' => r = .returned (realV fm fe) ∧ Below W.heap.size W w')) (HV : Hid (∀ W : World, Calls Tryz.prog 12 #[realV m e] W fun r w' => r = .returned (.bool true) ∧ Below W.heap.size W w')) (HVx : Hid (∀ W : World, Calls Tryz.prog 13 #[realV m e] W fun r w' => r = .returned (.bool true) ∧ Below W.heap.size W w')) (HVy : Hid (∀ W : World, Calls Tryz.prog 13 #[realV k f] W fun r w' => r = .returned (.bool false) ∧ Below W.heap.size W w')) (HIx : Hid (∀ W : World, Calls Tryz.prog 14 #[realV m e] W fun r w' => r = .returned (iE i 0) ∧ Below W.heap.size W w')) (HNx : Hid (∀ W : World, Calls Tryz.prog 15 #[realV m e] W fun r w' => r = .returned (rE 0 0 3) ∧ Below W.heap.size W w')) (HNg : Hid (∀ W : World, Calls Tryz.prog 16 #[realV m e] W fun r w' => r = .returned (rE gm e 0) ∧ Below W.heap.size W w')) (HAb : Hid (∀ W : World, Calls Tryz.prog 17 #[realV m e] W fun r w' => r = .returned (rE m e 0) ∧ Below W.heap.size W w')) (HSg : Hid (∀ W : World, Calls Tryz.prog 18 #[realV m e] W fun r w' => r = .returned (iE s 0) ∧ Below W.heap.size W w')) (HCm : Hid (∀ W : World, Calls Tryz.prog 19 #[realV m e, realV k f] W fun r w' => r = .returned (iE 0 1) ∧ Below W.heap.size W w')) (HSan : Hid (∀ W, Below w.heap.size w W → Calls Tryz.prog 20 #[] W fun r W' => r = .returned (.bool true) ∧ Below W.heap.size W W')) (HRI : Hid (∀ W : World, Calls Tryz.prog 23 #[realV m e] W fun r w' => r = .returned (.int .i64 i) ∧ Below W.heap.size W w')) (HRN : Hid (∀ W : World, Calls Tryz.prog 22 #[realV m e] W fun r w' => r = .returned (realV gm e) ∧ Below W.heap.size W w')) (HRC : Hid (∀ W : World, Calls Tryz.prog 24 #[.int .i64 m, .int .i64 0] W fun r w' => r = .returned (.int .i64 s) ∧ Below W.heap.size W w')) (hm : ¬ m < 0) (hi : i = 2533359615)  :
    Calls Tryz.prog 3 #[realV m e, realV k f, .int .i64 i0, .int .i64 n0] w fun r w' => r = .returned (.bool true) ∧ Below w.heap.size w w' := by
  subst hi
  obtain ⟨tt, htt⟩ : ∃ tt : Bool, tt = decide (-2533359615 ≤ i0 ∧ i0 ≤ 2533359615) := ⟨_, rfl⟩
  have HT := Lib.hid htt
  clear htt
  go_enter Tryz.func3, Tryz.ntmps3
  go_wp2_with fail
  refine (HAt.out _).mono ?_
  rintro e w1 ⟨rfl, hb1⟩
  have x0_1 : w1.cell? ⟨w.heap.size, 0, none⟩ = some (.int .i64 m) := carry hb1 (by go_simp)
  have x1_1 : w1.cell? ⟨w.heap.size, 1, none⟩ = some (.int .i64 e) := carry hb1 (by go_simp)
  have xz_1 : w.heap.size < w1.heap.size := by have := hb1.size; first | omega | (simp at this; omega)
  have y0_1 : w1.cell? ⟨w.heap.size + 1, 0, none⟩ = some (.int .i64 k) := carry hb1 (by go_simp)
  have y1_1 : w1.cell? ⟨w.heap.size + 1, 1, none⟩ = some (.int .i64 f) := carry hb1 (by go_simp)
  have yz_1 : w.heap.size + 1 < w1.heap.size := by have := hb1.size; first | omega | (simp at this; omega)
  have HB_1 := Lib.hid ((by repeat (first | exact Below.refl _ _ | refine Below.drew ?_ | refine Below.setCell ?_ (by first | omega | (simp; done) | (simp; omega)) _ | refine Below.alloc ?_ (by first | omega | (simp; done) | (simp; omega)) _) : Below w.heap.size w _).trans (hb1.mono (by first | omega | (simp; done) | (simp; omega))))
  have nz_1 : w.heap.size ≤ w1.heap.size := HB_1.out.size
  clear hb1
  go_upto_region 2 with fail
  generalize hW : w1.alloc _ = w2
  have x0_2 : w2.cell? ⟨w.heap.size, 0, none⟩ = some (.int .i64 m) := by rw [← hW]; clear hW; go_simp
  have x1_2 : w2.cell? ⟨w.heap.size, 1, none⟩ = some (.int .i64 e) := by rw [← hW]; clear hW; go_simp
  have xz_2 : w.heap.size < w2.heap.size := by rw [← hW]; clear hW; simp <;> omega
  have y0_2 : w2.cell? ⟨w.heap.size + 1, 0, none⟩ = some (.int .i64 k) := by rw [← hW]; clear hW; go_simp
  have y1_2 : w2.cell? ⟨w.heap.size + 1, 1, none⟩ = some (.int .i64 f) := by rw [← hW]; clear hW; go_simp
  have yz_2 : w.heap.size + 1 < w2.heap.size := by rw [← hW]; clear hW; simp <;> omega
  have a0_2 : w2.cell? ⟨w1.heap.size, 0, none⟩ = some (.int .i64 am) := by rw [← hW]; clear hW; go_simp
  have a1_2 : w2.cell? ⟨w1.heap.size, 1, none⟩ = some (.int .i64 ae) := by rw [← hW]; clear hW; go_simp
  have az_2 : w1.heap.size < w2.heap.size := by rw [← hW]; clear hW; simp <;> omega
  have HB_2 := Lib.hid (show Below w.heap.size w w2 by rw [← hW]; exact Below.alloc HB_1.out (by have := HB_1.out.size; omega) _)
  clear hW HB_1 x0_1 x1_1 y0_1 y1_1
  have nz_2 : w.heap.size ≤ w2.heap.size := HB_2.out.size
  go_cut [33] from 28 to 33 (fun s wx => s = .bool tt ∧ w2 = wx)
  case first =>
    by_cases h1 : -2533359615 ≤ i0
    · by_cases h2 : i0 ≤ 2533359615
      · go_wp2_with fail
        go_meet
        case rel => exact ⟨by rw [HT.out]; simp [h1, h2], rfl⟩
      · have h3 : decide (i0 ≤ 2533359615) = false := by simpa using h2
        go_wp2_with fail
        go_meet
        case rel => exact ⟨by rw [HT.out]; simp [h2], rfl⟩
    · have h3 : decide (-2533359615 ≤ i0) = false := by simpa using h1
      have h4 : decide (-2533359615 ≤ i0 ∧ i0 ≤ 2533359615) = false := decide_eq_false (fun h => h1 h.1)
      go_wp2_with fail
      go_meet
      case rel => exact ⟨by rw [HT.out, h4], rfl⟩
  case rest =>
  obtain ⟨rfl, rfl⟩ := hcut
  go_upto_if 33 with fail
  go_cut [9, 10] from 34 to 46 (fun p q wx => wx.cell? ⟨w.heap.size, 0, none⟩ = some (.int .i64 m) ∧ wx.cell? ⟨w.heap.size, 1, none⟩ = some (.int .i64 e) ∧ w.heap.size < wx.heap.size ∧ wx.cell? ⟨w.heap.size + 1, 0, none⟩ = some (.int .i64 k) ∧ wx.cell? ⟨w.heap.size + 1, 1, none⟩ = some (.int .i64 f) ∧ w.heap.size + 1 < wx.heap.size ∧ Below w.heap.size w wx)
  case first =>
    cases tt
    · obtain ⟨rfl, rfl, rfl⟩ := HG.out (of_decide_eq_false HT.out.symm)
      go_wp2_with fail
      go_meet
      case rel => exact ⟨x0_2, x1_2, xz_2, y0_2, y1_2, yz_2, HB_2.out⟩
    · obtain ⟨rfl, HRAt⟩ := HF.out (of_decide_eq_true HT.out.symm)
      have K0 := Lib.hid (Below.refl w2.heap.size w2)
      have SK := Lib.hid (show ∀ wx, Below w2.heap.size w2 wx → wx.cell? ⟨w.heap.size, 0, none⟩ = some (.int .i64 m) ∧ wx.cell? ⟨w.heap.size, 1, none⟩ = some (.int .i64 e) ∧ w.heap.size < wx.heap.size ∧ wx.cell? ⟨w.heap.size + 1, 0, none⟩ = some (.int .i64 k) ∧ wx.cell? ⟨w.heap.size + 1, 1, none⟩ = some (.int .i64 f) ∧ w.heap.size + 1 < wx.heap.size ∧ wx.cell? ⟨w1.heap.size, 0, none⟩ = some (.int .i64 am) ∧ wx.cell? ⟨w1.heap.size, 1, none⟩ = some (.int .i64 ae) ∧ w1.heap.size < wx.heap.size ∧ Below w2.heap.size w2 wx from fun wx h => ⟨carry h x0_2, carry h x1_2, Nat.lt_of_lt_of_le xz_2 h.size, carry h y0_2, carry h y1_2, Nat.lt_of_lt_of_le yz_2 h.size, carry h a0_2, carry h a1_2, Nat.lt_of_lt_of_le az_2 h.size, h⟩)
      go_wp2_with fail
      go_region_held3 (fun wx => wx.cell? ⟨w.heap.size, 0, none⟩ = some (.int .i64 m) ∧ wx.cell? ⟨w.heap.size, 1, none⟩ = some (.int .i64 e) ∧ w.heap.size < wx.heap.size ∧ wx.cell? ⟨w.heap.size + 1, 0, none⟩ = some (.int .i64 k) ∧ wx.cell? ⟨w.heap.size + 1, 1, none⟩ = some (.int .i64 f) ∧ w.heap.size + 1 < wx.heap.size ∧ wx.cell? ⟨w1.heap.size, 0, none⟩ = some (.int .i64 am) ∧ wx.cell? ⟨w1.heap.size, 1, none⟩ = some (.int .i64 ae) ∧ w1.heap.size < wx.heap.size ∧ Below w2.heap.size w2 wx) (first | (go_keep; done) | exact SK.out _ (by first | with_reducible assumption | with_reducible exact K0.out | with_reducible exact K0.out.drew | with_reducible exact Below.drew (by with_reducible assumption)))
        (first
          | (go_at_call 9; ((with_reducible refine (HRAt _).mono ?_); rintro r wq ⟨rfl, hbq⟩; have qb : Below w2.heap.size w2 wq := Below.trans (by first | with_reducible assumption | with_reducible exact K0.out | with_reducible exact K0.out.drew | with_reducible exact Below.drew (by with_reducible assumption)) (hbq.mono (Below.size (by first | with_reducible assumption | with_reducible exact K0.out | with_reducible exact K0.out.drew | with_reducible exact Below.drew (by with_reducible assumption))))))
          | (go_at_call 8; ((with_reducible refine (HY.out _ _ _).mono ?_); rintro r wq ⟨rfl, hbq⟩; have qb : Below w2.heap.size w2 wq := Below.trans (by first | with_reducible assumption | with_reducible exact K0.out | with_reducible exact K0.out.drew | with_reducible exact Below.drew (by with_reducible assumption)) (hbq.mono (Below.size (by first | with_reducible assumption | with_reducible exact K0.out | with_reducible exact K0.out.drew | with_reducible exact Below.drew (by with_reducible assumption)))))))
      rename _ ∧ _ ∧ _ ∧ _ ∧ _ ∧ _ ∧ _ ∧ _ ∧ _ ∧ Below w2.heap.size w2 _ => hS
      obtain ⟨w3, rfl⟩ : ∃ x, x = wq := ⟨_, rfl⟩
      obtain ⟨x0_3, x1_3, xz_3, y0_3, y1_3, yz_3, a0_3, a1_3, az_3, xb⟩ := hS
      have HB_3 := Lib.hid (HB_2.out.trans (xb.mono HB_2.out.size))
      clear xb HB_2 K0 SK x0_2 x1_2 y0_2 y1_2 a0_2 a1_2
      have nz_3 : w.heap.size ≤ w3.heap.size := HB_3.out.size
      go_wp2_with fail
      go_meet
      case rel => exact ⟨x0_3, x1_3, xz_3, y0_3, y1_3, yz_3, HB_3.out⟩
  case rest =>
  clear HB_2 x0_2 x1_2 y0_2 y1_2 a0_2 a1_2 az_2 xz_2 yz_2
  obtain ⟨w3, rfl⟩ : ∃ x, x = wc := ⟨_, rfl⟩
  obtain ⟨x0_3, x1_3, xz_3, y0_3, y1_3, yz_3, hb9⟩ := hcut
  have HB_3 := Lib.hid hb9
  clear hb9
  have nz_3 : w.heap.size ≤ w3.heap.size := HB_3.out.size
  have K0 := Lib.hid (Below.refl w3.heap.size w3)
  have SK := Lib.hid (show ∀ wx, Below w3.heap.size w3 wx → wx.cell? ⟨w.heap.size, 0, none⟩ = some (.int .i64 m) ∧ wx.cell? ⟨w.heap.size, 1, none⟩ = some (.int .i64 e) ∧ w.heap.size < wx.heap.size ∧ wx.cell? ⟨w.heap.size + 1, 0, none⟩ = some (.int .i64 k) ∧ wx.cell? ⟨w.heap.size + 1, 1, none⟩ = some (.int .i64 f) ∧ w.heap.size + 1 < wx.heap.size ∧ Below w3.heap.size w3 wx from fun wx h => ⟨carry h x0_3, carry h x1_3, Nat.lt_of_lt_of_le xz_3 h.size, carry h y0_3, carry h y1_3, Nat.lt_of_lt_of_le yz_3 h.size, h⟩)
  go_wp2_with fail
  go_region_held3 (fun wx => wx.cell? ⟨w.heap.size, 0, none⟩ = some (.int .i64 m) ∧ wx.cell? ⟨w.heap.size, 1, none⟩ = some (.int .i64 e) ∧ w.heap.size < wx.heap.size ∧ wx.cell? ⟨w.heap.size + 1, 0, none⟩ = some (.int .i64 k) ∧ wx.cell? ⟨w.heap.size + 1, 1, none⟩ = some (.int .i64 f) ∧ w.heap.size + 1 < wx.heap.size ∧ Below w3.heap.size w3 wx) (first | (go_keep; done) | exact SK.out _ (by first | with_reducible assumption | with_reducible exact K0.out | with_reducible exact K0.out.drew | with_reducible exact Below.drew (by with_reducible assumption)))
    (first
      | (go_at_call 10; ((with_reducible refine (HFI.out _).mono ?_); rintro r wq ⟨rfl, hbq⟩; have qb : Below w3.heap.size w3 wq := Below.trans (by first | with_reducible assumption | with_reducible exact K0.out | with_reducible exact K0.out.drew | with_reducible exact Below.drew (by with_reducible assumption)) (hbq.mono (Below.size (by first | with_reducible assumption | with_reducible exact K0.out | with_reducible exact K0.out.drew | with_reducible exact Below.drew (by with_reducible assumption))))))
      | (go_at_call 11; ((with_reducible refine (HRF.out _).mono ?_); rintro r wq ⟨rfl, hbq⟩; have qb : Below w3.heap.size w3 wq := Below.trans (by first | with_reducible assumption | with_reducible exact K0.out | with_reducible exact K0.out.drew | with_reducible exact Below.drew (by with_reducible assumption)) (hbq.mono (Below.size (by first | with_reducible assumption | with_reducible exact K0.out | with_reducible exact K0.out.drew | with_reducible exact Below.drew (by with_reducible assumption))))))
      | (go_at_call 12; ((with_reducible refine (HV.out _).mono ?_); rintro r wq ⟨rfl, hbq⟩; have qb : Below w3.heap.size w3 wq := Below.trans (by first | with_reducible assumption | with_reducible exact K0.out | with_reducible exact K0.out.drew | with_reducible exact Below.drew (by with_reducible assumption)) (hbq.mono (Below.size (by first | with_reducible assumption | with_reducible exact K0.out | with_reducible exact K0.out.drew | with_reducible exact Below.drew (by with_reducible assumption))))))
      | (go_at_call 13; ((with_reducible refine (HVx.out _).mono ?_); rintro r wq ⟨rfl, hbq⟩; have qb : Below w3.heap.size w3 wq := Below.trans (by first | with_reducible assumption | with_reducible exact K0.out | with_reducible exact K0.out.drew | with_reducible exact Below.drew (by with_reducible assumption)) (hbq.mono (Below.size (by first | with_reducible assumption | with_reducible exact K0.out | with_reducible exact K0.out.drew | with_reducible exact Below.drew (by with_reducible assumption)))))))
  rename _ ∧ _ ∧ _ ∧ _ ∧ _ ∧ _ ∧ Below w3.heap.size w3 _ => hS
  obtain ⟨w4, rfl⟩ : ∃ x, x = wq := ⟨_, rfl⟩
  obtain ⟨x0_4, x1_4, xz_4, y0_4, y1_4, yz_4, xb⟩ := hS
  have HB_4 := Lib.hid (HB_3.out.trans (xb.mono HB_3.out.size))
  clear xb HB_3 K0 SK x0_3 x1_3 y0_3 y1_3
  have nz_4 : w.heap.size ≤ w4.heap.size := HB_4.out.size
  go_wp2_with fail
  refine (HIx.out _).mono ?_
  rintro e w5 ⟨rfl, hb5⟩
  have x0_5 : w5.cell? ⟨w.heap.size, 0, none⟩ = some (.int .i64 m) := carry hb5 (by go_simp)
  have x1_5 : w5.cell? ⟨w.heap.size, 1, none⟩ = some (.int .i64 e) := carry hb5 (by go_simp)
  have xz_5 : w.heap.size < w5.heap.size := by have := hb5.size; first | omega | (simp at this; omega)
  have y0_5 : w5.cell? ⟨w.heap.size + 1, 0, none⟩ = some (.int .i64 k) := carry hb5 (by go_simp)
  have y1_5 : w5.cell? ⟨w.heap.size + 1, 1, none⟩ = some (.int .i64 f) := carry hb5 (by go_simp)
  have yz_5 : w.heap.size + 1 < w5.heap.size := by have := hb5.size; first | omega | (simp at this; omega)
  have HB_5 := Lib.hid ((by repeat (first | exact HB_4.out | refine Below.drew ?_ | refine Below.setCell ?_ (by first | omega | (simp; done) | (simp; omega)) _ | refine Below.alloc ?_ (by first | omega | (simp; done) | (simp; omega)) _) : Below w.heap.size w _).trans (hb5.mono (by first | omega | (simp; done) | (simp; omega))))
  have nz_5 : w.heap.size ≤ w5.heap.size := HB_5.out.size
  clear hb5 x0_4 x1_4 y0_4 y1_4 HB_4
  go_wp2_with fail
  refine (HNx.out _).mono ?_
  rintro e w6 ⟨rfl, hb6⟩
  have x0_6 : w6.cell? ⟨w.heap.size, 0, none⟩ = some (.int .i64 m) := carry hb6 (by go_simp)
  have x1_6 : w6.cell? ⟨w.heap.size, 1, none⟩ = some (.int .i64 e) := carry hb6 (by go_simp)
  have xz_6 : w.heap.size < w6.heap.size := by have := hb6.size; first | omega | (simp at this; omega)
  have y0_6 : w6.cell? ⟨w.heap.size + 1, 0, none⟩ = some (.int .i64 k) := carry hb6 (by go_simp)
  have y1_6 : w6.cell? ⟨w.heap.size + 1, 1, none⟩ = some (.int .i64 f) := carry hb6 (by go_simp)
  have yz_6 : w.heap.size + 1 < w6.heap.size := by have := hb6.size; first | omega | (simp at this; omega)
  have HB_6 := Lib.hid ((by repeat (first | exact HB_5.out | refine Below.drew ?_ | refine Below.setCell ?_ (by first | omega | (simp; done) | (simp; omega)) _ | refine Below.alloc ?_ (by first | omega | (simp; done) | (simp; omega)) _) : Below w.heap.size w _).trans (hb6.mono (by first | omega | (simp; done) | (simp; omega))))
  have nz_6 : w.heap.size ≤ w6.heap.size := HB_6.out.size
  clear hb6 x0_5 x1_5 y0_5 y1_5 HB_5
  go_wp2_with fail
  refine (HNg.out _).mono ?_
  rintro e w7 ⟨rfl, hb7⟩
  have x0_7 : w7.cell? ⟨w.heap.size, 0, none⟩ = some (.int .i64 m) := carry hb7 (by go_simp)
  have x1_7 : w7.cell? ⟨w.heap.size, 1, none⟩ = some (.int .i64 e) := carry hb7 (by go_simp)
  have xz_7 : w.heap.size < w7.heap.size := by have := hb7.size; first | omega | (simp at this; omega)
  have y0_7 : w7.cell? ⟨w.heap.size + 1, 0, none⟩ = some (.int .i64 k) := carry hb7 (by go_simp)
  have y1_7 : w7.cell? ⟨w.heap.size + 1, 1, none⟩ = some (.int .i64 f) := carry hb7 (by go_simp)
  have yz_7 : w.heap.size + 1 < w7.heap.size := by have := hb7.size; first | omega | (simp at this; omega)
  have q0_7 : w7.cell? ⟨w6.heap.size, 0, none⟩ = some (.int .i64 0) := carry hb7 (by go_simp)
  have q1_7 : w7.cell? ⟨w6.heap.size, 1, none⟩ = some (.int .i64 0) := carry hb7 (by go_simp)
  have qz_7 : w6.heap.size < w7.heap.size := by have := hb7.size; first | omega | (simp at this; omega)
  have HB_7 := Lib.hid ((by repeat (first | exact HB_6.out | refine Below.drew ?_ | refine Below.setCell ?_ (by first | omega | (simp; done) | (simp; omega)) _ | refine Below.alloc ?_ (by first | omega | (simp; done) | (simp; omega)) _) : Below w.heap.size w _).trans (hb7.mono (by first | omega | (simp; done) | (simp; omega))))
  have nz_7 : w.heap.size ≤ w7.heap.size := HB_7.out.size
  clear hb7 x0_6 x1_6 y0_6 y1_6 HB_6
  go_wp2_with fail
  refine (HAb.out _).mono ?_
  rintro e w8 ⟨rfl, hb8⟩
  have x0_8 : w8.cell? ⟨w.heap.size, 0, none⟩ = some (.int .i64 m) := carry hb8 (by go_simp)
  have x1_8 : w8.cell? ⟨w.heap.size, 1, none⟩ = some (.int .i64 e) := carry hb8 (by go_simp)
  have xz_8 : w.heap.size < w8.heap.size := by have := hb8.size; first | omega | (simp at this; omega)
  have y0_8 : w8.cell? ⟨w.heap.size + 1, 0, none⟩ = some (.int .i64 k) := carry hb8 (by go_simp)
  have y1_8 : w8.cell? ⟨w.heap.size + 1, 1, none⟩ = some (.int .i64 f) := carry hb8 (by go_simp)
  have yz_8 : w.heap.size + 1 < w8.heap.size := by have := hb8.size; first | omega | (simp at this; omega)
  have q0_8 : w8.cell? ⟨w6.heap.size, 0, none⟩ = some (.int .i64 0) := carry hb8 (by go_simp)
  have q1_8 : w8.cell? ⟨w6.heap.size, 1, none⟩ = some (.int .i64 0) := carry hb8 (by go_simp)
  have qz_8 : w6.heap.size < w8.heap.size := by have := hb8.size; first | omega | (simp at this; omega)
  have g0_8 : w8.cell? ⟨w7.heap.size, 0, none⟩ = some (.int .i64 gm) := carry hb8 (by go_simp)
  have g1_8 : w8.cell? ⟨w7.heap.size, 1, none⟩ = some (.int .i64 e) := carry hb8 (by go_simp)
  have gz_8 : w7.heap.size < w8.heap.size := by have := hb8.size; first | omega | (simp at this; omega)
  have HB_8 := Lib.hid ((by repeat (first | exact HB_7.out | refine Below.drew ?_ | refine Below.setCell ?_ (by first | omega | (simp; done) | (simp; omega)) _ | refine Below.alloc ?_ (by first | omega | (simp; done) | (simp; omega)) _) : Below w.heap.size w _).trans (hb8.mono (by first | omega | (simp; done) | (simp; omega))))
  have nz_8 : w.heap.size ≤ w8.heap.size := HB_8.out.size
  clear hb8 x0_7 x1_7 y0_7 y1_7 q0_7 q1_7 HB_7
  go_wp2_with fail
  refine (HSg.out _).mono ?_
  rintro e w9 ⟨rfl, hb9⟩
  have x0_9 : w9.cell? ⟨w.heap.size, 0, none⟩ = some (.int .i64 m) := carry hb9 (by go_simp)
  have x1_9 : w9.cell? ⟨w.heap.size, 1, none⟩ = some (.int .i64 e) := carry hb9 (by go_simp)
  have xz_9 : w.heap.size < w9.heap.size := by have := hb9.size; first | omega | (simp at this; omega)
  have y0_9 : w9.cell? ⟨w.heap.size + 1, 0, none⟩ = some (.int .i64 k) := carry hb9 (by go_simp)
  have y1_9 : w9.cell? ⟨w.heap.size + 1, 1, none⟩ = some (.int .i64 f) := carry hb9 (by go_simp)
  have yz_9 : w.heap.size + 1 < w9.heap.size := by have := hb9.size; first | omega | (simp at this; omega)
  have q0_9 : w9.cell? ⟨w6.heap.size, 0, none⟩ = some (.int .i64 0) := carry hb9 (by go_simp)
  have q1_9 : w9.cell? ⟨w6.heap.size, 1, none⟩ = some (.int .i64 0) := carry hb9 (by go_simp)
  have qz_9 : w6.heap.size < w9.heap.size := by have := hb9.size; first | omega | (simp at this; omega)
  have g0_9 : w9.cell? ⟨w7.heap.size, 0, none⟩ = some (.int .i64 gm) := carry hb9 (by go_simp)
  have g1_9 : w9.cell? ⟨w7.heap.size, 1, none⟩ = some (.int .i64 e) := carry hb9 (by go_simp)
  have gz_9 : w7.heap.size < w9.heap.size := by have := hb9.size; first | omega | (simp at this; omega)
  have b0_9 : w9.cell? ⟨w8.heap.size, 0, none⟩ = some (.int .i64 m) := carry hb9 (by go_simp)
  have b1_9 : w9.cell? ⟨w8.heap.size, 1, none⟩ = some (.int .i64 e) := carry hb9 (by go_simp)
  have bz_9 : w8.heap.size < w9.heap.size := by have := hb9.size; first | omega | (simp at this; omega)
  have HB_9 := Lib.hid ((by repeat (first | exact HB_8.out | refine Below.drew ?_ | refine Below.setCell ?_ (by first | omega | (simp; done) | (simp; omega)) _ | refine Below.alloc ?_ (by first | omega | (simp; done) | (simp; omega)) _) : Below w.heap.size w _).trans (hb9.mono (by first | omega | (simp; done) | (simp; omega))))
  have nz_9 : w.heap.size ≤ w9.heap.size := HB_9.out.size
  clear hb9 x0_8 x1_8 y0_8 y1_8 q0_8 q1_8 g0_8 g1_8 HB_8
  go_wp2_with fail
  refine (HCm.out _).mono ?_
  rintro e w10 ⟨rfl, hb10⟩
  have x0_10 : w10.cell? ⟨w.heap.size, 0, none⟩ = some (.int .i64 m) := carry hb10 (by go_simp)
  have x1_10 : w10.cell? ⟨w.heap.size, 1, none⟩ = some (.int .i64 e) := carry hb10 (by go_simp)
  have xz_10 : w.heap.size < w10.heap.size := by have := hb10.size; first | omega | (simp at this; omega)
  have y0_10 : w10.cell? ⟨w.heap.size + 1, 0, none⟩ = some (.int .i64 k) := carry hb10 (by go_simp)
  have y1_10 : w10.cell? ⟨w.heap.size + 1, 1, none⟩ = some (.int .i64 f) := carry hb10 (by go_simp)
  have yz_10 : w.heap.size + 1 < w10.heap.size := by have := hb10.size; first | omega | (simp at this; omega)
  have q0_10 : w10.cell? ⟨w6.heap.size, 0, none⟩ = some (.int .i64 0) := carry hb10 (by go_simp)
  have q1_10 : w10.cell? ⟨w6.heap.size, 1, none⟩ = some (.int .i64 0) := carry hb10 (by go_simp)
  have qz_10 : w6.heap.size < w10.heap.size := by have := hb10.size; first | omega | (simp at this; omega)
  have g0_10 : w10.cell? ⟨w7.heap.size, 0, none⟩ = some (.int .i64 gm) := carry hb10 (by go_simp)
  have g1_10 : w10.cell? ⟨w7.heap.size, 1, none⟩ = some (.int .i64 e) := carry hb10 (by go_simp)
  have gz_10 : w7.heap.size < w10.heap.size := by have := hb10.size; first | omega | (simp at this; omega)
  have b0_10 : w10.cell? ⟨w8.heap.size, 0, none⟩ = some (.int .i64 m) := carry hb10 (by go_simp)
  have b1_10 : w10.cell? ⟨w8.heap.size, 1, none⟩ = some (.int .i64 e) := carry hb10 (by go_simp)
  have bz_10 : w8.heap.size < w10.heap.size := by have := hb10.size; first | omega | (simp at this; omega)
  have HB_10 := Lib.hid ((by repeat (first | exact HB_9.out | refine Below.drew ?_ | refine Below.setCell ?_ (by first | omega | (simp; done) | (simp; omega)) _ | refine Below.alloc ?_ (by first | omega | (simp; done) | (simp; omega)) _) : Below w.heap.size w _).trans (hb10.mono (by first | omega | (simp; done) | (simp; omega))))
  have nz_10 : w.heap.size ≤ w10.heap.size := HB_10.out.size
  clear hb10 x0_9 x1_9 y0_9 y1_9 q0_9 q1_9 g0_9 g1_9 b0_9 b1_9 HB_9
  go_wp2_with fail
  refine (HVx.out _).mono ?_
  rintro e w11 ⟨rfl, hb11⟩
  have x0_11 : w11.cell? ⟨w.heap.size, 0, none⟩ = some (.int .i64 m) := carry hb11 (by go_simp)
  have x1_11 : w11.cell? ⟨w.heap.size, 1, none⟩ = some (.int .i64 e) := carry hb11 (by go_simp)
  have xz_11 : w.heap.size < w11.heap.size := by have := hb11.size; first | omega | (simp at this; omega)
  have y0_11 : w11.cell? ⟨w.heap.size + 1, 0, none⟩ = some (.int .i64 k) := carry hb11 (by go_simp)
  have y1_11 : w11.cell? ⟨w.heap.size + 1, 1, none⟩ = some (.int .i64 f) := carry hb11 (by go_simp)
  have yz_11 : w.heap.size + 1 < w11.heap.size := by have := hb11.size; first | omega | (simp at this; omega)
  have q0_11 : w11.cell? ⟨w6.heap.size, 0, none⟩ = some (.int .i64 0) := carry hb11 (by go_simp)
  have q1_11 : w11.cell? ⟨w6.heap.size, 1, none⟩ = some (.int .i64 0) := carry hb11 (by go_simp)
  have qz_11 : w6.heap.size < w11.heap.size := by have := hb11.size; first | omega | (simp at this; omega)
  have g0_11 : w11.cell? ⟨w7.heap.size, 0, none⟩ = some (.int .i64 gm) := carry hb11 (by go_simp)
  have g1_11 : w11.cell? ⟨w7.heap.size, 1, none⟩ = some (.int .i64 e) := carry hb11 (by go_simp)
  have gz_11 : w7.heap.size < w11.heap.size := by have := hb11.size; first | omega | (simp at this; omega)
  have b0_11 : w11.cell? ⟨w8.heap.size, 0, none⟩ = some (.int .i64 m) := carry hb11 (by go_simp)
  have b1_11 : w11.cell? ⟨w8.heap.size, 1, none⟩ = some (.int .i64 e) := carry hb11 (by go_simp)
  have bz_11 : w8.heap.size < w11.heap.size := by have := hb11.size; first | omega | (simp at this; omega)
  have HB_11 := Lib.hid ((by repeat (first | exact HB_10.out | refine Below.drew ?_ | refine Below.setCell ?_ (by first | omega | (simp; done) | (simp; omega)) _ | refine Below.alloc ?_ (by first | omega | (simp; done) | (simp; omega)) _) : Below w.heap.size w _).trans (hb11.mono (by first | omega | (simp; done) | (simp; omega))))
  have nz_11 : w.heap.size ≤ w11.heap.size := HB_11.out.size
  clear hb11 x0_10 x1_10 y0_10 y1_10 q0_10 q1_10 g0_10 g1_10 b0_10 b1_10 HB_10
  go_wp2_with fail
  refine (HVy.out _).mono ?_
  rintro e w12 ⟨rfl, hb12⟩
  have x0_12 : w12.cell? ⟨w.heap.size, 0, none⟩ = some (.int .i64 m) := carry hb12 (by go_simp)
  have x1_12 : w12.cell? ⟨w.heap.size, 1, none⟩ = some (.int .i64 e) := carry hb12 (by go_simp)
  have xz_12 : w.heap.size < w12.heap.size := by have := hb12.size; first | omega | (simp at this; omega)
  have y0_12 : w12.cell? ⟨w.heap.size + 1, 0, none⟩ = some (.int .i64 k) := carry hb12 (by go_simp)
  have y1_12 : w12.cell? ⟨w.heap.size + 1, 1, none⟩ = some (.int .i64 f) := carry hb12 (by go_simp)
  have yz_12 : w.heap.size + 1 < w12.heap.size := by have := hb12.size; first | omega | (simp at this; omega)
  have q0_12 : w12.cell? ⟨w6.heap.size, 0, none⟩ = some (.int .i64 0) := carry hb12 (by go_simp)
  have q1_12 : w12.cell? ⟨w6.heap.size, 1, none⟩ = some (.int .i64 0) := carry hb12 (by go_simp)
  have qz_12 : w6.heap.size < w12.heap.size := by have := hb12.size; first | omega | (simp at this; omega)
  have g0_12 : w12.cell? ⟨w7.heap.size, 0, none⟩ = some (.int .i64 gm) := carry hb12 (by go_simp)
  have g1_12 : w12.cell? ⟨w7.heap.size, 1, none⟩ = some (.int .i64 e) := carry hb12 (by go_simp)
  have gz_12 : w7.heap.size < w12.heap.size := by have := hb12.size; first | omega | (simp at this; omega)
  have b0_12 : w12.cell? ⟨w8.heap.size, 0, none⟩ = some (.int .i64 m) := carry hb12 (by go_simp)
  have b1_12 : w12.cell? ⟨w8.heap.size, 1, none⟩ = some (.int .i64 e) := carry hb12 (by go_simp)
  have bz_12 : w8.heap.size < w12.heap.size := by have := hb12.size; first | omega | (simp at this; omega)
  have HB_12 := Lib.hid ((by repeat (first | exact HB_11.out | refine Below.drew ?_ | refine Below.setCell ?_ (by first | omega | (simp; done) | (simp; omega)) _ | refine Below.alloc ?_ (by first | omega | (simp; done) | (simp; omega)) _) : Below w.heap.size w _).trans (hb12.mono (by first | omega | (simp; done) | (simp; omega))))
  have nz_12 : w.heap.size ≤ w12.heap.size := HB_12.out.size
  clear hb12 x0_11 x1_11 y0_11 y1_11 q0_11 q1_11 g0_11 g1_11 b0_11 b1_11 HB_11
  go_wp2_with fail
  refine (HVy.out _).mono ?_
  rintro e w13 ⟨rfl, hb13⟩
  have x0_13 : w13.cell? ⟨w.heap.size, 0, none⟩ = some (.int .i64 m) := carry hb13 (by go_simp)
  have x1_13 : w13.cell? ⟨w.heap.size, 1, none⟩ = some (.int .i64 e) := carry hb13 (by go_simp)
  have xz_13 : w.heap.size < w13.heap.size := by have := hb13.size; first | omega | (simp at this; omega)
  have y0_13 : w13.cell? ⟨w.heap.size + 1, 0, none⟩ = some (.int .i64 k) := carry hb13 (by go_simp)
  have y1_13 : w13.cell? ⟨w.heap.size + 1, 1, none⟩ = some (.int .i64 f) := carry hb13 (by go_simp)
  have yz_13 : w.heap.size + 1 < w13.heap.size := by have := hb13.size; first | omega | (simp at this; omega)
  have q0_13 : w13.cell? ⟨w6.heap.size, 0, none⟩ = some (.int .i64 0) := carry hb13 (by go_simp)
  have q1_13 : w13.cell? ⟨w6.heap.size, 1, none⟩ = some (.int .i64 0) := carry hb13 (by go_simp)
  have qz_13 : w6.heap.size < w13.heap.size := by have := hb13.size; first | omega | (simp at this; omega)
  have g0_13 : w13.cell? ⟨w7.heap.size, 0, none⟩ = some (.int .i64 gm) := carry hb13 (by go_simp)
  have g1_13 : w13.cell? ⟨w7.heap.size, 1, none⟩ = some (.int .i64 e) := carry hb13 (by go_simp)
  have gz_13 : w7.heap.size < w13.heap.size := by have := hb13.size; first | omega | (simp at this; omega)
  have b0_13 : w13.cell? ⟨w8.heap.size, 0, none⟩ = some (.int .i64 m) := carry hb13 (by go_simp)
  have b1_13 : w13.cell? ⟨w8.heap.size, 1, none⟩ = some (.int .i64 e) := carry hb13 (by go_simp)
  have bz_13 : w8.heap.size < w13.heap.size := by have := hb13.size; first | omega | (simp at this; omega)
  have HB_13 := Lib.hid ((by repeat (first | exact HB_12.out | refine Below.drew ?_ | refine Below.setCell ?_ (by first | omega | (simp; done) | (simp; omega)) _ | refine Below.alloc ?_ (by first | omega | (simp; done) | (simp; omega)) _) : Below w.heap.size w _).trans (hb13.mono (by first | omega | (simp; done) | (simp; omega))))
  have nz_13 : w.heap.size ≤ w13.heap.size := HB_13.out.size
  clear hb13 x0_12 x1_12 y0_12 y1_12 q0_12 q1_12 g0_12 g1_12 b0_12 b1_12 HB_12
  go_wp2_with fail
  generalize hW : w13.alloc _ = w14
  have x0_14 : w14.cell? ⟨w.heap.size, 0, none⟩ = some (.int .i64 m) := by rw [← hW]; clear hW; go_simp
  have x1_14 : w14.cell? ⟨w.heap.size, 1, none⟩ = some (.int .i64 e) := by rw [← hW]; clear hW; go_simp
  have xz_14 : w.heap.size < w14.heap.size := by rw [← hW]; clear hW; simp <;> omega
  have q0_14 : w14.cell? ⟨w6.heap.size, 0, none⟩ = some (.int .i64 0) := by rw [← hW]; clear hW; go_simp
  have q1_14 : w14.cell? ⟨w6.heap.size, 1, none⟩ = some (.int .i64 0) := by rw [← hW]; clear hW; go_simp
  have qz_14 : w6.heap.size < w14.heap.size := by rw [← hW]; clear hW; simp <;> omega
  have g0_14 : w14.cell? ⟨w7.heap.size, 0, none⟩ = some (.int .i64 gm) := by rw [← hW]; clear hW; go_simp
  have g1_14 : w14.cell? ⟨w7.heap.size, 1, none⟩ = some (.int .i64 e) := by rw [← hW]; clear hW; go_simp
  have gz_14 : w7.heap.size < w14.heap.size := by rw [← hW]; clear hW; simp <;> omega
  have b0_14 : w14.cell? ⟨w8.heap.size, 0, none⟩ = some (.int .i64 m) := by rw [← hW]; clear hW; go_simp
  have b1_14 : w14.cell? ⟨w8.heap.size, 1, none⟩ = some (.int .i64 e) := by rw [← hW]; clear hW; go_simp
  have bz_14 : w8.heap.size < w14.heap.size := by rw [← hW]; clear hW; simp <;> omega
  have t0_14 : w14.cell? ⟨w13.heap.size, 0, none⟩ = some (.int .i64 m) := by rw [← hW]; clear hW; go_simp
  have t1_14 : w14.cell? ⟨w13.heap.size, 1, none⟩ = some (.int .i64 e) := by rw [← hW]; clear hW; go_simp
  have tz_14 : w13.heap.size < w14.heap.size := by rw [← hW]; clear hW; simp <;> omega
  have HB_14 := Lib.hid ((by rw [← hW]; clear hW; repeat (first | exact HB_13.out | refine Below.drew ?_ | refine Below.setCell ?_ (by first | omega | (simp; done) | (simp; omega)) _ | refine Below.alloc ?_ (by first | omega | (simp; done) | (simp; omega)) _)) : Below w.heap.size w w14)
  clear hW HB_13 x0_13 x1_13 y0_13 y1_13 q0_13 q1_13 g0_13 g1_13 b0_13 b1_13
  have nz_14 : w.heap.size ≤ w14.heap.size := HB_14.out.size
  have K0 := Lib.hid (Below.refl w14.heap.size w14)
  have SK := Lib.hid (show ∀ wx, Below w14.heap.size w14 wx → wx.cell? ⟨w.heap.size, 0, none⟩ = some (.int .i64 m) ∧ wx.cell? ⟨w.heap.size, 1, none⟩ = some (.int .i64 e) ∧ w.heap.size < wx.heap.size ∧ wx.cell? ⟨w6.heap.size, 0, none⟩ = some (.int .i64 0) ∧ wx.cell? ⟨w6.heap.size, 1, none⟩ = some (.int .i64 0) ∧ w6.heap.size < wx.heap.size ∧ wx.cell? ⟨w7.heap.size, 0, none⟩ = some (.int .i64 gm) ∧ wx.cell? ⟨w7.heap.size, 1, none⟩ = some (.int .i64 e) ∧ w7.heap.size < wx.heap.size ∧ wx.cell? ⟨w8.heap.size, 0, none⟩ = some (.int .i64 m) ∧ wx.cell? ⟨w8.heap.size, 1, none⟩ = some (.int .i64 e) ∧ w8.heap.size < wx.heap.size ∧ wx.cell? ⟨w13.heap.size, 0, none⟩ = some (.int .i64 m) ∧ wx.cell? ⟨w13.heap.size, 1, none⟩ = some (.int .i64 e) ∧ w13.heap.size < wx.heap.size ∧ Below w14.heap.size w14 wx from fun wx h => ⟨carry h x0_14, carry h x1_14, Nat.lt_of_lt_of_le xz_14 h.size, carry h q0_14, carry h q1_14, Nat.lt_of_lt_of_le qz_14 h.size, carry h g0_14, carry h g1_14, Nat.lt_of_lt_of_le gz_14 h.size, carry h b0_14, carry h b1_14, Nat.lt_of_lt_of_le bz_14 h.size, carry h t0_14, carry h t1_14, Nat.lt_of_lt_of_le tz_14 h.size, h⟩)
  go_wp2_with fail
  go_region_held3 (fun wx => wx.cell? ⟨w.heap.size, 0, none⟩ = some (.int .i64 m) ∧ wx.cell? ⟨w.heap.size, 1, none⟩ = some (.int .i64 e) ∧ w.heap.size < wx.heap.size ∧ wx.cell? ⟨w6.heap.size, 0, none⟩ = some (.int .i64 0) ∧ wx.cell? ⟨w6.heap.size, 1, none⟩ = some (.int .i64 0) ∧ w6.heap.size < wx.heap.size ∧ wx.cell? ⟨w7.heap.size, 0, none⟩ = some (.int .i64 gm) ∧ wx.cell? ⟨w7.heap.size, 1, none⟩ = some (.int .i64 e) ∧ w7.heap.size < wx.heap.size ∧ wx.cell? ⟨w8.heap.size, 0, none⟩ = some (.int .i64 m) ∧ wx.cell? ⟨w8.heap.size, 1, none⟩ = some (.int .i64 e) ∧ w8.heap.size < wx.heap.size ∧ wx.cell? ⟨w13.heap.size, 0, none⟩ = some (.int .i64 m) ∧ wx.cell? ⟨w13.heap.size, 1, none⟩ = some (.int .i64 e) ∧ w13.heap.size < wx.heap.size ∧ Below w14.heap.size w14 wx) (first | (go_keep; done) | exact SK.out _ (by first | with_reducible assumption | with_reducible exact K0.out | with_reducible exact K0.out.drew | with_reducible exact Below.drew (by with_reducible assumption)))
    (first
      | (go_at_call 23; ((with_reducible refine (HRI.out _).mono ?_); rintro r wq ⟨rfl, hbq⟩; have qb : Below w14.heap.size w14 wq := Below.trans (by first | with_reducible assumption | with_reducible exact K0.out | with_reducible exact K0.out.drew | with_reducible exact Below.drew (by with_reducible assumption)) (hbq.mono (Below.size (by first | with_reducible assumption | with_reducible exact K0.out | with_reducible exact K0.out.drew | with_reducible exact Below.drew (by with_reducible assumption))))))
      | (go_at_call 22; ((with_reducible refine (HRN.out _).mono ?_); rintro r wq ⟨rfl, hbq⟩; have qb : Below w14.heap.size w14 wq := Below.trans (by first | with_reducible assumption | with_reducible exact K0.out | with_reducible exact K0.out.drew | with_reducible exact Below.drew (by with_reducible assumption)) (hbq.mono (Below.size (by first | with_reducible assumption | with_reducible exact K0.out | with_reducible exact K0.out.drew | with_reducible exact Below.drew (by with_reducible assumption))))))
      | (go_at_call 8; ((with_reducible refine (HY.out _ _ _).mono ?_); rintro r wq ⟨rfl, hbq⟩; have qb : Below w14.heap.size w14 wq := Below.trans (by first | with_reducible assumption | with_reducible exact K0.out | with_reducible exact K0.out.drew | with_reducible exact Below.drew (by with_reducible assumption)) (hbq.mono (Below.size (by first | with_reducible assumption | with_reducible exact K0.out | with_reducible exact K0.out.drew | with_reducible exact Below.drew (by with_reducible assumption))))))
      | (go_at_call 24; ((with_reducible refine (HRC.out _).mono ?_); rintro r wq ⟨rfl, hbq⟩; have qb : Below w14.heap.size w14 wq := Below.trans (by first | with_reducible assumption | with_reducible exact K0.out | with_reducible exact K0.out.drew | with_reducible exact Below.drew (by with_reducible assumption)) (hbq.mono (Below.size (by first | with_reducible assumption | with_reducible exact K0.out | with_reducible exact K0.out.drew | with_reducible exact Below.drew (by with_reducible assumption)))))))
  rename _ ∧ _ ∧ _ ∧ _ ∧ _ ∧ _ ∧ _ ∧ _ ∧ _ ∧ _ ∧ _ ∧ _ ∧ _ ∧ _ ∧ _ ∧ Below w14.heap.size w14 _ => hS
  obtain ⟨w15, rfl⟩ : ∃ x, x = wq := ⟨_, rfl⟩
  obtain ⟨x0_15, x1_15, xz_15, q0_15, q1_15, qz_15, g0_15, g1_15, gz_15, b0_15, b1_15, bz_15, t0_15, t1_15, tz_15, xb⟩ := hS
  have HB_15 := Lib.hid (HB_14.out.trans (xb.mono HB_14.out.size))
  clear xb HB_14 K0 SK x0_14 x1_14 q0_14 q1_14 g0_14 g1_14 b0_14 b1_14 t0_14 t1_14
  have nz_15 : w.heap.size ≤ w15.heap.size := HB_15.out.size
  go_wp2_with fail
  refine (HSan.out _ (by repeat (first | exact HB_15.out | refine Below.drew ?_ | refine Below.setCell ?_ (by first | omega | (simp; done) | (simp; omega)) _ | refine Below.alloc ?_ (by first | omega | (simp; done) | (simp; omega)) _))).mono ?_
  rintro e w16 ⟨rfl, hb16⟩
  have q0_16 : w16.cell? ⟨w6.heap.size, 0, none⟩ = some (.int .i64 0) := carry hb16 (by go_simp)
  have q1_16 : w16.cell? ⟨w6.heap.size, 1, none⟩ = some (.int .i64 0) := carry hb16 (by go_simp)
  have qz_16 : w6.heap.size < w16.heap.size := by have := hb16.size; first | omega | (simp at this; omega)
  have HB_16 := Lib.hid ((by repeat (first | exact HB_15.out | refine Below.drew ?_ | refine Below.setCell ?_ (by first | omega | (simp; done) | (simp; omega)) _ | refine Below.alloc ?_ (by first | omega | (simp; done) | (simp; omega)) _) : Below w.heap.size w _).trans (hb16.mono (by first | omega | (simp; done) | (simp; omega))))
  have nz_16 : w.heap.size ≤ w16.heap.size := HB_16.out.size
  clear hb16 x0_15 x1_15 q0_15 q1_15 g0_15 g1_15 b0_15 b1_15 t0_15 t1_15 HB_15
  go_wp2_with fail
  go_ret
  exact ⟨rfl, by repeat (first | exact HB_16.out | refine Below.drew ?_ | refine Below.setCell ?_ (by first | omega | (simp; done) | (simp; omega)) _ | refine Below.alloc ?_ (by first | omega | (simp; done) | (simp; omega)) _)⟩

set_option maxRecDepth 100000 in
set_option maxHeartbeats 8000000 in
theorem midB (m e k f i0 n0 am ae ax fm fe i nm ne gm s c : Int) (w : World) (HAt : Hid (∀ W : World, Calls Tryz.prog 7 #[.int .i64 i0] W fun r w' => r = .returned (rE am ae ax) ∧ Below W.heap.size W w')) (HF : Hid (-2533359615 ≤ i0 ∧ i0 ≤ 2533359615 → ax = 0 ∧ ∀ W : World, Calls Tryz.prog 9 #[.int .i64 i0] W fun r w' => r = .returned (realV am ae) ∧ Below W.heap.size W w')) (HG : Hid (¬ (-2533359615 ≤ i0 ∧ i0 ≤ 2533359615) → ax = 1 ∧ am = 0 ∧ ae = 0)) (HY : Hid (∀ (a b : Int) (W : World), Calls Tryz.prog 8 #[realV a b, .int .i64 0, realV a b] W fun r w' => r = .returned (.bool true) ∧ Below W.heap.size W w')) (HFI : Hid (∀ W : World, Calls Tryz.prog 10 #[.int .i64 n0] W fun r w' => r = .returned (realV fm fe) ∧ Below W.heap.size W w')) (HRF : Hid (∀ W : World, Calls Tryz.prog 11 #[.int .i64 n0] W fun r w' => r = .returned (realV fm fe) ∧ Below W.heap.size W w')) (HV : Hid (∀ W : World, Calls Tryz.prog 12 #[realV m e] W fun r w' => r = .returned (.bool true) ∧ Below W.heap.size W w')) (HVx : Hid (∀ W : World, Calls Tryz.prog 13 #[realV m e] W fun r w' => r = .returned (.bool true) ∧ Below W.heap.size W w')) (HVy : Hid (∀ W : World, Calls Tryz.prog 13 #[realV k f] W fun r w' => r = .returned (.bool false) ∧ Below W.heap.size W w')) (HIx : Hid (∀ W : World, Calls Tryz.prog 14 #[realV m e] W fun r w' => r = .returned (iE i 0) ∧ Below W.heap.size W w')) (HNx : Hid (∀ W : World, Calls Tryz.prog 15 #[realV m e] W fun r w' => r = .returned (rE nm ne 0) ∧ Below W.heap.size W w')) (HNg : Hid (∀ W : World, Calls Tryz.prog 16 #[realV m e] W fun r w' => r = .returned (rE gm e 0) ∧ Below W.heap.size W w')) (HAb : Hid (∀ W : World, Calls Tryz.prog 17 #[realV m e] W fun r w' => r = .returned (rE m e 0) ∧ Below W.heap.size W w')) (HSg : Hid (∀ W : World, Calls Tryz.prog 18 #[realV m e] W fun r w' => r = .returned (iE s 0) ∧ Below W.heap.size W w')) (HCm : Hid (∀ W : World, Calls Tryz.prog 19 #[realV m e, realV k f] W fun r w' => r = .returned (iE 0 1) ∧ Below W.heap.size W w')) (HSan : Hid (∀ W, Below w.heap.size w W → Calls Tryz.prog 20 #[] W fun r W' => r = .returned (.bool true) ∧ Below W.heap.size W W')) (HRI : Hid (∀ W : World, Calls Tryz.prog 23 #[realV m e] W fun r w' => r = .returned (.int .i64 i) ∧ Below W.heap.size W w')) (HRN : Hid (∀ W : World, Calls Tryz.prog 22 #[realV m e] W fun r w' => r = .returned (realV gm e) ∧ Below W.heap.size W w')) (HRC : Hid (∀ W : World, Calls Tryz.prog 24 #[.int .i64 m, .int .i64 0] W fun r w' => r = .returned (.int .i64 s) ∧ Below W.heap.size W w')) (hm : ¬ m < 0) (hi : (i == 2533359615) = false) (hw : IntKind.i64.wrap (i + 1) = i + 1) (HRA : Hid (∀ W : World, Calls Tryz.prog 9 #[.int .i64 (i + 1)] W fun r w' => r = .returned (realV nm ne) ∧ Below W.heap.size W w'))  :
    Calls Tryz.prog 3 #[realV m e, realV k f, .int .i64 i0, .int .i64 n0] w fun r w' => r = .returned (.bool true) ∧ Below w.heap.size w w' := by
  obtain ⟨tt, htt⟩ : ∃ tt : Bool, tt = decide (-2533359615 ≤ i0 ∧ i0 ≤ 2533359615) := ⟨_, rfl⟩
  have HT := Lib.hid htt
  clear htt
  go_enter Tryz.func3, Tryz.ntmps3
  go_wp2_with fail
  refine (HAt.out _).mono ?_
  rintro e w1 ⟨rfl, hb1⟩
  have x0_1 : w1.cell? ⟨w.heap.size, 0, none⟩ = some (.int .i64 m) := carry hb1 (by go_simp)
  have x1_1 : w1.cell? ⟨w.heap.size, 1, none⟩ = some (.int .i64 e) := carry hb1 (by go_simp)
  have xz_1 : w.heap.size < w1.heap.size := by have := hb1.size; first | omega | (simp at this; omega)
  have y0_1 : w1.cell? ⟨w.heap.size + 1, 0, none⟩ = some (.int .i64 k) := carry hb1 (by go_simp)
  have y1_1 : w1.cell? ⟨w.heap.size + 1, 1, none⟩ = some (.int .i64 f) := carry hb1 (by go_simp)
  have yz_1 : w.heap.size + 1 < w1.heap.size := by have := hb1.size; first | omega | (simp at this; omega)
  have HB_1 := Lib.hid ((by repeat (first | exact Below.refl _ _ | refine Below.drew ?_ | refine Below.setCell ?_ (by first | omega | (simp; done) | (simp; omega)) _ | refine Below.alloc ?_ (by first | omega | (simp; done) | (simp; omega)) _) : Below w.heap.size w _).trans (hb1.mono (by first | omega | (simp; done) | (simp; omega))))
  have nz_1 : w.heap.size ≤ w1.heap.size := HB_1.out.size
  clear hb1
  go_upto_region 2 with fail
  generalize hW : w1.alloc _ = w2
  have x0_2 : w2.cell? ⟨w.heap.size, 0, none⟩ = some (.int .i64 m) := by rw [← hW]; clear hW; go_simp
  have x1_2 : w2.cell? ⟨w.heap.size, 1, none⟩ = some (.int .i64 e) := by rw [← hW]; clear hW; go_simp
  have xz_2 : w.heap.size < w2.heap.size := by rw [← hW]; clear hW; simp <;> omega
  have y0_2 : w2.cell? ⟨w.heap.size + 1, 0, none⟩ = some (.int .i64 k) := by rw [← hW]; clear hW; go_simp
  have y1_2 : w2.cell? ⟨w.heap.size + 1, 1, none⟩ = some (.int .i64 f) := by rw [← hW]; clear hW; go_simp
  have yz_2 : w.heap.size + 1 < w2.heap.size := by rw [← hW]; clear hW; simp <;> omega
  have a0_2 : w2.cell? ⟨w1.heap.size, 0, none⟩ = some (.int .i64 am) := by rw [← hW]; clear hW; go_simp
  have a1_2 : w2.cell? ⟨w1.heap.size, 1, none⟩ = some (.int .i64 ae) := by rw [← hW]; clear hW; go_simp
  have az_2 : w1.heap.size < w2.heap.size := by rw [← hW]; clear hW; simp <;> omega
  have HB_2 := Lib.hid (show Below w.heap.size w w2 by rw [← hW]; exact Below.alloc HB_1.out (by have := HB_1.out.size; omega) _)
  clear hW HB_1 x0_1 x1_1 y0_1 y1_1
  have nz_2 : w.heap.size ≤ w2.heap.size := HB_2.out.size
  go_cut [33] from 28 to 33 (fun s wx => s = .bool tt ∧ w2 = wx)
  case first =>
    by_cases h1 : -2533359615 ≤ i0
    · by_cases h2 : i0 ≤ 2533359615
      · go_wp2_with fail
        go_meet
        case rel => exact ⟨by rw [HT.out]; simp [h1, h2], rfl⟩
      · have h3 : decide (i0 ≤ 2533359615) = false := by simpa using h2
        go_wp2_with fail
        go_meet
        case rel => exact ⟨by rw [HT.out]; simp [h2], rfl⟩
    · have h3 : decide (-2533359615 ≤ i0) = false := by simpa using h1
      have h4 : decide (-2533359615 ≤ i0 ∧ i0 ≤ 2533359615) = false := decide_eq_false (fun h => h1 h.1)
      go_wp2_with fail
      go_meet
      case rel => exact ⟨by rw [HT.out, h4], rfl⟩
  case rest =>
  obtain ⟨rfl, rfl⟩ := hcut
  go_upto_if 33 with fail
  go_cut [9, 10] from 34 to 46 (fun p q wx => wx.cell? ⟨w.heap.size, 0, none⟩ = some (.int .i64 m) ∧ wx.cell? ⟨w.heap.size, 1, none⟩ = some (.int .i64 e) ∧ w.heap.size < wx.heap.size ∧ wx.cell? ⟨w.heap.size + 1, 0, none⟩ = some (.int .i64 k) ∧ wx.cell? ⟨w.heap.size + 1, 1, none⟩ = some (.int .i64 f) ∧ w.heap.size + 1 < wx.heap.size ∧ Below w.heap.size w wx)
  case first =>
    cases tt
    · obtain ⟨rfl, rfl, rfl⟩ := HG.out (of_decide_eq_false HT.out.symm)
      go_wp2_with fail
      go_meet
      case rel => exact ⟨x0_2, x1_2, xz_2, y0_2, y1_2, yz_2, HB_2.out⟩
    · obtain ⟨rfl, HRAt⟩ := HF.out (of_decide_eq_true HT.out.symm)
      have K0 := Lib.hid (Below.refl w2.heap.size w2)
      have SK := Lib.hid (show ∀ wx, Below w2.heap.size w2 wx → wx.cell? ⟨w.heap.size, 0, none⟩ = some (.int .i64 m) ∧ wx.cell? ⟨w.heap.size, 1, none⟩ = some (.int .i64 e) ∧ w.heap.size < wx.heap.size ∧ wx.cell? ⟨w.heap.size + 1, 0, none⟩ = some (.int .i64 k) ∧ wx.cell? ⟨w.heap.size + 1, 1, none⟩ = some (.int .i64 f) ∧ w.heap.size + 1 < wx.heap.size ∧ wx.cell? ⟨w1.heap.size, 0, none⟩ = some (.int .i64 am) ∧ wx.cell? ⟨w1.heap.size, 1, none⟩ = some (.int .i64 ae) ∧ w1.heap.size < wx.heap.size ∧ Below w2.heap.size w2 wx from fun wx h => ⟨carry h x0_2, carry h x1_2, Nat.lt_of_lt_of_le xz_2 h.size, carry h y0_2, carry h y1_2, Nat.lt_of_lt_of_le yz_2 h.size, carry h a0_2, carry h a1_2, Nat.lt_of_lt_of_le az_2 h.size, h⟩)
      go_wp2_with fail
      go_region_held3 (fun wx => wx.cell? ⟨w.heap.size, 0, none⟩ = some (.int .i64 m) ∧ wx.cell? ⟨w.heap.size, 1, none⟩ = some (.int .i64 e) ∧ w.heap.size < wx.heap.size ∧ wx.cell? ⟨w.heap.size + 1, 0, none⟩ = some (.int .i64 k) ∧ wx.cell? ⟨w.heap.size + 1, 1, none⟩ = some (.int .i64 f) ∧ w.heap.size + 1 < wx.heap.size ∧ wx.cell? ⟨w1.heap.size, 0, none⟩ = some (.int .i64 am) ∧ wx.cell? ⟨w1.heap.size, 1, none⟩ = some (.int .i64 ae) ∧ w1.heap.size < wx.heap.size ∧ Below w2.heap.size w2 wx) (first | (go_keep; done) | exact SK.out _ (by first | with_reducible assumption | with_reducible exact K0.out | with_reducible exact K0.out.drew | with_reducible exact Below.drew (by with_reducible assumption)))
        (first
          | (go_at_call 9; ((with_reducible refine (HRAt _).mono ?_); rintro r wq ⟨rfl, hbq⟩; have qb : Below w2.heap.size w2 wq := Below.trans (by first | with_reducible assumption | with_reducible exact K0.out | with_reducible exact K0.out.drew | with_reducible exact Below.drew (by with_reducible assumption)) (hbq.mono (Below.size (by first | with_reducible assumption | with_reducible exact K0.out | with_reducible exact K0.out.drew | with_reducible exact Below.drew (by with_reducible assumption))))))
          | (go_at_call 8; ((with_reducible refine (HY.out _ _ _).mono ?_); rintro r wq ⟨rfl, hbq⟩; have qb : Below w2.heap.size w2 wq := Below.trans (by first | with_reducible assumption | with_reducible exact K0.out | with_reducible exact K0.out.drew | with_reducible exact Below.drew (by with_reducible assumption)) (hbq.mono (Below.size (by first | with_reducible assumption | with_reducible exact K0.out | with_reducible exact K0.out.drew | with_reducible exact Below.drew (by with_reducible assumption)))))))
      rename _ ∧ _ ∧ _ ∧ _ ∧ _ ∧ _ ∧ _ ∧ _ ∧ _ ∧ Below w2.heap.size w2 _ => hS
      obtain ⟨w3, rfl⟩ : ∃ x, x = wq := ⟨_, rfl⟩
      obtain ⟨x0_3, x1_3, xz_3, y0_3, y1_3, yz_3, a0_3, a1_3, az_3, xb⟩ := hS
      have HB_3 := Lib.hid (HB_2.out.trans (xb.mono HB_2.out.size))
      clear xb HB_2 K0 SK x0_2 x1_2 y0_2 y1_2 a0_2 a1_2
      have nz_3 : w.heap.size ≤ w3.heap.size := HB_3.out.size
      go_wp2_with fail
      go_meet
      case rel => exact ⟨x0_3, x1_3, xz_3, y0_3, y1_3, yz_3, HB_3.out⟩
  case rest =>
  clear HB_2 x0_2 x1_2 y0_2 y1_2 a0_2 a1_2 az_2 xz_2 yz_2
  obtain ⟨w3, rfl⟩ : ∃ x, x = wc := ⟨_, rfl⟩
  obtain ⟨x0_3, x1_3, xz_3, y0_3, y1_3, yz_3, hb9⟩ := hcut
  have HB_3 := Lib.hid hb9
  clear hb9
  have nz_3 : w.heap.size ≤ w3.heap.size := HB_3.out.size
  have K0 := Lib.hid (Below.refl w3.heap.size w3)
  have SK := Lib.hid (show ∀ wx, Below w3.heap.size w3 wx → wx.cell? ⟨w.heap.size, 0, none⟩ = some (.int .i64 m) ∧ wx.cell? ⟨w.heap.size, 1, none⟩ = some (.int .i64 e) ∧ w.heap.size < wx.heap.size ∧ wx.cell? ⟨w.heap.size + 1, 0, none⟩ = some (.int .i64 k) ∧ wx.cell? ⟨w.heap.size + 1, 1, none⟩ = some (.int .i64 f) ∧ w.heap.size + 1 < wx.heap.size ∧ Below w3.heap.size w3 wx from fun wx h => ⟨carry h x0_3, carry h x1_3, Nat.lt_of_lt_of_le xz_3 h.size, carry h y0_3, carry h y1_3, Nat.lt_of_lt_of_le yz_3 h.size, h⟩)
  go_wp2_with fail
  go_region_held3 (fun wx => wx.cell? ⟨w.heap.size, 0, none⟩ = some (.int .i64 m) ∧ wx.cell? ⟨w.heap.size, 1, none⟩ = some (.int .i64 e) ∧ w.heap.size < wx.heap.size ∧ wx.cell? ⟨w.heap.size + 1, 0, none⟩ = some (.int .i64 k) ∧ wx.cell? ⟨w.heap.size + 1, 1, none⟩ = some (.int .i64 f) ∧ w.heap.size + 1 < wx.heap.size ∧ Below w3.heap.size w3 wx) (first | (go_keep; done) | exact SK.out _ (by first | with_reducible assumption | with_reducible exact K0.out | with_reducible exact K0.out.drew | with_reducible exact Below.drew (by with_reducible assumption)))
    (first
      | (go_at_call 10; ((with_reducible refine (HFI.out _).mono ?_); rintro r wq ⟨rfl, hbq⟩; have qb : Below w3.heap.size w3 wq := Below.trans (by first | with_reducible assumption | with_reducible exact K0.out | with_reducible exact K0.out.drew | with_reducible exact Below.drew (by with_reducible assumption)) (hbq.mono (Below.size (by first | with_reducible assumption | with_reducible exact K0.out | with_reducible exact K0.out.drew | with_reducible exact Below.drew (by with_reducible assumption))))))
      | (go_at_call 11; ((with_reducible refine (HRF.out _).mono ?_); rintro r wq ⟨rfl, hbq⟩; have qb : Below w3.heap.size w3 wq := Below.trans (by first | with_reducible assumption | with_reducible exact K0.out | with_reducible exact K0.out.drew | with_reducible exact Below.drew (by with_reducible assumption)) (hbq.mono (Below.size (by first | with_reducible assumption | with_reducible exact K0.out | with_reducible exact K0.out.drew | with_reducible exact Below.drew (by with_reducible assumption))))))
      | (go_at_call 12; ((with_reducible refine (HV.out _).mono ?_); rintro r wq ⟨rfl, hbq⟩; have qb : Below w3.heap.size w3 wq := Below.trans (by first | with_reducible assumption | with_reducible exact K0.out | with_reducible exact K0.out.drew | with_reducible exact Below.drew (by with_reducible assumption)) (hbq.mono (Below.size (by first | with_reducible assumption | with_reducible exact K0.out | with_reducible exact K0.out.drew | with_reducible exact Below.drew (by with_reducible assumption))))))
      | (go_at_call 13; ((with_reducible refine (HVx.out _).mono ?_); rintro r wq ⟨rfl, hbq⟩; have qb : Below w3.heap.size w3 wq := Below.trans (by first | with_reducible assumption | with_reducible exact K0.out | with_reducible exact K0.out.drew | with_reducible exact Below.drew (by with_reducible assumption)) (hbq.mono (Below.size (by first | with_reducible assumption | with_reducible exact K0.out | with_reducible exact K0.out.drew | with_reducible exact Below.drew (by with_reducible assumption)))))))
  rename _ ∧ _ ∧ _ ∧ _ ∧ _ ∧ _ ∧ Below w3.heap.size w3 _ => hS
  obtain ⟨w4, rfl⟩ : ∃ x, x = wq := ⟨_, rfl⟩
  obtain ⟨x0_4, x1_4, xz_4, y0_4, y1_4, yz_4, xb⟩ := hS
  have HB_4 := Lib.hid (HB_3.out.trans (xb.mono HB_3.out.size))
  clear xb HB_3 K0 SK x0_3 x1_3 y0_3 y1_3
  have nz_4 : w.heap.size ≤ w4.heap.size := HB_4.out.size
  go_wp2_with fail
  refine (HIx.out _).mono ?_
  rintro e w5 ⟨rfl, hb5⟩
  have x0_5 : w5.cell? ⟨w.heap.size, 0, none⟩ = some (.int .i64 m) := carry hb5 (by go_simp)
  have x1_5 : w5.cell? ⟨w.heap.size, 1, none⟩ = some (.int .i64 e) := carry hb5 (by go_simp)
  have xz_5 : w.heap.size < w5.heap.size := by have := hb5.size; first | omega | (simp at this; omega)
  have y0_5 : w5.cell? ⟨w.heap.size + 1, 0, none⟩ = some (.int .i64 k) := carry hb5 (by go_simp)
  have y1_5 : w5.cell? ⟨w.heap.size + 1, 1, none⟩ = some (.int .i64 f) := carry hb5 (by go_simp)
  have yz_5 : w.heap.size + 1 < w5.heap.size := by have := hb5.size; first | omega | (simp at this; omega)
  have HB_5 := Lib.hid ((by repeat (first | exact HB_4.out | refine Below.drew ?_ | refine Below.setCell ?_ (by first | omega | (simp; done) | (simp; omega)) _ | refine Below.alloc ?_ (by first | omega | (simp; done) | (simp; omega)) _) : Below w.heap.size w _).trans (hb5.mono (by first | omega | (simp; done) | (simp; omega))))
  have nz_5 : w.heap.size ≤ w5.heap.size := HB_5.out.size
  clear hb5 x0_4 x1_4 y0_4 y1_4 HB_4
  go_wp2_with fail
  refine (HNx.out _).mono ?_
  rintro e w6 ⟨rfl, hb6⟩
  have x0_6 : w6.cell? ⟨w.heap.size, 0, none⟩ = some (.int .i64 m) := carry hb6 (by go_simp)
  have x1_6 : w6.cell? ⟨w.heap.size, 1, none⟩ = some (.int .i64 e) := carry hb6 (by go_simp)
  have xz_6 : w.heap.size < w6.heap.size := by have := hb6.size; first | omega | (simp at this; omega)
  have y0_6 : w6.cell? ⟨w.heap.size + 1, 0, none⟩ = some (.int .i64 k) := carry hb6 (by go_simp)
  have y1_6 : w6.cell? ⟨w.heap.size + 1, 1, none⟩ = some (.int .i64 f) := carry hb6 (by go_simp)
  have yz_6 : w.heap.size + 1 < w6.heap.size := by have := hb6.size; first | omega | (simp at this; omega)
  have HB_6 := Lib.hid ((by repeat (first | exact HB_5.out | refine Below.drew ?_ | refine Below.setCell ?_ (by first | omega | (simp; done) | (simp; omega)) _ | refine Below.alloc ?_ (by first | omega | (simp; done) | (simp; omega)) _) : Below w.heap.size w _).trans (hb6.mono (by first | omega | (simp; done) | (simp; omega))))
  have nz_6 : w.heap.size ≤ w6.heap.size := HB_6.out.size
  clear hb6 x0_5 x1_5 y0_5 y1_5 HB_5
  go_wp2_with fail
  refine (HNg.out _).mono ?_
  rintro e w7 ⟨rfl, hb7⟩
  have x0_7 : w7.cell? ⟨w.heap.size, 0, none⟩ = some (.int .i64 m) := carry hb7 (by go_simp)
  have x1_7 : w7.cell? ⟨w.heap.size, 1, none⟩ = some (.int .i64 e) := carry hb7 (by go_simp)
  have xz_7 : w.heap.size < w7.heap.size := by have := hb7.size; first | omega | (simp at this; omega)
  have y0_7 : w7.cell? ⟨w.heap.size + 1, 0, none⟩ = some (.int .i64 k) := carry hb7 (by go_simp)
  have y1_7 : w7.cell? ⟨w.heap.size + 1, 1, none⟩ = some (.int .i64 f) := carry hb7 (by go_simp)
  have yz_7 : w.heap.size + 1 < w7.heap.size := by have := hb7.size; first | omega | (simp at this; omega)
  have q0_7 : w7.cell? ⟨w6.heap.size, 0, none⟩ = some (.int .i64 nm) := carry hb7 (by go_simp)
  have q1_7 : w7.cell? ⟨w6.heap.size, 1, none⟩ = some (.int .i64 ne) := carry hb7 (by go_simp)
  have qz_7 : w6.heap.size < w7.heap.size := by have := hb7.size; first | omega | (simp at this; omega)
  have HB_7 := Lib.hid ((by repeat (first | exact HB_6.out | refine Below.drew ?_ | refine Below.setCell ?_ (by first | omega | (simp; done) | (simp; omega)) _ | refine Below.alloc ?_ (by first | omega | (simp; done) | (simp; omega)) _) : Below w.heap.size w _).trans (hb7.mono (by first | omega | (simp; done) | (simp; omega))))
  have nz_7 : w.heap.size ≤ w7.heap.size := HB_7.out.size
  clear hb7 x0_6 x1_6 y0_6 y1_6 HB_6
  go_wp2_with fail
  refine (HAb.out _).mono ?_
  rintro e w8 ⟨rfl, hb8⟩
  have x0_8 : w8.cell? ⟨w.heap.size, 0, none⟩ = some (.int .i64 m) := carry hb8 (by go_simp)
  have x1_8 : w8.cell? ⟨w.heap.size, 1, none⟩ = some (.int .i64 e) := carry hb8 (by go_simp)
  have xz_8 : w.heap.size < w8.heap.size := by have := hb8.size; first | omega | (simp at this; omega)
  have y0_8 : w8.cell? ⟨w.heap.size + 1, 0, none⟩ = some (.int .i64 k) := carry hb8 (by go_simp)
  have y1_8 : w8.cell? ⟨w.heap.size + 1, 1, none⟩ = some (.int .i64 f) := carry hb8 (by go_simp)
  have yz_8 : w.heap.size + 1 < w8.heap.size := by have := hb8.size; first | omega | (simp at this; omega)
  have q0_8 : w8.cell? ⟨w6.heap.size, 0, none⟩ = some (.int .i64 nm) := carry hb8 (by go_simp)
  have q1_8 : w8.cell? ⟨w6.heap.size, 1, none⟩ = some (.int .i64 ne) := carry hb8 (by go_simp)
  have qz_8 : w6.heap.size < w8.heap.size := by have := hb8.size; first | omega | (simp at this; omega)
  have g0_8 : w8.cell? ⟨w7.heap.size, 0, none⟩ = some (.int .i64 gm) := carry hb8 (by go_simp)
  have g1_8 : w8.cell? ⟨w7.heap.size, 1, none⟩ = some (.int .i64 e) := carry hb8 (by go_simp)
  have gz_8 : w7.heap.size < w8.heap.size := by have := hb8.size; first | omega | (simp at this; omega)
  have HB_8 := Lib.hid ((by repeat (first | exact HB_7.out | refine Below.drew ?_ | refine Below.setCell ?_ (by first | omega | (simp; done) | (simp; omega)) _ | refine Below.alloc ?_ (by first | omega | (simp; done) | (simp; omega)) _) : Below w.heap.size w _).trans (hb8.mono (by first | omega | (simp; done) | (simp; omega))))
  have nz_8 : w.heap.size ≤ w8.heap.size := HB_8.out.size
  clear hb8 x0_7 x1_7 y0_7 y1_7 q0_7 q1_7 HB_7
  go_wp2_with fail
  refine (HSg.out _).mono ?_
  rintro e w9 ⟨rfl, hb9⟩
  have x0_9 : w9.cell? ⟨w.heap.size, 0, none⟩ = some (.int .i64 m) := carry hb9 (by go_simp)
  have x1_9 : w9.cell? ⟨w.heap.size, 1, none⟩ = some (.int .i64 e) := carry hb9 (by go_simp)
  have xz_9 : w.heap.size < w9.heap.size := by have := hb9.size; first | omega | (simp at this; omega)
  have y0_9 : w9.cell? ⟨w.heap.size + 1, 0, none⟩ = some (.int .i64 k) := carry hb9 (by go_simp)
  have y1_9 : w9.cell? ⟨w.heap.size + 1, 1, none⟩ = some (.int .i64 f) := carry hb9 (by go_simp)
  have yz_9 : w.heap.size + 1 < w9.heap.size := by have := hb9.size; first | omega | (simp at this; omega)
  have q0_9 : w9.cell? ⟨w6.heap.size, 0, none⟩ = some (.int .i64 nm) := carry hb9 (by go_simp)
  have q1_9 : w9.cell? ⟨w6.heap.size, 1, none⟩ = some (.int .i64 ne) := carry hb9 (by go_simp)
  have qz_9 : w6.heap.size < w9.heap.size := by have := hb9.size; first | omega | (simp at this; omega)
  have g0_9 : w9.cell? ⟨w7.heap.size, 0, none⟩ = some (.int .i64 gm) := carry hb9 (by go_simp)
  have g1_9 : w9.cell? ⟨w7.heap.size, 1, none⟩ = some (.int .i64 e) := carry hb9 (by go_simp)
  have gz_9 : w7.heap.size < w9.heap.size := by have := hb9.size; first | omega | (simp at this; omega)
  have b0_9 : w9.cell? ⟨w8.heap.size, 0, none⟩ = some (.int .i64 m) := carry hb9 (by go_simp)
  have b1_9 : w9.cell? ⟨w8.heap.size, 1, none⟩ = some (.int .i64 e) := carry hb9 (by go_simp)
  have bz_9 : w8.heap.size < w9.heap.size := by have := hb9.size; first | omega | (simp at this; omega)
  have HB_9 := Lib.hid ((by repeat (first | exact HB_8.out | refine Below.drew ?_ | refine Below.setCell ?_ (by first | omega | (simp; done) | (simp; omega)) _ | refine Below.alloc ?_ (by first | omega | (simp; done) | (simp; omega)) _) : Below w.heap.size w _).trans (hb9.mono (by first | omega | (simp; done) | (simp; omega))))
  have nz_9 : w.heap.size ≤ w9.heap.size := HB_9.out.size
  clear hb9 x0_8 x1_8 y0_8 y1_8 q0_8 q1_8 g0_8 g1_8 HB_8
  go_wp2_with fail
  refine (HCm.out _).mono ?_
  rintro e w10 ⟨rfl, hb10⟩
  have x0_10 : w10.cell? ⟨w.heap.size, 0, none⟩ = some (.int .i64 m) := carry hb10 (by go_simp)
  have x1_10 : w10.cell? ⟨w.heap.size, 1, none⟩ = some (.int .i64 e) := carry hb10 (by go_simp)
  have xz_10 : w.heap.size < w10.heap.size := by have := hb10.size; first | omega | (simp at this; omega)
  have y0_10 : w10.cell? ⟨w.heap.size + 1, 0, none⟩ = some (.int .i64 k) := carry hb10 (by go_simp)
  have y1_10 : w10.cell? ⟨w.heap.size + 1, 1, none⟩ = some (.int .i64 f) := carry hb10 (by go_simp)
  have yz_10 : w.heap.size + 1 < w10.heap.size := by have := hb10.size; first | omega | (simp at this; omega)
  have q0_10 : w10.cell? ⟨w6.heap.size, 0, none⟩ = some (.int .i64 nm) := carry hb10 (by go_simp)
  have q1_10 : w10.cell? ⟨w6.heap.size, 1, none⟩ = some (.int .i64 ne) := carry hb10 (by go_simp)
  have qz_10 : w6.heap.size < w10.heap.size := by have := hb10.size; first | omega | (simp at this; omega)
  have g0_10 : w10.cell? ⟨w7.heap.size, 0, none⟩ = some (.int .i64 gm) := carry hb10 (by go_simp)
  have g1_10 : w10.cell? ⟨w7.heap.size, 1, none⟩ = some (.int .i64 e) := carry hb10 (by go_simp)
  have gz_10 : w7.heap.size < w10.heap.size := by have := hb10.size; first | omega | (simp at this; omega)
  have b0_10 : w10.cell? ⟨w8.heap.size, 0, none⟩ = some (.int .i64 m) := carry hb10 (by go_simp)
  have b1_10 : w10.cell? ⟨w8.heap.size, 1, none⟩ = some (.int .i64 e) := carry hb10 (by go_simp)
  have bz_10 : w8.heap.size < w10.heap.size := by have := hb10.size; first | omega | (simp at this; omega)
  have HB_10 := Lib.hid ((by repeat (first | exact HB_9.out | refine Below.drew ?_ | refine Below.setCell ?_ (by first | omega | (simp; done) | (simp; omega)) _ | refine Below.alloc ?_ (by first | omega | (simp; done) | (simp; omega)) _) : Below w.heap.size w _).trans (hb10.mono (by first | omega | (simp; done) | (simp; omega))))
  have nz_10 : w.heap.size ≤ w10.heap.size := HB_10.out.size
  clear hb10 x0_9 x1_9 y0_9 y1_9 q0_9 q1_9 g0_9 g1_9 b0_9 b1_9 HB_9
  go_wp2_with fail
  refine (HVx.out _).mono ?_
  rintro e w11 ⟨rfl, hb11⟩
  have x0_11 : w11.cell? ⟨w.heap.size, 0, none⟩ = some (.int .i64 m) := carry hb11 (by go_simp)
  have x1_11 : w11.cell? ⟨w.heap.size, 1, none⟩ = some (.int .i64 e) := carry hb11 (by go_simp)
  have xz_11 : w.heap.size < w11.heap.size := by have := hb11.size; first | omega | (simp at this; omega)
  have y0_11 : w11.cell? ⟨w.heap.size + 1, 0, none⟩ = some (.int .i64 k) := carry hb11 (by go_simp)
  have y1_11 : w11.cell? ⟨w.heap.size + 1, 1, none⟩ = some (.int .i64 f) := carry hb11 (by go_simp)
  have yz_11 : w.heap.size + 1 < w11.heap.size := by have := hb11.size; first | omega | (simp at this; omega)
  have q0_11 : w11.cell? ⟨w6.heap.size, 0, none⟩ = some (.int .i64 nm) := carry hb11 (by go_simp)
  have q1_11 : w11.cell? ⟨w6.heap.size, 1, none⟩ = some (.int .i64 ne) := carry hb11 (by go_simp)
  have qz_11 : w6.heap.size < w11.heap.size := by have := hb11.size; first | omega | (simp at this; omega)
  have g0_11 : w11.cell? ⟨w7.heap.size, 0, none⟩ = some (.int .i64 gm) := carry hb11 (by go_simp)
  have g1_11 : w11.cell? ⟨w7.heap.size, 1, none⟩ = some (.int .i64 e) := carry hb11 (by go_simp)
  have gz_11 : w7.heap.size < w11.heap.size := by have := hb11.size; first | omega | (simp at this; omega)
  have b0_11 : w11.cell? ⟨w8.heap.size, 0, none⟩ = some (.int .i64 m) := carry hb11 (by go_simp)
  have b1_11 : w11.cell? ⟨w8.heap.size, 1, none⟩ = some (.int .i64 e) := carry hb11 (by go_simp)
  have bz_11 : w8.heap.size < w11.heap.size := by have := hb11.size; first | omega | (simp at this; omega)
  have HB_11 := Lib.hid ((by repeat (first | exact HB_10.out | refine Below.drew ?_ | refine Below.setCell ?_ (by first | omega | (simp; done) | (simp; omega)) _ | refine Below.alloc ?_ (by first | omega | (simp; done) | (simp; omega)) _) : Below w.heap.size w _).trans (hb11.mono (by first | omega | (simp; done) | (simp; omega))))
  have nz_11 : w.heap.size ≤ w11.heap.size := HB_11.out.size
  clear hb11 x0_10 x1_10 y0_10 y1_10 q0_10 q1_10 g0_10 g1_10 b0_10 b1_10 HB_10
  go_wp2_with fail
  refine (HVy.out _).mono ?_
  rintro e w12 ⟨rfl, hb12⟩
  have x0_12 : w12.cell? ⟨w.heap.size, 0, none⟩ = some (.int .i64 m) := carry hb12 (by go_simp)
  have x1_12 : w12.cell? ⟨w.heap.size, 1, none⟩ = some (.int .i64 e) := carry hb12 (by go_simp)
  have xz_12 : w.heap.size < w12.heap.size := by have := hb12.size; first | omega | (simp at this; omega)
  have y0_12 : w12.cell? ⟨w.heap.size + 1, 0, none⟩ = some (.int .i64 k) := carry hb12 (by go_simp)
  have y1_12 : w12.cell? ⟨w.heap.size + 1, 1, none⟩ = some (.int .i64 f) := carry hb12 (by go_simp)
  have yz_12 : w.heap.size + 1 < w12.heap.size := by have := hb12.size; first | omega | (simp at this; omega)
  have q0_12 : w12.cell? ⟨w6.heap.size, 0, none⟩ = some (.int .i64 nm) := carry hb12 (by go_simp)
  have q1_12 : w12.cell? ⟨w6.heap.size, 1, none⟩ = some (.int .i64 ne) := carry hb12 (by go_simp)
  have qz_12 : w6.heap.size < w12.heap.size := by have := hb12.size; first | omega | (simp at this; omega)
  have g0_12 : w12.cell? ⟨w7.heap.size, 0, none⟩ = some (.int .i64 gm) := carry hb12 (by go_simp)
  have g1_12 : w12.cell? ⟨w7.heap.size, 1, none⟩ = some (.int .i64 e) := carry hb12 (by go_simp)
  have gz_12 : w7.heap.size < w12.heap.size := by have := hb12.size; first | omega | (simp at this; omega)
  have b0_12 : w12.cell? ⟨w8.heap.size, 0, none⟩ = some (.int .i64 m) := carry hb12 (by go_simp)
  have b1_12 : w12.cell? ⟨w8.heap.size, 1, none⟩ = some (.int .i64 e) := carry hb12 (by go_simp)
  have bz_12 : w8.heap.size < w12.heap.size := by have := hb12.size; first | omega | (simp at this; omega)
  have HB_12 := Lib.hid ((by repeat (first | exact HB_11.out | refine Below.drew ?_ | refine Below.setCell ?_ (by first | omega | (simp; done) | (simp; omega)) _ | refine Below.alloc ?_ (by first | omega | (simp; done) | (simp; omega)) _) : Below w.heap.size w _).trans (hb12.mono (by first | omega | (simp; done) | (simp; omega))))
  have nz_12 : w.heap.size ≤ w12.heap.size := HB_12.out.size
  clear hb12 x0_11 x1_11 y0_11 y1_11 q0_11 q1_11 g0_11 g1_11 b0_11 b1_11 HB_11
  go_wp2_with fail
  refine (HVy.out _).mono ?_
  rintro e w13 ⟨rfl, hb13⟩
  have x0_13 : w13.cell? ⟨w.heap.size, 0, none⟩ = some (.int .i64 m) := carry hb13 (by go_simp)
  have x1_13 : w13.cell? ⟨w.heap.size, 1, none⟩ = some (.int .i64 e) := carry hb13 (by go_simp)
  have xz_13 : w.heap.size < w13.heap.size := by have := hb13.size; first | omega | (simp at this; omega)
  have y0_13 : w13.cell? ⟨w.heap.size + 1, 0, none⟩ = some (.int .i64 k) := carry hb13 (by go_simp)
  have y1_13 : w13.cell? ⟨w.heap.size + 1, 1, none⟩ = some (.int .i64 f) := carry hb13 (by go_simp)
  have yz_13 : w.heap.size + 1 < w13.heap.size := by have := hb13.size; first | omega | (simp at this; omega)
  have q0_13 : w13.cell? ⟨w6.heap.size, 0, none⟩ = some (.int .i64 nm) := carry hb13 (by go_simp)
  have q1_13 : w13.cell? ⟨w6.heap.size, 1, none⟩ = some (.int .i64 ne) := carry hb13 (by go_simp)
  have qz_13 : w6.heap.size < w13.heap.size := by have := hb13.size; first | omega | (simp at this; omega)
  have g0_13 : w13.cell? ⟨w7.heap.size, 0, none⟩ = some (.int .i64 gm) := carry hb13 (by go_simp)
  have g1_13 : w13.cell? ⟨w7.heap.size, 1, none⟩ = some (.int .i64 e) := carry hb13 (by go_simp)
  have gz_13 : w7.heap.size < w13.heap.size := by have := hb13.size; first | omega | (simp at this; omega)
  have b0_13 : w13.cell? ⟨w8.heap.size, 0, none⟩ = some (.int .i64 m) := carry hb13 (by go_simp)
  have b1_13 : w13.cell? ⟨w8.heap.size, 1, none⟩ = some (.int .i64 e) := carry hb13 (by go_simp)
  have bz_13 : w8.heap.size < w13.heap.size := by have := hb13.size; first | omega | (simp at this; omega)
  have HB_13 := Lib.hid ((by repeat (first | exact HB_12.out | refine Below.drew ?_ | refine Below.setCell ?_ (by first | omega | (simp; done) | (simp; omega)) _ | refine Below.alloc ?_ (by first | omega | (simp; done) | (simp; omega)) _) : Below w.heap.size w _).trans (hb13.mono (by first | omega | (simp; done) | (simp; omega))))
  have nz_13 : w.heap.size ≤ w13.heap.size := HB_13.out.size
  clear hb13 x0_12 x1_12 y0_12 y1_12 q0_12 q1_12 g0_12 g1_12 b0_12 b1_12 HB_12
  go_wp2_with fail
  generalize hW : w13.alloc _ = w14
  have x0_14 : w14.cell? ⟨w.heap.size, 0, none⟩ = some (.int .i64 m) := by rw [← hW]; clear hW; go_simp
  have x1_14 : w14.cell? ⟨w.heap.size, 1, none⟩ = some (.int .i64 e) := by rw [← hW]; clear hW; go_simp
  have xz_14 : w.heap.size < w14.heap.size := by rw [← hW]; clear hW; simp <;> omega
  have q0_14 : w14.cell? ⟨w6.heap.size, 0, none⟩ = some (.int .i64 nm) := by rw [← hW]; clear hW; go_simp
  have q1_14 : w14.cell? ⟨w6.heap.size, 1, none⟩ = some (.int .i64 ne) := by rw [← hW]; clear hW; go_simp
  have qz_14 : w6.heap.size < w14.heap.size := by rw [← hW]; clear hW; simp <;> omega
  have g0_14 : w14.cell? ⟨w7.heap.size, 0, none⟩ = some (.int .i64 gm) := by rw [← hW]; clear hW; go_simp
  have g1_14 : w14.cell? ⟨w7.heap.size, 1, none⟩ = some (.int .i64 e) := by rw [← hW]; clear hW; go_simp
  have gz_14 : w7.heap.size < w14.heap.size := by rw [← hW]; clear hW; simp <;> omega
  have b0_14 : w14.cell? ⟨w8.heap.size, 0, none⟩ = some (.int .i64 m) := by rw [← hW]; clear hW; go_simp
  have b1_14 : w14.cell? ⟨w8.heap.size, 1, none⟩ = some (.int .i64 e) := by rw [← hW]; clear hW; go_simp
  have bz_14 : w8.heap.size < w14.heap.size := by rw [← hW]; clear hW; simp <;> omega
  have t0_14 : w14.cell? ⟨w13.heap.size, 0, none⟩ = some (.int .i64 m) := by rw [← hW]; clear hW; go_simp
  have t1_14 : w14.cell? ⟨w13.heap.size, 1, none⟩ = some (.int .i64 e) := by rw [← hW]; clear hW; go_simp
  have tz_14 : w13.heap.size < w14.heap.size := by rw [← hW]; clear hW; simp <;> omega
  have HB_14 := Lib.hid ((by rw [← hW]; clear hW; repeat (first | exact HB_13.out | refine Below.drew ?_ | refine Below.setCell ?_ (by first | omega | (simp; done) | (simp; omega)) _ | refine Below.alloc ?_ (by first | omega | (simp; done) | (simp; omega)) _)) : Below w.heap.size w w14)
  clear hW HB_13 x0_13 x1_13 y0_13 y1_13 q0_13 q1_13 g0_13 g1_13 b0_13 b1_13
  have nz_14 : w.heap.size ≤ w14.heap.size := HB_14.out.size
  have K0 := Lib.hid (Below.refl w14.heap.size w14)
  have SK := Lib.hid (show ∀ wx, Below w14.heap.size w14 wx → wx.cell? ⟨w.heap.size, 0, none⟩ = some (.int .i64 m) ∧ wx.cell? ⟨w.heap.size, 1, none⟩ = some (.int .i64 e) ∧ w.heap.size < wx.heap.size ∧ wx.cell? ⟨w6.heap.size, 0, none⟩ = some (.int .i64 nm) ∧ wx.cell? ⟨w6.heap.size, 1, none⟩ = some (.int .i64 ne) ∧ w6.heap.size < wx.heap.size ∧ wx.cell? ⟨w7.heap.size, 0, none⟩ = some (.int .i64 gm) ∧ wx.cell? ⟨w7.heap.size, 1, none⟩ = some (.int .i64 e) ∧ w7.heap.size < wx.heap.size ∧ wx.cell? ⟨w8.heap.size, 0, none⟩ = some (.int .i64 m) ∧ wx.cell? ⟨w8.heap.size, 1, none⟩ = some (.int .i64 e) ∧ w8.heap.size < wx.heap.size ∧ wx.cell? ⟨w13.heap.size, 0, none⟩ = some (.int .i64 m) ∧ wx.cell? ⟨w13.heap.size, 1, none⟩ = some (.int .i64 e) ∧ w13.heap.size < wx.heap.size ∧ Below w14.heap.size w14 wx from fun wx h => ⟨carry h x0_14, carry h x1_14, Nat.lt_of_lt_of_le xz_14 h.size, carry h q0_14, carry h q1_14, Nat.lt_of_lt_of_le qz_14 h.size, carry h g0_14, carry h g1_14, Nat.lt_of_lt_of_le gz_14 h.size, carry h b0_14, carry h b1_14, Nat.lt_of_lt_of_le bz_14 h.size, carry h t0_14, carry h t1_14, Nat.lt_of_lt_of_le tz_14 h.size, h⟩)
  go_wp2_with fail
  go_region_held3 (fun wx => wx.cell? ⟨w.heap.size, 0, none⟩ = some (.int .i64 m) ∧ wx.cell? ⟨w.heap.size, 1, none⟩ = some (.int .i64 e) ∧ w.heap.size < wx.heap.size ∧ wx.cell? ⟨w6.heap.size, 0, none⟩ = some (.int .i64 nm) ∧ wx.cell? ⟨w6.heap.size, 1, none⟩ = some (.int .i64 ne) ∧ w6.heap.size < wx.heap.size ∧ wx.cell? ⟨w7.heap.size, 0, none⟩ = some (.int .i64 gm) ∧ wx.cell? ⟨w7.heap.size, 1, none⟩ = some (.int .i64 e) ∧ w7.heap.size < wx.heap.size ∧ wx.cell? ⟨w8.heap.size, 0, none⟩ = some (.int .i64 m) ∧ wx.cell? ⟨w8.heap.size, 1, none⟩ = some (.int .i64 e) ∧ w8.heap.size < wx.heap.size ∧ wx.cell? ⟨w13.heap.size, 0, none⟩ = some (.int .i64 m) ∧ wx.cell? ⟨w13.heap.size, 1, none⟩ = some (.int .i64 e) ∧ w13.heap.size < wx.heap.size ∧ Below w14.heap.size w14 wx) (first | (go_keep; done) | exact SK.out _ (by first | with_reducible assumption | with_reducible exact K0.out | with_reducible exact K0.out.drew | with_reducible exact Below.drew (by with_reducible assumption)))
    (first
      | (go_at_call 23; ((with_reducible refine (HRI.out _).mono ?_); rintro r wq ⟨rfl, hbq⟩; have qb : Below w14.heap.size w14 wq := Below.trans (by first | with_reducible assumption | with_reducible exact K0.out | with_reducible exact K0.out.drew | with_reducible exact Below.drew (by with_reducible assumption)) (hbq.mono (Below.size (by first | with_reducible assumption | with_reducible exact K0.out | with_reducible exact K0.out.drew | with_reducible exact Below.drew (by with_reducible assumption))))))
      | (go_at_call 22; ((with_reducible refine (HRN.out _).mono ?_); rintro r wq ⟨rfl, hbq⟩; have qb : Below w14.heap.size w14 wq := Below.trans (by first | with_reducible assumption | with_reducible exact K0.out | with_reducible exact K0.out.drew | with_reducible exact Below.drew (by with_reducible assumption)) (hbq.mono (Below.size (by first | with_reducible assumption | with_reducible exact K0.out | with_reducible exact K0.out.drew | with_reducible exact Below.drew (by with_reducible assumption))))))
      | (go_at_call 8; ((with_reducible refine (HY.out _ _ _).mono ?_); rintro r wq ⟨rfl, hbq⟩; have qb : Below w14.heap.size w14 wq := Below.trans (by first | with_reducible assumption | with_reducible exact K0.out | with_reducible exact K0.out.drew | with_reducible exact Below.drew (by with_reducible assumption)) (hbq.mono (Below.size (by first | with_reducible assumption | with_reducible exact K0.out | with_reducible exact K0.out.drew | with_reducible exact Below.drew (by with_reducible assumption))))))
      | (go_at_call 24; ((with_reducible refine (HRC.out _).mono ?_); rintro r wq ⟨rfl, hbq⟩; have qb : Below w14.heap.size w14 wq := Below.trans (by first | with_reducible assumption | with_reducible exact K0.out | with_reducible exact K0.out.drew | with_reducible exact Below.drew (by with_reducible assumption)) (hbq.mono (Below.size (by first | with_reducible assumption | with_reducible exact K0.out | with_reducible exact K0.out.drew | with_reducible exact Below.drew (by with_reducible assumption)))))))
  rename _ ∧ _ ∧ _ ∧ _ ∧ _ ∧ _ ∧ _ ∧ _ ∧ _ ∧ _ ∧ _ ∧ _ ∧ _ ∧ _ ∧ _ ∧ Below w14.heap.size w14 _ => hS
  obtain ⟨w15, rfl⟩ : ∃ x, x = wq := ⟨_, rfl⟩
  obtain ⟨x0_15, x1_15, xz_15, q0_15, q1_15, qz_15, g0_15, g1_15, gz_15, b0_15, b1_15, bz_15, t0_15, t1_15, tz_15, xb⟩ := hS
  have HB_15 := Lib.hid (HB_14.out.trans (xb.mono HB_14.out.size))
  clear xb HB_14 K0 SK x0_14 x1_14 q0_14 q1_14 g0_14 g1_14 b0_14 b1_14 t0_14 t1_14
  have nz_15 : w.heap.size ≤ w15.heap.size := HB_15.out.size
  have K0 := Lib.hid (Below.refl w15.heap.size w15)
  have SK := Lib.hid (show ∀ wx, Below w15.heap.size w15 wx → wx.cell? ⟨w6.heap.size, 0, none⟩ = some (.int .i64 nm) ∧ wx.cell? ⟨w6.heap.size, 1, none⟩ = some (.int .i64 ne) ∧ w6.heap.size < wx.heap.size from fun wx h => ⟨carry h q0_15, carry h q1_15, Nat.lt_of_lt_of_le qz_15 h.size⟩)
  go_wp2_with fail
  go_region_held3 (fun wx => wx.cell? ⟨w6.heap.size, 0, none⟩ = some (.int .i64 nm) ∧ wx.cell? ⟨w6.heap.size, 1, none⟩ = some (.int .i64 ne) ∧ w6.heap.size < wx.heap.size) (first | (go_keep; done) | exact SK.out _ (by first | with_reducible assumption | with_reducible exact K0.out | with_reducible exact K0.out.drew | with_reducible exact Below.drew (by with_reducible assumption)))
    (first
      | (go_at_call 20; ((with_reducible refine (HSan.out _ (HB_15.out.trans (Below.mono (by first | with_reducible assumption | with_reducible exact K0.out | with_reducible exact K0.out.drew | with_reducible exact Below.drew (by with_reducible assumption)) nz_15))).mono ?_); rintro r wq ⟨rfl, hbq⟩; have qb : Below w15.heap.size w15 wq := Below.trans (by first | with_reducible assumption | with_reducible exact K0.out | with_reducible exact K0.out.drew | with_reducible exact Below.drew (by with_reducible assumption)) (hbq.mono (Below.size (by first | with_reducible assumption | with_reducible exact K0.out | with_reducible exact K0.out.drew | with_reducible exact Below.drew (by with_reducible assumption))))))
      | (go_at_call 9; ((with_reducible refine (HRA.out _).mono ?_); rintro r wq ⟨rfl, hbq⟩; have qb : Below w15.heap.size w15 wq := Below.trans (by first | with_reducible assumption | with_reducible exact K0.out | with_reducible exact K0.out.drew | with_reducible exact Below.drew (by with_reducible assumption)) (hbq.mono (Below.size (by first | with_reducible assumption | with_reducible exact K0.out | with_reducible exact K0.out.drew | with_reducible exact Below.drew (by with_reducible assumption))))))
      | (go_at_call 8; ((with_reducible refine (HY.out _ _ _).mono ?_); rintro r wq ⟨rfl, hbq⟩; have qb : Below w15.heap.size w15 wq := Below.trans (by first | with_reducible assumption | with_reducible exact K0.out | with_reducible exact K0.out.drew | with_reducible exact Below.drew (by with_reducible assumption)) (hbq.mono (Below.size (by first | with_reducible assumption | with_reducible exact K0.out | with_reducible exact K0.out.drew | with_reducible exact Below.drew (by with_reducible assumption)))))))
  go_wp2_with fail
  go_ret
  exact ⟨rfl, HB_15.out.trans (qb.mono nz_15)⟩

set_option maxRecDepth 100000 in
set_option maxHeartbeats 8000000 in
theorem negG (m e k f i0 n0 am ae ax fm fe i nm ne gm s c : Int) (w : World) (HAt : Hid (∀ W : World, Calls Tryz.prog 7 #[.int .i64 i0] W fun r w' => r = .returned (rE am ae ax) ∧ Below W.heap.size W w')) (HF : Hid (-2533359615 ≤ i0 ∧ i0 ≤ 2533359615 → ax = 0 ∧ ∀ W : World, Calls Tryz.prog 9 #[.int .i64 i0] W fun r w' => r = .returned (realV am ae) ∧ Below W.heap.size W w')) (HG : Hid (¬ (-2533359615 ≤ i0 ∧ i0 ≤ 2533359615) → ax = 1 ∧ am = 0 ∧ ae = 0)) (HY : Hid (∀ (a b : Int) (W : World), Calls Tryz.prog 8 #[realV a b, .int .i64 0, realV a b] W fun r w' => r = .returned (.bool true) ∧ Below W.heap.size W w')) (HFI : Hid (∀ W : World, Calls Tryz.prog 10 #[.int .i64 n0] W fun r w' => r = .returned (realV fm fe) ∧ Below W.heap.size W w')) (HRF : Hid (∀ W : World, Calls Tryz.prog 11 #[.int .i64 n0] W fun r w' => r = .returned (realV fm fe) ∧ Below W.heap.size W w')) (HV : Hid (∀ W : World, Calls Tryz.prog 12 #[realV m e] W fun r w' => r = .returned (.bool true) ∧ Below W.heap.size W w')) (HVx : Hid (∀ W : World, Calls Tryz.prog 13 #[realV m e] W fun r w' => r = .returned (.bool true) ∧ Below W.heap.size W w')) (HVy : Hid (∀ W : World, Calls Tryz.prog 13 #[realV k f] W fun r w' => r = .returned (.bool true) ∧ Below W.heap.size W w')) (HIx : Hid (∀ W : World, Calls Tryz.prog 14 #[realV m e] W fun r w' => r = .returned (iE i 0) ∧ Below W.heap.size W w')) (HNx : Hid (∀ W : World, Calls Tryz.prog 15 #[realV m e] W fun r w' => r = .returned (rE nm ne 0) ∧ Below W.heap.size W w')) (HNg : Hid (∀ W : World, Calls Tryz.prog 16 #[realV m e] W fun r w' => r = .returned (rE gm e 0) ∧ Below W.heap.size W w')) (HAb : Hid (∀ W : World, Calls Tryz.prog 17 #[realV m e] W fun r w' => r = .returned (rE gm e 0) ∧ Below W.heap.size W w')) (HSg : Hid (∀ W : World, Calls Tryz.prog 18 #[realV m e] W fun r w' => r = .returned (iE s 0) ∧ Below W.heap.size W w')) (HCm : Hid (∀ W : World, Calls Tryz.prog 19 #[realV m e, realV k f] W fun r w' => r = .returned (iE c 0) ∧ Below W.heap.size W w')) (HSan : Hid (∀ W, Below w.heap.size w W → Calls Tryz.prog 20 #[] W fun r W' => r = .returned (.bool true) ∧ Below W.heap.size W W')) (HRI : Hid (∀ W : World, Calls Tryz.prog 23 #[realV m e] W fun r w' => r = .returned (.int .i64 i) ∧ Below W.heap.size W w')) (HRN : Hid (∀ W : World, Calls Tryz.prog 22 #[realV m e] W fun r w' => r = .returned (realV gm e) ∧ Below W.heap.size W w')) (HRC : Hid (∀ W : World, Calls Tryz.prog 24 #[.int .i64 m, .int .i64 0] W fun r w' => r = .returned (.int .i64 s) ∧ Below W.heap.size W w')) (HRM : Hid (∀ W : World, Calls Tryz.prog 21 #[realV m e, realV k f] W fun r w' => r = .returned (.int .i64 c) ∧ Below W.heap.size W w')) (hm : m < 0) (hi : (i == 2533359615) = false) (hw : IntKind.i64.wrap (i + 1) = i + 1) (HRA : Hid (∀ W : World, Calls Tryz.prog 9 #[.int .i64 (i + 1)] W fun r w' => r = .returned (realV nm ne) ∧ Below W.heap.size W w'))  :
    Calls Tryz.prog 3 #[realV m e, realV k f, .int .i64 i0, .int .i64 n0] w fun r w' => r = .returned (.bool true) ∧ Below w.heap.size w w' := by
  obtain ⟨tt, htt⟩ : ∃ tt : Bool, tt = decide (-2533359615 ≤ i0 ∧ i0 ≤ 2533359615) := ⟨_, rfl⟩
  have HT := Lib.hid htt
  clear htt
  go_enter Tryz.func3, Tryz.ntmps3
  go_wp2_with fail
  refine (HAt.out _).mono ?_
  rintro e w1 ⟨rfl, hb1⟩
  have x0_1 : w1.cell? ⟨w.heap.size, 0, none⟩ = some (.int .i64 m) := carry hb1 (by go_simp)
  have x1_1 : w1.cell? ⟨w.heap.size, 1, none⟩ = some (.int .i64 e) := carry hb1 (by go_simp)
  have xz_1 : w.heap.size < w1.heap.size := by have := hb1.size; first | omega | (simp at this; omega)
  have y0_1 : w1.cell? ⟨w.heap.size + 1, 0, none⟩ = some (.int .i64 k) := carry hb1 (by go_simp)
  have y1_1 : w1.cell? ⟨w.heap.size + 1, 1, none⟩ = some (.int .i64 f) := carry hb1 (by go_simp)
  have yz_1 : w.heap.size + 1 < w1.heap.size := by have := hb1.size; first | omega | (simp at this; omega)
  have HB_1 := Lib.hid ((by repeat (first | exact Below.refl _ _ | refine Below.drew ?_ | refine Below.setCell ?_ (by first | omega | (simp; done) | (simp; omega)) _ | refine Below.alloc ?_ (by first | omega | (simp; done) | (simp; omega)) _) : Below w.heap.size w _).trans (hb1.mono (by first | omega | (simp; done) | (simp; omega))))
  have nz_1 : w.heap.size ≤ w1.heap.size := HB_1.out.size
  clear hb1
  go_upto_region 2 with fail
  generalize hW : w1.alloc _ = w2
  have x0_2 : w2.cell? ⟨w.heap.size, 0, none⟩ = some (.int .i64 m) := by rw [← hW]; clear hW; go_simp
  have x1_2 : w2.cell? ⟨w.heap.size, 1, none⟩ = some (.int .i64 e) := by rw [← hW]; clear hW; go_simp
  have xz_2 : w.heap.size < w2.heap.size := by rw [← hW]; clear hW; simp <;> omega
  have y0_2 : w2.cell? ⟨w.heap.size + 1, 0, none⟩ = some (.int .i64 k) := by rw [← hW]; clear hW; go_simp
  have y1_2 : w2.cell? ⟨w.heap.size + 1, 1, none⟩ = some (.int .i64 f) := by rw [← hW]; clear hW; go_simp
  have yz_2 : w.heap.size + 1 < w2.heap.size := by rw [← hW]; clear hW; simp <;> omega
  have a0_2 : w2.cell? ⟨w1.heap.size, 0, none⟩ = some (.int .i64 am) := by rw [← hW]; clear hW; go_simp
  have a1_2 : w2.cell? ⟨w1.heap.size, 1, none⟩ = some (.int .i64 ae) := by rw [← hW]; clear hW; go_simp
  have az_2 : w1.heap.size < w2.heap.size := by rw [← hW]; clear hW; simp <;> omega
  have HB_2 := Lib.hid (show Below w.heap.size w w2 by rw [← hW]; exact Below.alloc HB_1.out (by have := HB_1.out.size; omega) _)
  clear hW HB_1 x0_1 x1_1 y0_1 y1_1
  have nz_2 : w.heap.size ≤ w2.heap.size := HB_2.out.size
  go_cut [33] from 28 to 33 (fun s wx => s = .bool tt ∧ w2 = wx)
  case first =>
    by_cases h1 : -2533359615 ≤ i0
    · by_cases h2 : i0 ≤ 2533359615
      · go_wp2_with fail
        go_meet
        case rel => exact ⟨by rw [HT.out]; simp [h1, h2], rfl⟩
      · have h3 : decide (i0 ≤ 2533359615) = false := by simpa using h2
        go_wp2_with fail
        go_meet
        case rel => exact ⟨by rw [HT.out]; simp [h2], rfl⟩
    · have h3 : decide (-2533359615 ≤ i0) = false := by simpa using h1
      have h4 : decide (-2533359615 ≤ i0 ∧ i0 ≤ 2533359615) = false := decide_eq_false (fun h => h1 h.1)
      go_wp2_with fail
      go_meet
      case rel => exact ⟨by rw [HT.out, h4], rfl⟩
  case rest =>
  obtain ⟨rfl, rfl⟩ := hcut
  go_upto_if 33 with fail
  go_cut [9, 10] from 34 to 46 (fun p q wx => wx.cell? ⟨w.heap.size, 0, none⟩ = some (.int .i64 m) ∧ wx.cell? ⟨w.heap.size, 1, none⟩ = some (.int .i64 e) ∧ w.heap.size < wx.heap.size ∧ wx.cell? ⟨w.heap.size + 1, 0, none⟩ = some (.int .i64 k) ∧ wx.cell? ⟨w.heap.size + 1, 1, none⟩ = some (.int .i64 f) ∧ w.heap.size + 1 < wx.heap.size ∧ Below w.heap.size w wx)
  case first =>
    cases tt
    · obtain ⟨rfl, rfl, rfl⟩ := HG.out (of_decide_eq_false HT.out.symm)
      go_wp2_with fail
      go_meet
      case rel => exact ⟨x0_2, x1_2, xz_2, y0_2, y1_2, yz_2, HB_2.out⟩
    · obtain ⟨rfl, HRAt⟩ := HF.out (of_decide_eq_true HT.out.symm)
      have K0 := Lib.hid (Below.refl w2.heap.size w2)
      have SK := Lib.hid (show ∀ wx, Below w2.heap.size w2 wx → wx.cell? ⟨w.heap.size, 0, none⟩ = some (.int .i64 m) ∧ wx.cell? ⟨w.heap.size, 1, none⟩ = some (.int .i64 e) ∧ w.heap.size < wx.heap.size ∧ wx.cell? ⟨w.heap.size + 1, 0, none⟩ = some (.int .i64 k) ∧ wx.cell? ⟨w.heap.size + 1, 1, none⟩ = some (.int .i64 f) ∧ w.heap.size + 1 < wx.heap.size ∧ wx.cell? ⟨w1.heap.size, 0, none⟩ = some (.int .i64 am) ∧ wx.cell? ⟨w1.heap.size, 1, none⟩ = some (.int .i64 ae) ∧ w1.heap.size < wx.heap.size ∧ Below w2.heap.size w2 wx from fun wx h => ⟨carry h x0_2, carry h x1_2, Nat.lt_of_lt_of_le xz_2 h.size, carry h y0_2, carry h y1_2, Nat.lt_of_lt_of_le yz_2 h.size, carry h a0_2, carry h a1_2, Nat.lt_of_lt_of_le az_2 h.size, h⟩)
      go_wp2_with fail
      go_region_held3 (fun wx => wx.cell? ⟨w.heap.size, 0, none⟩ = some (.int .i64 m) ∧ wx.cell? ⟨w.heap.size, 1, none⟩ = some (.int .i64 e) ∧ w.heap.size < wx.heap.size ∧ wx.cell? ⟨w.heap.size + 1, 0, none⟩ = some (.int .i64 k) ∧ wx.cell? ⟨w.heap.size + 1, 1, none⟩ = some (.int .i64 f) ∧ w.heap.size + 1 < wx.heap.size ∧ wx.cell? ⟨w1.heap.size, 0, none⟩ = some (.int .i64 am) ∧ wx.cell? ⟨w1.heap.size, 1, none⟩ = some (.int .i64 ae) ∧ w1.heap.size < wx.heap.size ∧ Below w2.heap.size w2 wx) (first | (go_keep; done) | exact SK.out _ (by first | with_reducible assumption | with_reducible exact K0.out | with_reducible exact K0.out.drew | with_reducible exact Below.drew (by with_reducible assumption)))
        (first
          | (go_at_call 9; ((with_reducible refine (HRAt _).mono ?_); rintro r wq ⟨rfl, hbq⟩; have qb : Below w2.heap.size w2 wq := Below.trans (by first | with_reducible assumption | with_reducible exact K0.out | with_reducible exact K0.out.drew | with_reducible exact Below.drew (by with_reducible assumption)) (hbq.mono (Below.size (by first | with_reducible assumption | with_reducible exact K0.out | with_reducible exact K0.out.drew | with_reducible exact Below.drew (by with_reducible assumption))))))
          | (go_at_call 8; ((with_reducible refine (HY.out _ _ _).mono ?_); rintro r wq ⟨rfl, hbq⟩; have qb : Below w2.heap.size w2 wq := Below.trans (by first | with_reducible assumption | with_reducible exact K0.out | with_reducible exact K0.out.drew | with_reducible exact Below.drew (by with_reducible assumption)) (hbq.mono (Below.size (by first | with_reducible assumption | with_reducible exact K0.out | with_reducible exact K0.out.drew | with_reducible exact Below.drew (by with_reducible assumption)))))))
      rename _ ∧ _ ∧ _ ∧ _ ∧ _ ∧ _ ∧ _ ∧ _ ∧ _ ∧ Below w2.heap.size w2 _ => hS
      obtain ⟨w3, rfl⟩ : ∃ x, x = wq := ⟨_, rfl⟩
      obtain ⟨x0_3, x1_3, xz_3, y0_3, y1_3, yz_3, a0_3, a1_3, az_3, xb⟩ := hS
      have HB_3 := Lib.hid (HB_2.out.trans (xb.mono HB_2.out.size))
      clear xb HB_2 K0 SK x0_2 x1_2 y0_2 y1_2 a0_2 a1_2
      have nz_3 : w.heap.size ≤ w3.heap.size := HB_3.out.size
      go_wp2_with fail
      go_meet
      case rel => exact ⟨x0_3, x1_3, xz_3, y0_3, y1_3, yz_3, HB_3.out⟩
  case rest =>
  clear HB_2 x0_2 x1_2 y0_2 y1_2 a0_2 a1_2 az_2 xz_2 yz_2
  obtain ⟨w3, rfl⟩ : ∃ x, x = wc := ⟨_, rfl⟩
  obtain ⟨x0_3, x1_3, xz_3, y0_3, y1_3, yz_3, hb9⟩ := hcut
  have HB_3 := Lib.hid hb9
  clear hb9
  have nz_3 : w.heap.size ≤ w3.heap.size := HB_3.out.size
  have K0 := Lib.hid (Below.refl w3.heap.size w3)
  have SK := Lib.hid (show ∀ wx, Below w3.heap.size w3 wx → wx.cell? ⟨w.heap.size, 0, none⟩ = some (.int .i64 m) ∧ wx.cell? ⟨w.heap.size, 1, none⟩ = some (.int .i64 e) ∧ w.heap.size < wx.heap.size ∧ wx.cell? ⟨w.heap.size + 1, 0, none⟩ = some (.int .i64 k) ∧ wx.cell? ⟨w.heap.size + 1, 1, none⟩ = some (.int .i64 f) ∧ w.heap.size + 1 < wx.heap.size ∧ Below w3.heap.size w3 wx from fun wx h => ⟨carry h x0_3, carry h x1_3, Nat.lt_of_lt_of_le xz_3 h.size, carry h y0_3, carry h y1_3, Nat.lt_of_lt_of_le yz_3 h.size, h⟩)
  go_wp2_with fail
  go_region_held3 (fun wx => wx.cell? ⟨w.heap.size, 0, none⟩ = some (.int .i64 m) ∧ wx.cell? ⟨w.heap.size, 1, none⟩ = some (.int .i64 e) ∧ w.heap.size < wx.heap.size ∧ wx.cell? ⟨w.heap.size + 1, 0, none⟩ = some (.int .i64 k) ∧ wx.cell? ⟨w.heap.size + 1, 1, none⟩ = some (.int .i64 f) ∧ w.heap.size + 1 < wx.heap.size ∧ Below w3.heap.size w3 wx) (first | (go_keep; done) | exact SK.out _ (by first | with_reducible assumption | with_reducible exact K0.out | with_reducible exact K0.out.drew | with_reducible exact Below.drew (by with_reducible assumption)))
    (first
      | (go_at_call 10; ((with_reducible refine (HFI.out _).mono ?_); rintro r wq ⟨rfl, hbq⟩; have qb : Below w3.heap.size w3 wq := Below.trans (by first | with_reducible assumption | with_reducible exact K0.out | with_reducible exact K0.out.drew | with_reducible exact Below.drew (by with_reducible assumption)) (hbq.mono (Below.size (by first | with_reducible assumption | with_reducible exact K0.out | with_reducible exact K0.out.drew | with_reducible exact Below.drew (by with_reducible assumption))))))
      | (go_at_call 11; ((with_reducible refine (HRF.out _).mono ?_); rintro r wq ⟨rfl, hbq⟩; have qb : Below w3.heap.size w3 wq := Below.trans (by first | with_reducible assumption | with_reducible exact K0.out | with_reducible exact K0.out.drew | with_reducible exact Below.drew (by with_reducible assumption)) (hbq.mono (Below.size (by first | with_reducible assumption | with_reducible exact K0.out | with_reducible exact K0.out.drew | with_reducible exact Below.drew (by with_reducible assumption))))))
      | (go_at_call 12; ((with_reducible refine (HV.out _).mono ?_); rintro r wq ⟨rfl, hbq⟩; have qb : Below w3.heap.size w3 wq := Below.trans (by first | with_reducible assumption | with_reducible exact K0.out | with_reducible exact K0.out.drew | with_reducible exact Below.drew (by with_reducible assumption)) (hbq.mono (Below.size (by first | with_reducible assumption | with_reducible exact K0.out | with_reducible exact K0.out.drew | with_reducible exact Below.drew (by with_reducible assumption))))))
      | (go_at_call 13; ((with_reducible refine (HVx.out _).mono ?_); rintro r wq ⟨rfl, hbq⟩; have qb : Below w3.heap.size w3 wq := Below.trans (by first | with_reducible assumption | with_reducible exact K0.out | with_reducible exact K0.out.drew | with_reducible exact Below.drew (by with_reducible assumption)) (hbq.mono (Below.size (by first | with_reducible assumption | with_reducible exact K0.out | with_reducible exact K0.out.drew | with_reducible exact Below.drew (by with_reducible assumption)))))))
  rename _ ∧ _ ∧ _ ∧ _ ∧ _ ∧ _ ∧ Below w3.heap.size w3 _ => hS
  obtain ⟨w4, rfl⟩ : ∃ x, x = wq := ⟨_, rfl⟩
  obtain ⟨x0_4, x1_4, xz_4, y0_4, y1_4, yz_4, xb⟩ := hS
  have HB_4 := Lib.hid (HB_3.out.trans (xb.mono HB_3.out.size))
  clear xb HB_3 K0 SK x0_3 x1_3 y0_3 y1_3
  have nz_4 : w.heap.size ≤ w4.heap.size := HB_4.out.size
  go_wp2_with fail
  refine (HIx.out _).mono ?_
  rintro e w5 ⟨rfl, hb5⟩
  have x0_5 : w5.cell? ⟨w.heap.size, 0, none⟩ = some (.int .i64 m) := carry hb5 (by go_simp)
  have x1_5 : w5.cell? ⟨w.heap.size, 1, none⟩ = some (.int .i64 e) := carry hb5 (by go_simp)
  have xz_5 : w.heap.size < w5.heap.size := by have := hb5.size; first | omega | (simp at this; omega)
  have y0_5 : w5.cell? ⟨w.heap.size + 1, 0, none⟩ = some (.int .i64 k) := carry hb5 (by go_simp)
  have y1_5 : w5.cell? ⟨w.heap.size + 1, 1, none⟩ = some (.int .i64 f) := carry hb5 (by go_simp)
  have yz_5 : w.heap.size + 1 < w5.heap.size := by have := hb5.size; first | omega | (simp at this; omega)
  have HB_5 := Lib.hid ((by repeat (first | exact HB_4.out | refine Below.drew ?_ | refine Below.setCell ?_ (by first | omega | (simp; done) | (simp; omega)) _ | refine Below.alloc ?_ (by first | omega | (simp; done) | (simp; omega)) _) : Below w.heap.size w _).trans (hb5.mono (by first | omega | (simp; done) | (simp; omega))))
  have nz_5 : w.heap.size ≤ w5.heap.size := HB_5.out.size
  clear hb5 x0_4 x1_4 y0_4 y1_4 HB_4
  go_wp2_with fail
  refine (HNx.out _).mono ?_
  rintro e w6 ⟨rfl, hb6⟩
  have x0_6 : w6.cell? ⟨w.heap.size, 0, none⟩ = some (.int .i64 m) := carry hb6 (by go_simp)
  have x1_6 : w6.cell? ⟨w.heap.size, 1, none⟩ = some (.int .i64 e) := carry hb6 (by go_simp)
  have xz_6 : w.heap.size < w6.heap.size := by have := hb6.size; first | omega | (simp at this; omega)
  have y0_6 : w6.cell? ⟨w.heap.size + 1, 0, none⟩ = some (.int .i64 k) := carry hb6 (by go_simp)
  have y1_6 : w6.cell? ⟨w.heap.size + 1, 1, none⟩ = some (.int .i64 f) := carry hb6 (by go_simp)
  have yz_6 : w.heap.size + 1 < w6.heap.size := by have := hb6.size; first | omega | (simp at this; omega)
  have HB_6 := Lib.hid ((by repeat (first | exact HB_5.out | refine Below.drew ?_ | refine Below.setCell ?_ (by first | omega | (simp; done) | (simp; omega)) _ | refine Below.alloc ?_ (by first | omega | (simp; done) | (simp; omega)) _) : Below w.heap.size w _).trans (hb6.mono (by first | omega | (simp; done) | (simp; omega))))
  have nz_6 : w.heap.size ≤ w6.heap.size := HB_6.out.size
  clear hb6 x0_5 x1_5 y0_5 y1_5 HB_5
  go_wp2_with fail
  refine (HNg.out _).mono ?_
  rintro e w7 ⟨rfl, hb7⟩
  have x0_7 : w7.cell? ⟨w.heap.size, 0, none⟩ = some (.int .i64 m) := carry hb7 (by go_simp)
  have x1_7 : w7.cell? ⟨w.heap.size, 1, none⟩ = some (.int .i64 e) := carry hb7 (by go_simp)
  have xz_7 : w.heap.size < w7.heap.size := by have := hb7.size; first | omega | (simp at this; omega)
  have y0_7 : w7.cell? ⟨w.heap.size + 1, 0, none⟩ = some (.int .i64 k) := carry hb7 (by go_simp)
  have y1_7 : w7.cell? ⟨w.heap.size + 1, 1, none⟩ = some (.int .i64 f) := carry hb7 (by go_simp)
  have yz_7 : w.heap.size + 1 < w7.heap.size := by have := hb7.size; first | omega | (simp at this; omega)
  have q0_7 : w7.cell? ⟨w6.heap.size, 0, none⟩ = some (.int .i64 nm) := carry hb7 (by go_simp)
  have q1_7 : w7.cell? ⟨w6.heap.size, 1, none⟩ = some (.int .i64 ne) := carry hb7 (by go_simp)
  have qz_7 : w6.heap.size < w7.heap.size := by have := hb7.size; first | omega | (simp at this; omega)
  have HB_7 := Lib.hid ((by repeat (first | exact HB_6.out | refine Below.drew ?_ | refine Below.setCell ?_ (by first | omega | (simp; done) | (simp; omega)) _ | refine Below.alloc ?_ (by first | omega | (simp; done) | (simp; omega)) _) : Below w.heap.size w _).trans (hb7.mono (by first | omega | (simp; done) | (simp; omega))))
  have nz_7 : w.heap.size ≤ w7.heap.size := HB_7.out.size
  clear hb7 x0_6 x1_6 y0_6 y1_6 HB_6
  go_wp2_with fail
  refine (HAb.out _).mono ?_
  rintro e w8 ⟨rfl, hb8⟩
  have x0_8 : w8.cell? ⟨w.heap.size, 0, none⟩ = some (.int .i64 m) := carry hb8 (by go_simp)
  have x1_8 : w8.cell? ⟨w.heap.size, 1, none⟩ = some (.int .i64 e) := carry hb8 (by go_simp)
  have xz_8 : w.heap.size < w8.heap.size := by have := hb8.size; first | omega | (simp at this; omega)
  have y0_8 : w8.cell? ⟨w.heap.size + 1, 0, none⟩ = some (.int .i64 k) := carry hb8 (by go_simp)
  have y1_8 : w8.cell? ⟨w.heap.size + 1, 1, none⟩ = some (.int .i64 f) := carry hb8 (by go_simp)
  have yz_8 : w.heap.size + 1 < w8.heap.size := by have := hb8.size; first | omega | (simp at this; omega)
  have q0_8 : w8.cell? ⟨w6.heap.size, 0, none⟩ = some (.int .i64 nm) := carry hb8 (by go_simp)
  have q1_8 : w8.cell? ⟨w6.heap.size, 1, none⟩ = some (.int .i64 ne) := carry hb8 (by go_simp)
  have qz_8 : w6.heap.size < w8.heap.size := by have := hb8.size; first | omega | (simp at this; omega)
  have g0_8 : w8.cell? ⟨w7.heap.size, 0, none⟩ = some (.int .i64 gm) := carry hb8 (by go_simp)
  have g1_8 : w8.cell? ⟨w7.heap.size, 1, none⟩ = some (.int .i64 e) := carry hb8 (by go_simp)
  have gz_8 : w7.heap.size < w8.heap.size := by have := hb8.size; first | omega | (simp at this; omega)
  have HB_8 := Lib.hid ((by repeat (first | exact HB_7.out | refine Below.drew ?_ | refine Below.setCell ?_ (by first | omega | (simp; done) | (simp; omega)) _ | refine Below.alloc ?_ (by first | omega | (simp; done) | (simp; omega)) _) : Below w.heap.size w _).trans (hb8.mono (by first | omega | (simp; done) | (simp; omega))))
  have nz_8 : w.heap.size ≤ w8.heap.size := HB_8.out.size
  clear hb8 x0_7 x1_7 y0_7 y1_7 q0_7 q1_7 HB_7
  go_wp2_with fail
  refine (HSg.out _).mono ?_
  rintro e w9 ⟨rfl, hb9⟩
  have x0_9 : w9.cell? ⟨w.heap.size, 0, none⟩ = some (.int .i64 m) := carry hb9 (by go_simp)
  have x1_9 : w9.cell? ⟨w.heap.size, 1, none⟩ = some (.int .i64 e) := carry hb9 (by go_simp)
  have xz_9 : w.heap.size < w9.heap.size := by have := hb9.size; first | omega | (simp at this; omega)
  have y0_9 : w9.cell? ⟨w.heap.size + 1, 0, none⟩ = some (.int .i64 k) := carry hb9 (by go_simp)
  have y1_9 : w9.cell? ⟨w.heap.size + 1, 1, none⟩ = some (.int .i64 f) := carry hb9 (by go_simp)
  have yz_9 : w.heap.size + 1 < w9.heap.size := by have := hb9.size; first | omega | (simp at this; omega)
  have q0_9 : w9.cell? ⟨w6.heap.size, 0, none⟩ = some (.int .i64 nm) := carry hb9 (by go_simp)
  have q1_9 : w9.cell? ⟨w6.heap.size, 1, none⟩ = some (.int .i64 ne) := carry hb9 (by go_simp)
  have qz_9 : w6.heap.size < w9.heap.size := by have := hb9.size; first | omega | (simp at this; omega)
  have g0_9 : w9.cell? ⟨w7.heap.size, 0, none⟩ = some (.int .i64 gm) := carry hb9 (by go_simp)
  have g1_9 : w9.cell? ⟨w7.heap.size, 1, none⟩ = some (.int .i64 e) := carry hb9 (by go_simp)
  have gz_9 : w7.heap.size < w9.heap.size := by have := hb9.size; first | omega | (simp at this; omega)
  have b0_9 : w9.cell? ⟨w8.heap.size, 0, none⟩ = some (.int .i64 gm) := carry hb9 (by go_simp)
  have b1_9 : w9.cell? ⟨w8.heap.size, 1, none⟩ = some (.int .i64 e) := carry hb9 (by go_simp)
  have bz_9 : w8.heap.size < w9.heap.size := by have := hb9.size; first | omega | (simp at this; omega)
  have HB_9 := Lib.hid ((by repeat (first | exact HB_8.out | refine Below.drew ?_ | refine Below.setCell ?_ (by first | omega | (simp; done) | (simp; omega)) _ | refine Below.alloc ?_ (by first | omega | (simp; done) | (simp; omega)) _) : Below w.heap.size w _).trans (hb9.mono (by first | omega | (simp; done) | (simp; omega))))
  have nz_9 : w.heap.size ≤ w9.heap.size := HB_9.out.size
  clear hb9 x0_8 x1_8 y0_8 y1_8 q0_8 q1_8 g0_8 g1_8 HB_8
  go_wp2_with fail
  refine (HCm.out _).mono ?_
  rintro e w10 ⟨rfl, hb10⟩
  have x0_10 : w10.cell? ⟨w.heap.size, 0, none⟩ = some (.int .i64 m) := carry hb10 (by go_simp)
  have x1_10 : w10.cell? ⟨w.heap.size, 1, none⟩ = some (.int .i64 e) := carry hb10 (by go_simp)
  have xz_10 : w.heap.size < w10.heap.size := by have := hb10.size; first | omega | (simp at this; omega)
  have y0_10 : w10.cell? ⟨w.heap.size + 1, 0, none⟩ = some (.int .i64 k) := carry hb10 (by go_simp)
  have y1_10 : w10.cell? ⟨w.heap.size + 1, 1, none⟩ = some (.int .i64 f) := carry hb10 (by go_simp)
  have yz_10 : w.heap.size + 1 < w10.heap.size := by have := hb10.size; first | omega | (simp at this; omega)
  have q0_10 : w10.cell? ⟨w6.heap.size, 0, none⟩ = some (.int .i64 nm) := carry hb10 (by go_simp)
  have q1_10 : w10.cell? ⟨w6.heap.size, 1, none⟩ = some (.int .i64 ne) := carry hb10 (by go_simp)
  have qz_10 : w6.heap.size < w10.heap.size := by have := hb10.size; first | omega | (simp at this; omega)
  have g0_10 : w10.cell? ⟨w7.heap.size, 0, none⟩ = some (.int .i64 gm) := carry hb10 (by go_simp)
  have g1_10 : w10.cell? ⟨w7.heap.size, 1, none⟩ = some (.int .i64 e) := carry hb10 (by go_simp)
  have gz_10 : w7.heap.size < w10.heap.size := by have := hb10.size; first | omega | (simp at this; omega)
  have b0_10 : w10.cell? ⟨w8.heap.size, 0, none⟩ = some (.int .i64 gm) := carry hb10 (by go_simp)
  have b1_10 : w10.cell? ⟨w8.heap.size, 1, none⟩ = some (.int .i64 e) := carry hb10 (by go_simp)
  have bz_10 : w8.heap.size < w10.heap.size := by have := hb10.size; first | omega | (simp at this; omega)
  have HB_10 := Lib.hid ((by repeat (first | exact HB_9.out | refine Below.drew ?_ | refine Below.setCell ?_ (by first | omega | (simp; done) | (simp; omega)) _ | refine Below.alloc ?_ (by first | omega | (simp; done) | (simp; omega)) _) : Below w.heap.size w _).trans (hb10.mono (by first | omega | (simp; done) | (simp; omega))))
  have nz_10 : w.heap.size ≤ w10.heap.size := HB_10.out.size
  clear hb10 x0_9 x1_9 y0_9 y1_9 q0_9 q1_9 g0_9 g1_9 b0_9 b1_9 HB_9
  go_wp2_with fail
  refine (HVx.out _).mono ?_
  rintro e w11 ⟨rfl, hb11⟩
  have x0_11 : w11.cell? ⟨w.heap.size, 0, none⟩ = some (.int .i64 m) := carry hb11 (by go_simp)
  have x1_11 : w11.cell? ⟨w.heap.size, 1, none⟩ = some (.int .i64 e) := carry hb11 (by go_simp)
  have xz_11 : w.heap.size < w11.heap.size := by have := hb11.size; first | omega | (simp at this; omega)
  have y0_11 : w11.cell? ⟨w.heap.size + 1, 0, none⟩ = some (.int .i64 k) := carry hb11 (by go_simp)
  have y1_11 : w11.cell? ⟨w.heap.size + 1, 1, none⟩ = some (.int .i64 f) := carry hb11 (by go_simp)
  have yz_11 : w.heap.size + 1 < w11.heap.size := by have := hb11.size; first | omega | (simp at this; omega)
  have q0_11 : w11.cell? ⟨w6.heap.size, 0, none⟩ = some (.int .i64 nm) := carry hb11 (by go_simp)
  have q1_11 : w11.cell? ⟨w6.heap.size, 1, none⟩ = some (.int .i64 ne) := carry hb11 (by go_simp)
  have qz_11 : w6.heap.size < w11.heap.size := by have := hb11.size; first | omega | (simp at this; omega)
  have g0_11 : w11.cell? ⟨w7.heap.size, 0, none⟩ = some (.int .i64 gm) := carry hb11 (by go_simp)
  have g1_11 : w11.cell? ⟨w7.heap.size, 1, none⟩ = some (.int .i64 e) := carry hb11 (by go_simp)
  have gz_11 : w7.heap.size < w11.heap.size := by have := hb11.size; first | omega | (simp at this; omega)
  have b0_11 : w11.cell? ⟨w8.heap.size, 0, none⟩ = some (.int .i64 gm) := carry hb11 (by go_simp)
  have b1_11 : w11.cell? ⟨w8.heap.size, 1, none⟩ = some (.int .i64 e) := carry hb11 (by go_simp)
  have bz_11 : w8.heap.size < w11.heap.size := by have := hb11.size; first | omega | (simp at this; omega)
  have HB_11 := Lib.hid ((by repeat (first | exact HB_10.out | refine Below.drew ?_ | refine Below.setCell ?_ (by first | omega | (simp; done) | (simp; omega)) _ | refine Below.alloc ?_ (by first | omega | (simp; done) | (simp; omega)) _) : Below w.heap.size w _).trans (hb11.mono (by first | omega | (simp; done) | (simp; omega))))
  have nz_11 : w.heap.size ≤ w11.heap.size := HB_11.out.size
  clear hb11 x0_10 x1_10 y0_10 y1_10 q0_10 q1_10 g0_10 g1_10 b0_10 b1_10 HB_10
  go_wp2_with fail
  refine (HVy.out _).mono ?_
  rintro e w12 ⟨rfl, hb12⟩
  have x0_12 : w12.cell? ⟨w.heap.size, 0, none⟩ = some (.int .i64 m) := carry hb12 (by go_simp)
  have x1_12 : w12.cell? ⟨w.heap.size, 1, none⟩ = some (.int .i64 e) := carry hb12 (by go_simp)
  have xz_12 : w.heap.size < w12.heap.size := by have := hb12.size; first | omega | (simp at this; omega)
  have y0_12 : w12.cell? ⟨w.heap.size + 1, 0, none⟩ = some (.int .i64 k) := carry hb12 (by go_simp)
  have y1_12 : w12.cell? ⟨w.heap.size + 1, 1, none⟩ = some (.int .i64 f) := carry hb12 (by go_simp)
  have yz_12 : w.heap.size + 1 < w12.heap.size := by have := hb12.size; first | omega | (simp at this; omega)
  have q0_12 : w12.cell? ⟨w6.heap.size, 0, none⟩ = some (.int .i64 nm) := carry hb12 (by go_simp)
  have q1_12 : w12.cell? ⟨w6.heap.size, 1, none⟩ = some (.int .i64 ne) := carry hb12 (by go_simp)
  have qz_12 : w6.heap.size < w12.heap.size := by have := hb12.size; first | omega | (simp at this; omega)
  have g0_12 : w12.cell? ⟨w7.heap.size, 0, none⟩ = some (.int .i64 gm) := carry hb12 (by go_simp)
  have g1_12 : w12.cell? ⟨w7.heap.size, 1, none⟩ = some (.int .i64 e) := carry hb12 (by go_simp)
  have gz_12 : w7.heap.size < w12.heap.size := by have := hb12.size; first | omega | (simp at this; omega)
  have b0_12 : w12.cell? ⟨w8.heap.size, 0, none⟩ = some (.int .i64 gm) := carry hb12 (by go_simp)
  have b1_12 : w12.cell? ⟨w8.heap.size, 1, none⟩ = some (.int .i64 e) := carry hb12 (by go_simp)
  have bz_12 : w8.heap.size < w12.heap.size := by have := hb12.size; first | omega | (simp at this; omega)
  have HB_12 := Lib.hid ((by repeat (first | exact HB_11.out | refine Below.drew ?_ | refine Below.setCell ?_ (by first | omega | (simp; done) | (simp; omega)) _ | refine Below.alloc ?_ (by first | omega | (simp; done) | (simp; omega)) _) : Below w.heap.size w _).trans (hb12.mono (by first | omega | (simp; done) | (simp; omega))))
  have nz_12 : w.heap.size ≤ w12.heap.size := HB_12.out.size
  clear hb12 x0_11 x1_11 y0_11 y1_11 q0_11 q1_11 g0_11 g1_11 b0_11 b1_11 HB_11
  go_wp2_with fail
  refine (HVy.out _).mono ?_
  rintro e w13 ⟨rfl, hb13⟩
  have x0_13 : w13.cell? ⟨w.heap.size, 0, none⟩ = some (.int .i64 m) := carry hb13 (by go_simp)
  have x1_13 : w13.cell? ⟨w.heap.size, 1, none⟩ = some (.int .i64 e) := carry hb13 (by go_simp)
  have xz_13 : w.heap.size < w13.heap.size := by have := hb13.size; first | omega | (simp at this; omega)
  have y0_13 : w13.cell? ⟨w.heap.size + 1, 0, none⟩ = some (.int .i64 k) := carry hb13 (by go_simp)
  have y1_13 : w13.cell? ⟨w.heap.size + 1, 1, none⟩ = some (.int .i64 f) := carry hb13 (by go_simp)
  have yz_13 : w.heap.size + 1 < w13.heap.size := by have := hb13.size; first | omega | (simp at this; omega)
  have q0_13 : w13.cell? ⟨w6.heap.size, 0, none⟩ = some (.int .i64 nm) := carry hb13 (by go_simp)
  have q1_13 : w13.cell? ⟨w6.heap.size, 1, none⟩ = some (.int .i64 ne) := carry hb13 (by go_simp)
  have qz_13 : w6.heap.size < w13.heap.size := by have := hb13.size; first | omega | (simp at this; omega)
  have g0_13 : w13.cell? ⟨w7.heap.size, 0, none⟩ = some (.int .i64 gm) := carry hb13 (by go_simp)
  have g1_13 : w13.cell? ⟨w7.heap.size, 1, none⟩ = some (.int .i64 e) := carry hb13 (by go_simp)
  have gz_13 : w7.heap.size < w13.heap.size := by have := hb13.size; first | omega | (simp at this; omega)
  have b0_13 : w13.cell? ⟨w8.heap.size, 0, none⟩ = some (.int .i64 gm) := carry hb13 (by go_simp)
  have b1_13 : w13.cell? ⟨w8.heap.size, 1, none⟩ = some (.int .i64 e) := carry hb13 (by go_simp)
  have bz_13 : w8.heap.size < w13.heap.size := by have := hb13.size; first | omega | (simp at this; omega)
  have HB_13 := Lib.hid ((by repeat (first | exact HB_12.out | refine Below.drew ?_ | refine Below.setCell ?_ (by first | omega | (simp; done) | (simp; omega)) _ | refine Below.alloc ?_ (by first | omega | (simp; done) | (simp; omega)) _) : Below w.heap.size w _).trans (hb13.mono (by first | omega | (simp; done) | (simp; omega))))
  have nz_13 : w.heap.size ≤ w13.heap.size := HB_13.out.size
  clear hb13 x0_12 x1_12 y0_12 y1_12 q0_12 q1_12 g0_12 g1_12 b0_12 b1_12 HB_12
  go_wp2_with fail
  refine (HRM.out _).mono ?_
  rintro e w14 ⟨rfl, hb14⟩
  have x0_14 : w14.cell? ⟨w.heap.size, 0, none⟩ = some (.int .i64 m) := carry hb14 (by go_simp)
  have x1_14 : w14.cell? ⟨w.heap.size, 1, none⟩ = some (.int .i64 e) := carry hb14 (by go_simp)
  have xz_14 : w.heap.size < w14.heap.size := by have := hb14.size; first | omega | (simp at this; omega)
  have y0_14 : w14.cell? ⟨w.heap.size + 1, 0, none⟩ = some (.int .i64 k) := carry hb14 (by go_simp)
  have y1_14 : w14.cell? ⟨w.heap.size + 1, 1, none⟩ = some (.int .i64 f) := carry hb14 (by go_simp)
  have yz_14 : w.heap.size + 1 < w14.heap.size := by have := hb14.size; first | omega | (simp at this; omega)
  have q0_14 : w14.cell? ⟨w6.heap.size, 0, none⟩ = some (.int .i64 nm) := carry hb14 (by go_simp)
  have q1_14 : w14.cell? ⟨w6.heap.size, 1, none⟩ = some (.int .i64 ne) := carry hb14 (by go_simp)
  have qz_14 : w6.heap.size < w14.heap.size := by have := hb14.size; first | omega | (simp at this; omega)
  have g0_14 : w14.cell? ⟨w7.heap.size, 0, none⟩ = some (.int .i64 gm) := carry hb14 (by go_simp)
  have g1_14 : w14.cell? ⟨w7.heap.size, 1, none⟩ = some (.int .i64 e) := carry hb14 (by go_simp)
  have gz_14 : w7.heap.size < w14.heap.size := by have := hb14.size; first | omega | (simp at this; omega)
  have b0_14 : w14.cell? ⟨w8.heap.size, 0, none⟩ = some (.int .i64 gm) := carry hb14 (by go_simp)
  have b1_14 : w14.cell? ⟨w8.heap.size, 1, none⟩ = some (.int .i64 e) := carry hb14 (by go_simp)
  have bz_14 : w8.heap.size < w14.heap.size := by have := hb14.size; first | omega | (simp at this; omega)
  have HB_14 := Lib.hid ((by repeat (first | exact HB_13.out | refine Below.drew ?_ | refine Below.setCell ?_ (by first | omega | (simp; done) | (simp; omega)) _ | refine Below.alloc ?_ (by first | omega | (simp; done) | (simp; omega)) _) : Below w.heap.size w _).trans (hb14.mono (by first | omega | (simp; done) | (simp; omega))))
  have nz_14 : w.heap.size ≤ w14.heap.size := HB_14.out.size
  clear hb14 x0_13 x1_13 y0_13 y1_13 q0_13 q1_13 g0_13 g1_13 b0_13 b1_13 HB_13
  go_wp2_with fail
  refine (HRN.out _).mono ?_
  rintro e w15 ⟨rfl, hb15⟩
  have x0_15 : w15.cell? ⟨w.heap.size, 0, none⟩ = some (.int .i64 m) := carry hb15 (by go_simp)
  have x1_15 : w15.cell? ⟨w.heap.size, 1, none⟩ = some (.int .i64 e) := carry hb15 (by go_simp)
  have xz_15 : w.heap.size < w15.heap.size := by have := hb15.size; first | omega | (simp at this; omega)
  have q0_15 : w15.cell? ⟨w6.heap.size, 0, none⟩ = some (.int .i64 nm) := carry hb15 (by go_simp)
  have q1_15 : w15.cell? ⟨w6.heap.size, 1, none⟩ = some (.int .i64 ne) := carry hb15 (by go_simp)
  have qz_15 : w6.heap.size < w15.heap.size := by have := hb15.size; first | omega | (simp at this; omega)
  have g0_15 : w15.cell? ⟨w7.heap.size, 0, none⟩ = some (.int .i64 gm) := carry hb15 (by go_simp)
  have g1_15 : w15.cell? ⟨w7.heap.size, 1, none⟩ = some (.int .i64 e) := carry hb15 (by go_simp)
  have gz_15 : w7.heap.size < w15.heap.size := by have := hb15.size; first | omega | (simp at this; omega)
  have b0_15 : w15.cell? ⟨w8.heap.size, 0, none⟩ = some (.int .i64 gm) := carry hb15 (by go_simp)
  have b1_15 : w15.cell? ⟨w8.heap.size, 1, none⟩ = some (.int .i64 e) := carry hb15 (by go_simp)
  have bz_15 : w8.heap.size < w15.heap.size := by have := hb15.size; first | omega | (simp at this; omega)
  have t0_15 : w15.cell? ⟨w14.heap.size, 0, none⟩ = some (.int .i64 m) := carry hb15 (by go_simp)
  have tf0_15 : w15.frozen? ⟨w14.heap.size, 0, none⟩ = false := carryF hb15 (v := .int .i64 m) (by go_simp) (by go_simp)
  have t1_15 : w15.cell? ⟨w14.heap.size, 1, none⟩ = some (.int .i64 e) := carry hb15 (by go_simp)
  have tf1_15 : w15.frozen? ⟨w14.heap.size, 1, none⟩ = false := carryF hb15 (v := .int .i64 e) (by go_simp) (by go_simp)
  have tz_15 : w14.heap.size < w15.heap.size := by have := hb15.size; first | omega | (simp at this; omega)
  have HB_15 := Lib.hid ((by repeat (first | exact HB_14.out | refine Below.drew ?_ | refine Below.setCell ?_ (by first | omega | (simp; done) | (simp; omega)) _ | refine Below.alloc ?_ (by first | omega | (simp; done) | (simp; omega)) _) : Below w.heap.size w _).trans (hb15.mono (by first | omega | (simp; done) | (simp; omega))))
  have nz_15 : w.heap.size ≤ w15.heap.size := HB_15.out.size
  clear hb15 x0_14 x1_14 y0_14 y1_14 q0_14 q1_14 g0_14 g1_14 b0_14 b1_14 HB_14
  go_wp2_with fail
  generalize hW : (w15.setCell _ _).setCell _ _ = w16
  have x0_16 : w16.cell? ⟨w.heap.size, 0, none⟩ = some (.int .i64 m) := by rw [← hW]; clear hW; go_simp
  have x1_16 : w16.cell? ⟨w.heap.size, 1, none⟩ = some (.int .i64 e) := by rw [← hW]; clear hW; go_simp
  have xz_16 : w.heap.size < w16.heap.size := by rw [← hW]; clear hW; simp <;> omega
  have q0_16 : w16.cell? ⟨w6.heap.size, 0, none⟩ = some (.int .i64 nm) := by rw [← hW]; clear hW; go_simp
  have q1_16 : w16.cell? ⟨w6.heap.size, 1, none⟩ = some (.int .i64 ne) := by rw [← hW]; clear hW; go_simp
  have qz_16 : w6.heap.size < w16.heap.size := by rw [← hW]; clear hW; simp <;> omega
  have g0_16 : w16.cell? ⟨w7.heap.size, 0, none⟩ = some (.int .i64 gm) := by rw [← hW]; clear hW; go_simp
  have g1_16 : w16.cell? ⟨w7.heap.size, 1, none⟩ = some (.int .i64 e) := by rw [← hW]; clear hW; go_simp
  have gz_16 : w7.heap.size < w16.heap.size := by rw [← hW]; clear hW; simp <;> omega
  have b0_16 : w16.cell? ⟨w8.heap.size, 0, none⟩ = some (.int .i64 gm) := by rw [← hW]; clear hW; go_simp
  have b1_16 : w16.cell? ⟨w8.heap.size, 1, none⟩ = some (.int .i64 e) := by rw [← hW]; clear hW; go_simp
  have bz_16 : w8.heap.size < w16.heap.size := by rw [← hW]; clear hW; simp <;> omega
  have t0_16 : w16.cell? ⟨w14.heap.size, 0, none⟩ = some (.int .i64 gm) := by rw [← hW]; clear hW; go_simp
  have t1_16 : w16.cell? ⟨w14.heap.size, 1, none⟩ = some (.int .i64 e) := by rw [← hW]; clear hW; go_simp
  have tz_16 : w14.heap.size < w16.heap.size := by rw [← hW]; clear hW; simp <;> omega
  have HB_16 := Lib.hid ((by rw [← hW]; clear hW; repeat (first | exact HB_15.out | refine Below.drew ?_ | refine Below.setCell ?_ (by first | omega | (simp; done) | (simp; omega)) _ | refine Below.alloc ?_ (by first | omega | (simp; done) | (simp; omega)) _)) : Below w.heap.size w w16)
  clear hW HB_15 x0_15 x1_15 q0_15 q1_15 g0_15 g1_15 b0_15 b1_15 t0_15 tf0_15 t1_15 tf1_15
  have nz_16 : w.heap.size ≤ w16.heap.size := HB_16.out.size
  have K0 := Lib.hid (Below.refl w16.heap.size w16)
  have SK := Lib.hid (show ∀ wx, Below w16.heap.size w16 wx → wx.cell? ⟨w.heap.size, 0, none⟩ = some (.int .i64 m) ∧ wx.cell? ⟨w.heap.size, 1, none⟩ = some (.int .i64 e) ∧ w.heap.size < wx.heap.size ∧ wx.cell? ⟨w6.heap.size, 0, none⟩ = some (.int .i64 nm) ∧ wx.cell? ⟨w6.heap.size, 1, none⟩ = some (.int .i64 ne) ∧ w6.heap.size < wx.heap.size ∧ wx.cell? ⟨w7.heap.size, 0, none⟩ = some (.int .i64 gm) ∧ wx.cell? ⟨w7.heap.size, 1, none⟩ = some (.int .i64 e) ∧ w7.heap.size < wx.heap.size ∧ wx.cell? ⟨w8.heap.size, 0, none⟩ = some (.int .i64 gm) ∧ wx.cell? ⟨w8.heap.size, 1, none⟩ = some (.int .i64 e) ∧ w8.heap.size < wx.heap.size ∧ wx.cell? ⟨w14.heap.size, 0, none⟩ = some (.int .i64 gm) ∧ wx.cell? ⟨w14.heap.size, 1, none⟩ = some (.int .i64 e) ∧ w14.heap.size < wx.heap.size ∧ Below w16.heap.size w16 wx from fun wx h => ⟨carry h x0_16, carry h x1_16, Nat.lt_of_lt_of_le xz_16 h.size, carry h q0_16, carry h q1_16, Nat.lt_of_lt_of_le qz_16 h.size, carry h g0_16, carry h g1_16, Nat.lt_of_lt_of_le gz_16 h.size, carry h b0_16, carry h b1_16, Nat.lt_of_lt_of_le bz_16 h.size, carry h t0_16, carry h t1_16, Nat.lt_of_lt_of_le tz_16 h.size, h⟩)
  go_wp2_with fail
  go_region_held3 (fun wx => wx.cell? ⟨w.heap.size, 0, none⟩ = some (.int .i64 m) ∧ wx.cell? ⟨w.heap.size, 1, none⟩ = some (.int .i64 e) ∧ w.heap.size < wx.heap.size ∧ wx.cell? ⟨w6.heap.size, 0, none⟩ = some (.int .i64 nm) ∧ wx.cell? ⟨w6.heap.size, 1, none⟩ = some (.int .i64 ne) ∧ w6.heap.size < wx.heap.size ∧ wx.cell? ⟨w7.heap.size, 0, none⟩ = some (.int .i64 gm) ∧ wx.cell? ⟨w7.heap.size, 1, none⟩ = some (.int .i64 e) ∧ w7.heap.size < wx.heap.size ∧ wx.cell? ⟨w8.heap.size, 0, none⟩ = some (.int .i64 gm) ∧ wx.cell? ⟨w8.heap.size, 1, none⟩ = some (.int .i64 e) ∧ w8.heap.size < wx.heap.size ∧ wx.cell? ⟨w14.heap.size, 0, none⟩ = some (.int .i64 gm) ∧ wx.cell? ⟨w14.heap.size, 1, none⟩ = some (.int .i64 e) ∧ w14.heap.size < wx.heap.size ∧ Below w16.heap.size w16 wx) (first | (go_keep; done) | exact SK.out _ (by first | with_reducible assumption | with_reducible exact K0.out | with_reducible exact K0.out.drew | with_reducible exact Below.drew (by with_reducible assumption)))
    (first
      | (go_at_call 23; ((with_reducible refine (HRI.out _).mono ?_); rintro r wq ⟨rfl, hbq⟩; have qb : Below w16.heap.size w16 wq := Below.trans (by first | with_reducible assumption | with_reducible exact K0.out | with_reducible exact K0.out.drew | with_reducible exact Below.drew (by with_reducible assumption)) (hbq.mono (Below.size (by first | with_reducible assumption | with_reducible exact K0.out | with_reducible exact K0.out.drew | with_reducible exact Below.drew (by with_reducible assumption))))))
      | (go_at_call 22; ((with_reducible refine (HRN.out _).mono ?_); rintro r wq ⟨rfl, hbq⟩; have qb : Below w16.heap.size w16 wq := Below.trans (by first | with_reducible assumption | with_reducible exact K0.out | with_reducible exact K0.out.drew | with_reducible exact Below.drew (by with_reducible assumption)) (hbq.mono (Below.size (by first | with_reducible assumption | with_reducible exact K0.out | with_reducible exact K0.out.drew | with_reducible exact Below.drew (by with_reducible assumption))))))
      | (go_at_call 8; ((with_reducible refine (HY.out _ _ _).mono ?_); rintro r wq ⟨rfl, hbq⟩; have qb : Below w16.heap.size w16 wq := Below.trans (by first | with_reducible assumption | with_reducible exact K0.out | with_reducible exact K0.out.drew | with_reducible exact Below.drew (by with_reducible assumption)) (hbq.mono (Below.size (by first | with_reducible assumption | with_reducible exact K0.out | with_reducible exact K0.out.drew | with_reducible exact Below.drew (by with_reducible assumption))))))
      | (go_at_call 24; ((with_reducible refine (HRC.out _).mono ?_); rintro r wq ⟨rfl, hbq⟩; have qb : Below w16.heap.size w16 wq := Below.trans (by first | with_reducible assumption | with_reducible exact K0.out | with_reducible exact K0.out.drew | with_reducible exact Below.drew (by with_reducible assumption)) (hbq.mono (Below.size (by first | with_reducible assumption | with_reducible exact K0.out | with_reducible exact K0.out.drew | with_reducible exact Below.drew (by with_reducible assumption)))))))
  rename _ ∧ _ ∧ _ ∧ _ ∧ _ ∧ _ ∧ _ ∧ _ ∧ _ ∧ _ ∧ _ ∧ _ ∧ _ ∧ _ ∧ _ ∧ Below w16.heap.size w16 _ => hS
  obtain ⟨w17, rfl⟩ : ∃ x, x = wq := ⟨_, rfl⟩
  obtain ⟨x0_17, x1_17, xz_17, q0_17, q1_17, qz_17, g0_17, g1_17, gz_17, b0_17, b1_17, bz_17, t0_17, t1_17, tz_17, xb⟩ := hS
  have HB_17 := Lib.hid (HB_16.out.trans (xb.mono HB_16.out.size))
  clear xb HB_16 K0 SK x0_16 x1_16 q0_16 q1_16 g0_16 g1_16 b0_16 b1_16 t0_16 t1_16
  have nz_17 : w.heap.size ≤ w17.heap.size := HB_17.out.size
  have K0 := Lib.hid (Below.refl w17.heap.size w17)
  have SK := Lib.hid (show ∀ wx, Below w17.heap.size w17 wx → wx.cell? ⟨w6.heap.size, 0, none⟩ = some (.int .i64 nm) ∧ wx.cell? ⟨w6.heap.size, 1, none⟩ = some (.int .i64 ne) ∧ w6.heap.size < wx.heap.size from fun wx h => ⟨carry h q0_17, carry h q1_17, Nat.lt_of_lt_of_le qz_17 h.size⟩)
  go_wp2_with fail
  go_region_held3 (fun wx => wx.cell? ⟨w6.heap.size, 0, none⟩ = some (.int .i64 nm) ∧ wx.cell? ⟨w6.heap.size, 1, none⟩ = some (.int .i64 ne) ∧ w6.heap.size < wx.heap.size) (first | (go_keep; done) | exact SK.out _ (by first | with_reducible assumption | with_reducible exact K0.out | with_reducible exact K0.out.drew | with_reducible exact Below.drew (by with_reducible assumption)))
    (first
      | (go_at_call 20; ((with_reducible refine (HSan.out _ (HB_17.out.trans (Below.mono (by first | with_reducible assumption | with_reducible exact K0.out | with_reducible exact K0.out.drew | with_reducible exact Below.drew (by with_reducible assumption)) nz_17))).mono ?_); rintro r wq ⟨rfl, hbq⟩; have qb : Below w17.heap.size w17 wq := Below.trans (by first | with_reducible assumption | with_reducible exact K0.out | with_reducible exact K0.out.drew | with_reducible exact Below.drew (by with_reducible assumption)) (hbq.mono (Below.size (by first | with_reducible assumption | with_reducible exact K0.out | with_reducible exact K0.out.drew | with_reducible exact Below.drew (by with_reducible assumption))))))
      | (go_at_call 9; ((with_reducible refine (HRA.out _).mono ?_); rintro r wq ⟨rfl, hbq⟩; have qb : Below w17.heap.size w17 wq := Below.trans (by first | with_reducible assumption | with_reducible exact K0.out | with_reducible exact K0.out.drew | with_reducible exact Below.drew (by with_reducible assumption)) (hbq.mono (Below.size (by first | with_reducible assumption | with_reducible exact K0.out | with_reducible exact K0.out.drew | with_reducible exact Below.drew (by with_reducible assumption))))))
      | (go_at_call 8; ((with_reducible refine (HY.out _ _ _).mono ?_); rintro r wq ⟨rfl, hbq⟩; have qb : Below w17.heap.size w17 wq := Below.trans (by first | with_reducible assumption | with_reducible exact K0.out | with_reducible exact K0.out.drew | with_reducible exact Below.drew (by with_reducible assumption)) (hbq.mono (Below.size (by first | with_reducible assumption | with_reducible exact K0.out | with_reducible exact K0.out.drew | with_reducible exact Below.drew (by with_reducible assumption)))))))
  go_wp2_with fail
  go_ret
  exact ⟨rfl, HB_17.out.trans (qb.mono nz_17)⟩

set_option maxRecDepth 100000 in
set_option maxHeartbeats 8000000 in
theorem topG (m e k f i0 n0 am ae ax fm fe i nm ne gm s c : Int) (w : World) (HAt : Hid (∀ W : World, Calls Tryz.prog 7 #[.int .i64 i0] W fun r w' => r = .returned (rE am ae ax) ∧ Below W.heap.size W w')) (HF : Hid (-2533359615 ≤ i0 ∧ i0 ≤ 2533359615 → ax = 0 ∧ ∀ W : World, Calls Tryz.prog 9 #[.int .i64 i0] W fun r w' => r = .returned (realV am ae) ∧ Below W.heap.size W w')) (HG : Hid (¬ (-2533359615 ≤ i0 ∧ i0 ≤ 2533359615) → ax = 1 ∧ am = 0 ∧ ae = 0)) (HY : Hid (∀ (a b : Int) (W : World), Calls Tryz.prog 8 #[realV a b, .int .i64 0, realV a b] W fun r w' => r = .returned (.bool true) ∧ Below W.heap.size W w')) (HFI : Hid (∀ W : World, Calls Tryz.prog 10 #[.int .i64 n0] W fun r w' => r = .returned (realV fm fe) ∧ Below W.heap.size W w')) (HRF : Hid (∀ W : World, Calls Tryz.prog 11 #[.int .i64 n0] W fun r w' => r = .returned (realV fm fe) ∧ Below W.heap.size W w')) (HV : Hid (∀ W : World, Calls Tryz.prog 12 #[realV m e] W fun r w' => r = .returned (.bool true) ∧ Below W.heap.size W w')) (HVx : Hid (∀ W : World, Calls Tryz.prog 13 #[realV m e] W fun r w' => r = .returned (.bool true) ∧ Below W.heap.size W w')) (HVy : Hid (∀ W : World, Calls Tryz.prog 13 #[realV k f] W fun r w' => r = .returned (.bool true) ∧ Below W.heap.size W w')) (HIx : Hid (∀ W : World, Calls Tryz.prog 14 #[realV m e] W fun r w' => r = .returned (iE i 0) ∧ Below W.heap.size W w')) (HNx : Hid (∀ W : World, Calls Tryz.prog 15 #[realV m e] W fun r w' => r = .returned (rE 0 0 3) ∧ Below W.heap.size W w')) (HNg : Hid (∀ W : World, Calls Tryz.prog 16 #[realV m e] W fun r w' => r = .returned (rE gm e 0) ∧ Below W.heap.size W w')) (HAb : Hid (∀ W : World, Calls Tryz.prog 17 #[realV m e] W fun r w' => r = .returned (rE m e 0) ∧ Below W.heap.size W w')) (HSg : Hid (∀ W : World, Calls Tryz.prog 18 #[realV m e] W fun r w' => r = .returned (iE s 0) ∧ Below W.heap.size W w')) (HCm : Hid (∀ W : World, Calls Tryz.prog 19 #[realV m e, realV k f] W fun r w' => r = .returned (iE c 0) ∧ Below W.heap.size W w')) (HSan : Hid (∀ W, Below w.heap.size w W → Calls Tryz.prog 20 #[] W fun r W' => r = .returned (.bool true) ∧ Below W.heap.size W W')) (HRI : Hid (∀ W : World, Calls Tryz.prog 23 #[realV m e] W fun r w' => r = .returned (.int .i64 i) ∧ Below W.heap.size W w')) (HRN : Hid (∀ W : World, Calls Tryz.prog 22 #[realV m e] W fun r w' => r = .returned (realV gm e) ∧ Below W.heap.size W w')) (HRC : Hid (∀ W : World, Calls Tryz.prog 24 #[.int .i64 m, .int .i64 0] W fun r w' => r = .returned (.int .i64 s) ∧ Below W.heap.size W w')) (HRM : Hid (∀ W : World, Calls Tryz.prog 21 #[realV m e, realV k f] W fun r w' => r = .returned (.int .i64 c) ∧ Below W.heap.size W w')) (hm : ¬ m < 0) (hi : i = 2533359615)  :
    Calls Tryz.prog 3 #[realV m e, realV k f, .int .i64 i0, .int .i64 n0] w fun r w' => r = .returned (.bool true) ∧ Below w.heap.size w w' := by
  subst hi
  obtain ⟨tt, htt⟩ : ∃ tt : Bool, tt = decide (-2533359615 ≤ i0 ∧ i0 ≤ 2533359615) := ⟨_, rfl⟩
  have HT := Lib.hid htt
  clear htt
  go_enter Tryz.func3, Tryz.ntmps3
  go_wp2_with fail
  refine (HAt.out _).mono ?_
  rintro e w1 ⟨rfl, hb1⟩
  have x0_1 : w1.cell? ⟨w.heap.size, 0, none⟩ = some (.int .i64 m) := carry hb1 (by go_simp)
  have x1_1 : w1.cell? ⟨w.heap.size, 1, none⟩ = some (.int .i64 e) := carry hb1 (by go_simp)
  have xz_1 : w.heap.size < w1.heap.size := by have := hb1.size; first | omega | (simp at this; omega)
  have y0_1 : w1.cell? ⟨w.heap.size + 1, 0, none⟩ = some (.int .i64 k) := carry hb1 (by go_simp)
  have y1_1 : w1.cell? ⟨w.heap.size + 1, 1, none⟩ = some (.int .i64 f) := carry hb1 (by go_simp)
  have yz_1 : w.heap.size + 1 < w1.heap.size := by have := hb1.size; first | omega | (simp at this; omega)
  have HB_1 := Lib.hid ((by repeat (first | exact Below.refl _ _ | refine Below.drew ?_ | refine Below.setCell ?_ (by first | omega | (simp; done) | (simp; omega)) _ | refine Below.alloc ?_ (by first | omega | (simp; done) | (simp; omega)) _) : Below w.heap.size w _).trans (hb1.mono (by first | omega | (simp; done) | (simp; omega))))
  have nz_1 : w.heap.size ≤ w1.heap.size := HB_1.out.size
  clear hb1
  go_upto_region 2 with fail
  generalize hW : w1.alloc _ = w2
  have x0_2 : w2.cell? ⟨w.heap.size, 0, none⟩ = some (.int .i64 m) := by rw [← hW]; clear hW; go_simp
  have x1_2 : w2.cell? ⟨w.heap.size, 1, none⟩ = some (.int .i64 e) := by rw [← hW]; clear hW; go_simp
  have xz_2 : w.heap.size < w2.heap.size := by rw [← hW]; clear hW; simp <;> omega
  have y0_2 : w2.cell? ⟨w.heap.size + 1, 0, none⟩ = some (.int .i64 k) := by rw [← hW]; clear hW; go_simp
  have y1_2 : w2.cell? ⟨w.heap.size + 1, 1, none⟩ = some (.int .i64 f) := by rw [← hW]; clear hW; go_simp
  have yz_2 : w.heap.size + 1 < w2.heap.size := by rw [← hW]; clear hW; simp <;> omega
  have a0_2 : w2.cell? ⟨w1.heap.size, 0, none⟩ = some (.int .i64 am) := by rw [← hW]; clear hW; go_simp
  have a1_2 : w2.cell? ⟨w1.heap.size, 1, none⟩ = some (.int .i64 ae) := by rw [← hW]; clear hW; go_simp
  have az_2 : w1.heap.size < w2.heap.size := by rw [← hW]; clear hW; simp <;> omega
  have HB_2 := Lib.hid (show Below w.heap.size w w2 by rw [← hW]; exact Below.alloc HB_1.out (by have := HB_1.out.size; omega) _)
  clear hW HB_1 x0_1 x1_1 y0_1 y1_1
  have nz_2 : w.heap.size ≤ w2.heap.size := HB_2.out.size
  go_cut [33] from 28 to 33 (fun s wx => s = .bool tt ∧ w2 = wx)
  case first =>
    by_cases h1 : -2533359615 ≤ i0
    · by_cases h2 : i0 ≤ 2533359615
      · go_wp2_with fail
        go_meet
        case rel => exact ⟨by rw [HT.out]; simp [h1, h2], rfl⟩
      · have h3 : decide (i0 ≤ 2533359615) = false := by simpa using h2
        go_wp2_with fail
        go_meet
        case rel => exact ⟨by rw [HT.out]; simp [h2], rfl⟩
    · have h3 : decide (-2533359615 ≤ i0) = false := by simpa using h1
      have h4 : decide (-2533359615 ≤ i0 ∧ i0 ≤ 2533359615) = false := decide_eq_false (fun h => h1 h.1)
      go_wp2_with fail
      go_meet
      case rel => exact ⟨by rw [HT.out, h4], rfl⟩
  case rest =>
  obtain ⟨rfl, rfl⟩ := hcut
  go_upto_if 33 with fail
  go_cut [9, 10] from 34 to 46 (fun p q wx => wx.cell? ⟨w.heap.size, 0, none⟩ = some (.int .i64 m) ∧ wx.cell? ⟨w.heap.size, 1, none⟩ = some (.int .i64 e) ∧ w.heap.size < wx.heap.size ∧ wx.cell? ⟨w.heap.size + 1, 0, none⟩ = some (.int .i64 k) ∧ wx.cell? ⟨w.heap.size + 1, 1, none⟩ = some (.int .i64 f) ∧ w.heap.size + 1 < wx.heap.size ∧ Below w.heap.size w wx)
  case first =>
    cases tt
    · obtain ⟨rfl, rfl, rfl⟩ := HG.out (of_decide_eq_false HT.out.symm)
      go_wp2_with fail
      go_meet
      case rel => exact ⟨x0_2, x1_2, xz_2, y0_2, y1_2, yz_2, HB_2.out⟩
    · obtain ⟨rfl, HRAt⟩ := HF.out (of_decide_eq_true HT.out.symm)
      have K0 := Lib.hid (Below.refl w2.heap.size w2)
      have SK := Lib.hid (show ∀ wx, Below w2.heap.size w2 wx → wx.cell? ⟨w.heap.size, 0, none⟩ = some (.int .i64 m) ∧ wx.cell? ⟨w.heap.size, 1, none⟩ = some (.int .i64 e) ∧ w.heap.size < wx.heap.size ∧ wx.cell? ⟨w.heap.size + 1, 0, none⟩ = some (.int .i64 k) ∧ wx.cell? ⟨w.heap.size + 1, 1, none⟩ = some (.int .i64 f) ∧ w.heap.size + 1 < wx.heap.size ∧ wx.cell? ⟨w1.heap.size, 0, none⟩ = some (.int .i64 am) ∧ wx.cell? ⟨w1.heap.size, 1, none⟩ = some (.int .i64 ae) ∧ w1.heap.size < wx.heap.size ∧ Below w2.heap.size w2 wx from fun wx h => ⟨carry h x0_2, carry h x1_2, Nat.lt_of_lt_of_le xz_2 h.size, carry h y0_2, carry h y1_2, Nat.lt_of_lt_of_le yz_2 h.size, carry h a0_2, carry h a1_2, Nat.lt_of_lt_of_le az_2 h.size, h⟩)
      go_wp2_with fail
      go_region_held3 (fun wx => wx.cell? ⟨w.heap.size, 0, none⟩ = some (.int .i64 m) ∧ wx.cell? ⟨w.heap.size, 1, none⟩ = some (.int .i64 e) ∧ w.heap.size < wx.heap.size ∧ wx.cell? ⟨w.heap.size + 1, 0, none⟩ = some (.int .i64 k) ∧ wx.cell? ⟨w.heap.size + 1, 1, none⟩ = some (.int .i64 f) ∧ w.heap.size + 1 < wx.heap.size ∧ wx.cell? ⟨w1.heap.size, 0, none⟩ = some (.int .i64 am) ∧ wx.cell? ⟨w1.heap.size, 1, none⟩ = some (.int .i64 ae) ∧ w1.heap.size < wx.heap.size ∧ Below w2.heap.size w2 wx) (first | (go_keep; done) | exact SK.out _ (by first | with_reducible assumption | with_reducible exact K0.out | with_reducible exact K0.out.drew | with_reducible exact Below.drew (by with_reducible assumption)))
        (first
          | (go_at_call 9; ((with_reducible refine (HRAt _).mono ?_); rintro r wq ⟨rfl, hbq⟩; have qb : Below w2.heap.size w2 wq := Below.trans (by first | with_reducible assumption | with_reducible exact K0.out | with_reducible exact K0.out.drew | with_reducible exact Below.drew (by with_reducible assumption)) (hbq.mono (Below.size (by first | with_reducible assumption | with_reducible exact K0.out | with_reducible exact K0.out.drew | with_reducible exact Below.drew (by with_reducible assumption))))))
          | (go_at_call 8; ((with_reducible refine (HY.out _ _ _).mono ?_); rintro r wq ⟨rfl, hbq⟩; have qb : Below w2.heap.size w2 wq := Below.trans (by first | with_reducible assumption | with_reducible exact K0.out | with_reducible exact K0.out.drew | with_reducible exact Below.drew (by with_reducible assumption)) (hbq.mono (Below.size (by first | with_reducible assumption | with_reducible exact K0.out | with_reducible exact K0.out.drew | with_reducible exact Below.drew (by with_reducible assumption)))))))
      rename _ ∧ _ ∧ _ ∧ _ ∧ _ ∧ _ ∧ _ ∧ _ ∧ _ ∧ Below w2.heap.size w2 _ => hS
      obtain ⟨w3, rfl⟩ : ∃ x, x = wq := ⟨_, rfl⟩
      obtain ⟨x0_3, x1_3, xz_3, y0_3, y1_3, yz_3, a0_3, a1_3, az_3, xb⟩ := hS
      have HB_3 := Lib.hid (HB_2.out.trans (xb.mono HB_2.out.size))
      clear xb HB_2 K0 SK x0_2 x1_2 y0_2 y1_2 a0_2 a1_2
      have nz_3 : w.heap.size ≤ w3.heap.size := HB_3.out.size
      go_wp2_with fail
      go_meet
      case rel => exact ⟨x0_3, x1_3, xz_3, y0_3, y1_3, yz_3, HB_3.out⟩
  case rest =>
  clear HB_2 x0_2 x1_2 y0_2 y1_2 a0_2 a1_2 az_2 xz_2 yz_2
  obtain ⟨w3, rfl⟩ : ∃ x, x = wc := ⟨_, rfl⟩
  obtain ⟨x0_3, x1_3, xz_3, y0_3, y1_3, yz_3, hb9⟩ := hcut
  have HB_3 := Lib.hid hb9
  clear hb9
  have nz_3 : w.heap.size ≤ w3.heap.size := HB_3.out.size
  have K0 := Lib.hid (Below.refl w3.heap.size w3)
  have SK := Lib.hid (show ∀ wx, Below w3.heap.size w3 wx → wx.cell? ⟨w.heap.size, 0, none⟩ = some (.int .i64 m) ∧ wx.cell? ⟨w.heap.size, 1, none⟩ = some (.int .i64 e) ∧ w.heap.size < wx.heap.size ∧ wx.cell? ⟨w.heap.size + 1, 0, none⟩ = some (.int .i64 k) ∧ wx.cell? ⟨w.heap.size + 1, 1, none⟩ = some (.int .i64 f) ∧ w.heap.size + 1 < wx.heap.size ∧ Below w3.heap.size w3 wx from fun wx h => ⟨carry h x0_3, carry h x1_3, Nat.lt_of_lt_of_le xz_3 h.size, carry h y0_3, carry h y1_3, Nat.lt_of_lt_of_le yz_3 h.size, h⟩)
  go_wp2_with fail
  go_region_held3 (fun wx => wx.cell? ⟨w.heap.size, 0, none⟩ = some (.int .i64 m) ∧ wx.cell? ⟨w.heap.size, 1, none⟩ = some (.int .i64 e) ∧ w.heap.size < wx.heap.size ∧ wx.cell? ⟨w.heap.size + 1, 0, none⟩ = some (.int .i64 k) ∧ wx.cell? ⟨w.heap.size + 1, 1, none⟩ = some (.int .i64 f) ∧ w.heap.size + 1 < wx.heap.size ∧ Below w3.heap.size w3 wx) (first | (go_keep; done) | exact SK.out _ (by first | with_reducible assumption | with_reducible exact K0.out | with_reducible exact K0.out.drew | with_reducible exact Below.drew (by with_reducible assumption)))
    (first
      | (go_at_call 10; ((with_reducible refine (HFI.out _).mono ?_); rintro r wq ⟨rfl, hbq⟩; have qb : Below w3.heap.size w3 wq := Below.trans (by first | with_reducible assumption | with_reducible exact K0.out | with_reducible exact K0.out.drew | with_reducible exact Below.drew (by with_reducible assumption)) (hbq.mono (Below.size (by first | with_reducible assumption | with_reducible exact K0.out | with_reducible exact K0.out.drew | with_reducible exact Below.drew (by with_reducible assumption))))))
      | (go_at_call 11; ((with_reducible refine (HRF.out _).mono ?_); rintro r wq ⟨rfl, hbq⟩; have qb : Below w3.heap.size w3 wq := Below.trans (by first | with_reducible assumption | with_reducible exact K0.out | with_reducible exact K0.out.drew | with_reducible exact Below.drew (by with_reducible assumption)) (hbq.mono (Below.size (by first | with_reducible assumption | with_reducible exact K0.out | with_reducible exact K0.out.drew | with_reducible exact Below.drew (by with_reducible assumption))))))
      | (go_at_call 12; ((with_reducible refine (HV.out _).mono ?_); rintro r wq ⟨rfl, hbq⟩; have qb : Below w3.heap.size w3 wq := Below.trans (by first | with_reducible assumption | with_reducible exact K0.out | with_reducible exact K0.out.drew | with_reducible exact Below.drew (by with_reducible assumption)) (hbq.mono (Below.size (by first | with_reducible assumption | with_reducible exact K0.out | with_reducible exact K0.out.drew | with_reducible exact Below.drew (by with_reducible assumption))))))
      | (go_at_call 13; ((with_reducible refine (HVx.out _).mono ?_); rintro r wq ⟨rfl, hbq⟩; have qb : Below w3.heap.size w3 wq := Below.trans (by first | with_reducible assumption | with_reducible exact K0.out | with_reducible exact K0.out.drew | with_reducible exact Below.drew (by with_reducible assumption)) (hbq.mono (Below.size (by first | with_reducible assumption | with_reducible exact K0.out | with_reducible exact K0.out.drew | with_reducible exact Below.drew (by with_reducible assumption)))))))
  rename _ ∧ _ ∧ _ ∧ _ ∧ _ ∧ _ ∧ Below w3.heap.size w3 _ => hS
  obtain ⟨w4, rfl⟩ : ∃ x, x = wq := ⟨_, rfl⟩
  obtain ⟨x0_4, x1_4, xz_4, y0_4, y1_4, yz_4, xb⟩ := hS
  have HB_4 := Lib.hid (HB_3.out.trans (xb.mono HB_3.out.size))
  clear xb HB_3 K0 SK x0_3 x1_3 y0_3 y1_3
  have nz_4 : w.heap.size ≤ w4.heap.size := HB_4.out.size
  go_wp2_with fail
  refine (HIx.out _).mono ?_
  rintro e w5 ⟨rfl, hb5⟩
  have x0_5 : w5.cell? ⟨w.heap.size, 0, none⟩ = some (.int .i64 m) := carry hb5 (by go_simp)
  have x1_5 : w5.cell? ⟨w.heap.size, 1, none⟩ = some (.int .i64 e) := carry hb5 (by go_simp)
  have xz_5 : w.heap.size < w5.heap.size := by have := hb5.size; first | omega | (simp at this; omega)
  have y0_5 : w5.cell? ⟨w.heap.size + 1, 0, none⟩ = some (.int .i64 k) := carry hb5 (by go_simp)
  have y1_5 : w5.cell? ⟨w.heap.size + 1, 1, none⟩ = some (.int .i64 f) := carry hb5 (by go_simp)
  have yz_5 : w.heap.size + 1 < w5.heap.size := by have := hb5.size; first | omega | (simp at this; omega)
  have HB_5 := Lib.hid ((by repeat (first | exact HB_4.out | refine Below.drew ?_ | refine Below.setCell ?_ (by first | omega | (simp; done) | (simp; omega)) _ | refine Below.alloc ?_ (by first | omega | (simp; done) | (simp; omega)) _) : Below w.heap.size w _).trans (hb5.mono (by first | omega | (simp; done) | (simp; omega))))
  have nz_5 : w.heap.size ≤ w5.heap.size := HB_5.out.size
  clear hb5 x0_4 x1_4 y0_4 y1_4 HB_4
  go_wp2_with fail
  refine (HNx.out _).mono ?_
  rintro e w6 ⟨rfl, hb6⟩
  have x0_6 : w6.cell? ⟨w.heap.size, 0, none⟩ = some (.int .i64 m) := carry hb6 (by go_simp)
  have x1_6 : w6.cell? ⟨w.heap.size, 1, none⟩ = some (.int .i64 e) := carry hb6 (by go_simp)
  have xz_6 : w.heap.size < w6.heap.size := by have := hb6.size; first | omega | (simp at this; omega)
  have y0_6 : w6.cell? ⟨w.heap.size + 1, 0, none⟩ = some (.int .i64 k) := carry hb6 (by go_simp)
  have y1_6 : w6.cell? ⟨w.heap.size + 1, 1, none⟩ = some (.int .i64 f) := carry hb6 (by go_simp)
  have yz_6 : w.heap.size + 1 < w6.heap.size := by have := hb6.size; first | omega | (simp at this; omega)
  have HB_6 := Lib.hid ((by repeat (first | exact HB_5.out | refine Below.drew ?_ | refine Below.setCell ?_ (by first | omega | (simp; done) | (simp; omega)) _ | refine Below.alloc ?_ (by first | omega | (simp; done) | (simp; omega)) _) : Below w.heap.size w _).trans (hb6.mono (by first | omega | (simp; done) | (simp; omega))))
  have nz_6 : w.heap.size ≤ w6.heap.size := HB_6.out.size
  clear hb6 x0_5 x1_5 y0_5 y1_5 HB_5
  go_wp2_with fail
  refine (HNg.out _).mono ?_
  rintro e w7 ⟨rfl, hb7⟩
  have x0_7 : w7.cell? ⟨w.heap.size, 0, none⟩ = some (.int .i64 m) := carry hb7 (by go_simp)
  have x1_7 : w7.cell? ⟨w.heap.size, 1, none⟩ = some (.int .i64 e) := carry hb7 (by go_simp)
  have xz_7 : w.heap.size < w7.heap.size := by have := hb7.size; first | omega | (simp at this; omega)
  have y0_7 : w7.cell? ⟨w.heap.size + 1, 0, none⟩ = some (.int .i64 k) := carry hb7 (by go_simp)
  have y1_7 : w7.cell? ⟨w.heap.size + 1, 1, none⟩ = some (.int .i64 f) := carry hb7 (by go_simp)
  have yz_7 : w.heap.size + 1 < w7.heap.size := by have := hb7.size; first | omega | (simp at this; omega)
  have q0_7 : w7.cell? ⟨w6.heap.size, 0, none⟩ = some (.int .i64 0) := carry hb7 (by go_simp)
  have q1_7 : w7.cell? ⟨w6.heap.size, 1, none⟩ = some (.int .i64 0) := carry hb7 (by go_simp)
  have qz_7 : w6.heap.size < w7.heap.size := by have := hb7.size; first | omega | (simp at this; omega)
  have HB_7 := Lib.hid ((by repeat (first | exact HB_6.out | refine Below.drew ?_ | refine Below.setCell ?_ (by first | omega | (simp; done) | (simp; omega)) _ | refine Below.alloc ?_ (by first | omega | (simp; done) | (simp; omega)) _) : Below w.heap.size w _).trans (hb7.mono (by first | omega | (simp; done) | (simp; omega))))
  have nz_7 : w.heap.size ≤ w7.heap.size := HB_7.out.size
  clear hb7 x0_6 x1_6 y0_6 y1_6 HB_6
  go_wp2_with fail
  refine (HAb.out _).mono ?_
  rintro e w8 ⟨rfl, hb8⟩
  have x0_8 : w8.cell? ⟨w.heap.size, 0, none⟩ = some (.int .i64 m) := carry hb8 (by go_simp)
  have x1_8 : w8.cell? ⟨w.heap.size, 1, none⟩ = some (.int .i64 e) := carry hb8 (by go_simp)
  have xz_8 : w.heap.size < w8.heap.size := by have := hb8.size; first | omega | (simp at this; omega)
  have y0_8 : w8.cell? ⟨w.heap.size + 1, 0, none⟩ = some (.int .i64 k) := carry hb8 (by go_simp)
  have y1_8 : w8.cell? ⟨w.heap.size + 1, 1, none⟩ = some (.int .i64 f) := carry hb8 (by go_simp)
  have yz_8 : w.heap.size + 1 < w8.heap.size := by have := hb8.size; first | omega | (simp at this; omega)
  have q0_8 : w8.cell? ⟨w6.heap.size, 0, none⟩ = some (.int .i64 0) := carry hb8 (by go_simp)
  have q1_8 : w8.cell? ⟨w6.heap.size, 1, none⟩ = some (.int .i64 0) := carry hb8 (by go_simp)
  have qz_8 : w6.heap.size < w8.heap.size := by have := hb8.size; first | omega | (simp at this; omega)
  have g0_8 : w8.cell? ⟨w7.heap.size, 0, none⟩ = some (.int .i64 gm) := carry hb8 (by go_simp)
  have g1_8 : w8.cell? ⟨w7.heap.size, 1, none⟩ = some (.int .i64 e) := carry hb8 (by go_simp)
  have gz_8 : w7.heap.size < w8.heap.size := by have := hb8.size; first | omega | (simp at this; omega)
  have HB_8 := Lib.hid ((by repeat (first | exact HB_7.out | refine Below.drew ?_ | refine Below.setCell ?_ (by first | omega | (simp; done) | (simp; omega)) _ | refine Below.alloc ?_ (by first | omega | (simp; done) | (simp; omega)) _) : Below w.heap.size w _).trans (hb8.mono (by first | omega | (simp; done) | (simp; omega))))
  have nz_8 : w.heap.size ≤ w8.heap.size := HB_8.out.size
  clear hb8 x0_7 x1_7 y0_7 y1_7 q0_7 q1_7 HB_7
  go_wp2_with fail
  refine (HSg.out _).mono ?_
  rintro e w9 ⟨rfl, hb9⟩
  have x0_9 : w9.cell? ⟨w.heap.size, 0, none⟩ = some (.int .i64 m) := carry hb9 (by go_simp)
  have x1_9 : w9.cell? ⟨w.heap.size, 1, none⟩ = some (.int .i64 e) := carry hb9 (by go_simp)
  have xz_9 : w.heap.size < w9.heap.size := by have := hb9.size; first | omega | (simp at this; omega)
  have y0_9 : w9.cell? ⟨w.heap.size + 1, 0, none⟩ = some (.int .i64 k) := carry hb9 (by go_simp)
  have y1_9 : w9.cell? ⟨w.heap.size + 1, 1, none⟩ = some (.int .i64 f) := carry hb9 (by go_simp)
  have yz_9 : w.heap.size + 1 < w9.heap.size := by have := hb9.size; first | omega | (simp at this; omega)
  have q0_9 : w9.cell? ⟨w6.heap.size, 0, none⟩ = some (.int .i64 0) := carry hb9 (by go_simp)
  have q1_9 : w9.cell? ⟨w6.heap.size, 1, none⟩ = some (.int .i64 0) := carry hb9 (by go_simp)
  have qz_9 : w6.heap.size < w9.heap.size := by have := hb9.size; first | omega | (simp at this; omega)
  have g0_9 : w9.cell? ⟨w7.heap.size, 0, none⟩ = some (.int .i64 gm) := carry hb9 (by go_simp)
  have g1_9 : w9.cell? ⟨w7.heap.size, 1, none⟩ = some (.int .i64 e) := carry hb9 (by go_simp)
  have gz_9 : w7.heap.size < w9.heap.size := by have := hb9.size; first | omega | (simp at this; omega)
  have b0_9 : w9.cell? ⟨w8.heap.size, 0, none⟩ = some (.int .i64 m) := carry hb9 (by go_simp)
  have b1_9 : w9.cell? ⟨w8.heap.size, 1, none⟩ = some (.int .i64 e) := carry hb9 (by go_simp)
  have bz_9 : w8.heap.size < w9.heap.size := by have := hb9.size; first | omega | (simp at this; omega)
  have HB_9 := Lib.hid ((by repeat (first | exact HB_8.out | refine Below.drew ?_ | refine Below.setCell ?_ (by first | omega | (simp; done) | (simp; omega)) _ | refine Below.alloc ?_ (by first | omega | (simp; done) | (simp; omega)) _) : Below w.heap.size w _).trans (hb9.mono (by first | omega | (simp; done) | (simp; omega))))
  have nz_9 : w.heap.size ≤ w9.heap.size := HB_9.out.size
  clear hb9 x0_8 x1_8 y0_8 y1_8 q0_8 q1_8 g0_8 g1_8 HB_8
  go_wp2_with fail
  refine (HCm.out _).mono ?_
  rintro e w10 ⟨rfl, hb10⟩
  have x0_10 : w10.cell? ⟨w.heap.size, 0, none⟩ = some (.int .i64 m) := carry hb10 (by go_simp)
  have x1_10 : w10.cell? ⟨w.heap.size, 1, none⟩ = some (.int .i64 e) := carry hb10 (by go_simp)
  have xz_10 : w.heap.size < w10.heap.size := by have := hb10.size; first | omega | (simp at this; omega)
  have y0_10 : w10.cell? ⟨w.heap.size + 1, 0, none⟩ = some (.int .i64 k) := carry hb10 (by go_simp)
  have y1_10 : w10.cell? ⟨w.heap.size + 1, 1, none⟩ = some (.int .i64 f) := carry hb10 (by go_simp)
  have yz_10 : w.heap.size + 1 < w10.heap.size := by have := hb10.size; first | omega | (simp at this; omega)
  have q0_10 : w10.cell? ⟨w6.heap.size, 0, none⟩ = some (.int .i64 0) := carry hb10 (by go_simp)
  have q1_10 : w10.cell? ⟨w6.heap.size, 1, none⟩ = some (.int .i64 0) := carry hb10 (by go_simp)
  have qz_10 : w6.heap.size < w10.heap.size := by have := hb10.size; first | omega | (simp at this; omega)
  have g0_10 : w10.cell? ⟨w7.heap.size, 0, none⟩ = some (.int .i64 gm) := carry hb10 (by go_simp)
  have g1_10 : w10.cell? ⟨w7.heap.size, 1, none⟩ = some (.int .i64 e) := carry hb10 (by go_simp)
  have gz_10 : w7.heap.size < w10.heap.size := by have := hb10.size; first | omega | (simp at this; omega)
  have b0_10 : w10.cell? ⟨w8.heap.size, 0, none⟩ = some (.int .i64 m) := carry hb10 (by go_simp)
  have b1_10 : w10.cell? ⟨w8.heap.size, 1, none⟩ = some (.int .i64 e) := carry hb10 (by go_simp)
  have bz_10 : w8.heap.size < w10.heap.size := by have := hb10.size; first | omega | (simp at this; omega)
  have HB_10 := Lib.hid ((by repeat (first | exact HB_9.out | refine Below.drew ?_ | refine Below.setCell ?_ (by first | omega | (simp; done) | (simp; omega)) _ | refine Below.alloc ?_ (by first | omega | (simp; done) | (simp; omega)) _) : Below w.heap.size w _).trans (hb10.mono (by first | omega | (simp; done) | (simp; omega))))
  have nz_10 : w.heap.size ≤ w10.heap.size := HB_10.out.size
  clear hb10 x0_9 x1_9 y0_9 y1_9 q0_9 q1_9 g0_9 g1_9 b0_9 b1_9 HB_9
  go_wp2_with fail
  refine (HVx.out _).mono ?_
  rintro e w11 ⟨rfl, hb11⟩
  have x0_11 : w11.cell? ⟨w.heap.size, 0, none⟩ = some (.int .i64 m) := carry hb11 (by go_simp)
  have x1_11 : w11.cell? ⟨w.heap.size, 1, none⟩ = some (.int .i64 e) := carry hb11 (by go_simp)
  have xz_11 : w.heap.size < w11.heap.size := by have := hb11.size; first | omega | (simp at this; omega)
  have y0_11 : w11.cell? ⟨w.heap.size + 1, 0, none⟩ = some (.int .i64 k) := carry hb11 (by go_simp)
  have y1_11 : w11.cell? ⟨w.heap.size + 1, 1, none⟩ = some (.int .i64 f) := carry hb11 (by go_simp)
  have yz_11 : w.heap.size + 1 < w11.heap.size := by have := hb11.size; first | omega | (simp at this; omega)
  have q0_11 : w11.cell? ⟨w6.heap.size, 0, none⟩ = some (.int .i64 0) := carry hb11 (by go_simp)
  have q1_11 : w11.cell? ⟨w6.heap.size, 1, none⟩ = some (.int .i64 0) := carry hb11 (by go_simp)
  have qz_11 : w6.heap.size < w11.heap.size := by have := hb11.size; first | omega | (simp at this; omega)
  have g0_11 : w11.cell? ⟨w7.heap.size, 0, none⟩ = some (.int .i64 gm) := carry hb11 (by go_simp)
  have g1_11 : w11.cell? ⟨w7.heap.size, 1, none⟩ = some (.int .i64 e) := carry hb11 (by go_simp)
  have gz_11 : w7.heap.size < w11.heap.size := by have := hb11.size; first | omega | (simp at this; omega)
  have b0_11 : w11.cell? ⟨w8.heap.size, 0, none⟩ = some (.int .i64 m) := carry hb11 (by go_simp)
  have b1_11 : w11.cell? ⟨w8.heap.size, 1, none⟩ = some (.int .i64 e) := carry hb11 (by go_simp)
  have bz_11 : w8.heap.size < w11.heap.size := by have := hb11.size; first | omega | (simp at this; omega)
  have HB_11 := Lib.hid ((by repeat (first | exact HB_10.out | refine Below.drew ?_ | refine Below.setCell ?_ (by first | omega | (simp; done) | (simp; omega)) _ | refine Below.alloc ?_ (by first | omega | (simp; done) | (simp; omega)) _) : Below w.heap.size w _).trans (hb11.mono (by first | omega | (simp; done) | (simp; omega))))
  have nz_11 : w.heap.size ≤ w11.heap.size := HB_11.out.size
  clear hb11 x0_10 x1_10 y0_10 y1_10 q0_10 q1_10 g0_10 g1_10 b0_10 b1_10 HB_10
  go_wp2_with fail
  refine (HVy.out _).mono ?_
  rintro e w12 ⟨rfl, hb12⟩
  have x0_12 : w12.cell? ⟨w.heap.size, 0, none⟩ = some (.int .i64 m) := carry hb12 (by go_simp)
  have x1_12 : w12.cell? ⟨w.heap.size, 1, none⟩ = some (.int .i64 e) := carry hb12 (by go_simp)
  have xz_12 : w.heap.size < w12.heap.size := by have := hb12.size; first | omega | (simp at this; omega)
  have y0_12 : w12.cell? ⟨w.heap.size + 1, 0, none⟩ = some (.int .i64 k) := carry hb12 (by go_simp)
  have y1_12 : w12.cell? ⟨w.heap.size + 1, 1, none⟩ = some (.int .i64 f) := carry hb12 (by go_simp)
  have yz_12 : w.heap.size + 1 < w12.heap.size := by have := hb12.size; first | omega | (simp at this; omega)
  have q0_12 : w12.cell? ⟨w6.heap.size, 0, none⟩ = some (.int .i64 0) := carry hb12 (by go_simp)
  have q1_12 : w12.cell? ⟨w6.heap.size, 1, none⟩ = some (.int .i64 0) := carry hb12 (by go_simp)
  have qz_12 : w6.heap.size < w12.heap.size := by have := hb12.size; first | omega | (simp at this; omega)
  have g0_12 : w12.cell? ⟨w7.heap.size, 0, none⟩ = some (.int .i64 gm) := carry hb12 (by go_simp)
  have g1_12 : w12.cell? ⟨w7.heap.size, 1, none⟩ = some (.int .i64 e) := carry hb12 (by go_simp)
  have gz_12 : w7.heap.size < w12.heap.size := by have := hb12.size; first | omega | (simp at this; omega)
  have b0_12 : w12.cell? ⟨w8.heap.size, 0, none⟩ = some (.int .i64 m) := carry hb12 (by go_simp)
  have b1_12 : w12.cell? ⟨w8.heap.size, 1, none⟩ = some (.int .i64 e) := carry hb12 (by go_simp)
  have bz_12 : w8.heap.size < w12.heap.size := by have := hb12.size; first | omega | (simp at this; omega)
  have HB_12 := Lib.hid ((by repeat (first | exact HB_11.out | refine Below.drew ?_ | refine Below.setCell ?_ (by first | omega | (simp; done) | (simp; omega)) _ | refine Below.alloc ?_ (by first | omega | (simp; done) | (simp; omega)) _) : Below w.heap.size w _).trans (hb12.mono (by first | omega | (simp; done) | (simp; omega))))
  have nz_12 : w.heap.size ≤ w12.heap.size := HB_12.out.size
  clear hb12 x0_11 x1_11 y0_11 y1_11 q0_11 q1_11 g0_11 g1_11 b0_11 b1_11 HB_11
  go_wp2_with fail
  refine (HVy.out _).mono ?_
  rintro e w13 ⟨rfl, hb13⟩
  have x0_13 : w13.cell? ⟨w.heap.size, 0, none⟩ = some (.int .i64 m) := carry hb13 (by go_simp)
  have x1_13 : w13.cell? ⟨w.heap.size, 1, none⟩ = some (.int .i64 e) := carry hb13 (by go_simp)
  have xz_13 : w.heap.size < w13.heap.size := by have := hb13.size; first | omega | (simp at this; omega)
  have y0_13 : w13.cell? ⟨w.heap.size + 1, 0, none⟩ = some (.int .i64 k) := carry hb13 (by go_simp)
  have y1_13 : w13.cell? ⟨w.heap.size + 1, 1, none⟩ = some (.int .i64 f) := carry hb13 (by go_simp)
  have yz_13 : w.heap.size + 1 < w13.heap.size := by have := hb13.size; first | omega | (simp at this; omega)
  have q0_13 : w13.cell? ⟨w6.heap.size, 0, none⟩ = some (.int .i64 0) := carry hb13 (by go_simp)
  have q1_13 : w13.cell? ⟨w6.heap.size, 1, none⟩ = some (.int .i64 0) := carry hb13 (by go_simp)
  have qz_13 : w6.heap.size < w13.heap.size := by have := hb13.size; first | omega | (simp at this; omega)
  have g0_13 : w13.cell? ⟨w7.heap.size, 0, none⟩ = some (.int .i64 gm) := carry hb13 (by go_simp)
  have g1_13 : w13.cell? ⟨w7.heap.size, 1, none⟩ = some (.int .i64 e) := carry hb13 (by go_simp)
  have gz_13 : w7.heap.size < w13.heap.size := by have := hb13.size; first | omega | (simp at this; omega)
  have b0_13 : w13.cell? ⟨w8.heap.size, 0, none⟩ = some (.int .i64 m) := carry hb13 (by go_simp)
  have b1_13 : w13.cell? ⟨w8.heap.size, 1, none⟩ = some (.int .i64 e) := carry hb13 (by go_simp)
  have bz_13 : w8.heap.size < w13.heap.size := by have := hb13.size; first | omega | (simp at this; omega)
  have HB_13 := Lib.hid ((by repeat (first | exact HB_12.out | refine Below.drew ?_ | refine Below.setCell ?_ (by first | omega | (simp; done) | (simp; omega)) _ | refine Below.alloc ?_ (by first | omega | (simp; done) | (simp; omega)) _) : Below w.heap.size w _).trans (hb13.mono (by first | omega | (simp; done) | (simp; omega))))
  have nz_13 : w.heap.size ≤ w13.heap.size := HB_13.out.size
  clear hb13 x0_12 x1_12 y0_12 y1_12 q0_12 q1_12 g0_12 g1_12 b0_12 b1_12 HB_12
  go_wp2_with fail
  refine (HRM.out _).mono ?_
  rintro e w14 ⟨rfl, hb14⟩
  have x0_14 : w14.cell? ⟨w.heap.size, 0, none⟩ = some (.int .i64 m) := carry hb14 (by go_simp)
  have x1_14 : w14.cell? ⟨w.heap.size, 1, none⟩ = some (.int .i64 e) := carry hb14 (by go_simp)
  have xz_14 : w.heap.size < w14.heap.size := by have := hb14.size; first | omega | (simp at this; omega)
  have y0_14 : w14.cell? ⟨w.heap.size + 1, 0, none⟩ = some (.int .i64 k) := carry hb14 (by go_simp)
  have y1_14 : w14.cell? ⟨w.heap.size + 1, 1, none⟩ = some (.int .i64 f) := carry hb14 (by go_simp)
  have yz_14 : w.heap.size + 1 < w14.heap.size := by have := hb14.size; first | omega | (simp at this; omega)
  have q0_14 : w14.cell? ⟨w6.heap.size, 0, none⟩ = some (.int .i64 0) := carry hb14 (by go_simp)
  have q1_14 : w14.cell? ⟨w6.heap.size, 1, none⟩ = some (.int .i64 0) := carry hb14 (by go_simp)
  have qz_14 : w6.heap.size < w14.heap.size := by have := hb14.size; first | omega | (simp at this; omega)
  have g0_14 : w14.cell? ⟨w7.heap.size, 0, none⟩ = some (.int .i64 gm) := carry hb14 (by go_simp)
  have g1_14 : w14.cell? ⟨w7.heap.size, 1, none⟩ = some (.int .i64 e) := carry hb14 (by go_simp)
  have gz_14 : w7.heap.size < w14.heap.size := by have := hb14.size; first | omega | (simp at this; omega)
  have b0_14 : w14.cell? ⟨w8.heap.size, 0, none⟩ = some (.int .i64 m) := carry hb14 (by go_simp)
  have b1_14 : w14.cell? ⟨w8.heap.size, 1, none⟩ = some (.int .i64 e) := carry hb14 (by go_simp)
  have bz_14 : w8.heap.size < w14.heap.size := by have := hb14.size; first | omega | (simp at this; omega)
  have HB_14 := Lib.hid ((by repeat (first | exact HB_13.out | refine Below.drew ?_ | refine Below.setCell ?_ (by first | omega | (simp; done) | (simp; omega)) _ | refine Below.alloc ?_ (by first | omega | (simp; done) | (simp; omega)) _) : Below w.heap.size w _).trans (hb14.mono (by first | omega | (simp; done) | (simp; omega))))
  have nz_14 : w.heap.size ≤ w14.heap.size := HB_14.out.size
  clear hb14 x0_13 x1_13 y0_13 y1_13 q0_13 q1_13 g0_13 g1_13 b0_13 b1_13 HB_13
  go_wp2_with fail
  generalize hW : w14.alloc _ = w15
  have x0_15 : w15.cell? ⟨w.heap.size, 0, none⟩ = some (.int .i64 m) := by rw [← hW]; clear hW; go_simp
  have x1_15 : w15.cell? ⟨w.heap.size, 1, none⟩ = some (.int .i64 e) := by rw [← hW]; clear hW; go_simp
  have xz_15 : w.heap.size < w15.heap.size := by rw [← hW]; clear hW; simp <;> omega
  have q0_15 : w15.cell? ⟨w6.heap.size, 0, none⟩ = some (.int .i64 0) := by rw [← hW]; clear hW; go_simp
  have q1_15 : w15.cell? ⟨w6.heap.size, 1, none⟩ = some (.int .i64 0) := by rw [← hW]; clear hW; go_simp
  have qz_15 : w6.heap.size < w15.heap.size := by rw [← hW]; clear hW; simp <;> omega
  have g0_15 : w15.cell? ⟨w7.heap.size, 0, none⟩ = some (.int .i64 gm) := by rw [← hW]; clear hW; go_simp
  have g1_15 : w15.cell? ⟨w7.heap.size, 1, none⟩ = some (.int .i64 e) := by rw [← hW]; clear hW; go_simp
  have gz_15 : w7.heap.size < w15.heap.size := by rw [← hW]; clear hW; simp <;> omega
  have b0_15 : w15.cell? ⟨w8.heap.size, 0, none⟩ = some (.int .i64 m) := by rw [← hW]; clear hW; go_simp
  have b1_15 : w15.cell? ⟨w8.heap.size, 1, none⟩ = some (.int .i64 e) := by rw [← hW]; clear hW; go_simp
  have bz_15 : w8.heap.size < w15.heap.size := by rw [← hW]; clear hW; simp <;> omega
  have t0_15 : w15.cell? ⟨w14.heap.size, 0, none⟩ = some (.int .i64 m) := by rw [← hW]; clear hW; go_simp
  have t1_15 : w15.cell? ⟨w14.heap.size, 1, none⟩ = some (.int .i64 e) := by rw [← hW]; clear hW; go_simp
  have tz_15 : w14.heap.size < w15.heap.size := by rw [← hW]; clear hW; simp <;> omega
  have HB_15 := Lib.hid ((by rw [← hW]; clear hW; repeat (first | exact HB_14.out | refine Below.drew ?_ | refine Below.setCell ?_ (by first | omega | (simp; done) | (simp; omega)) _ | refine Below.alloc ?_ (by first | omega | (simp; done) | (simp; omega)) _)) : Below w.heap.size w w15)
  clear hW HB_14 x0_14 x1_14 y0_14 y1_14 q0_14 q1_14 g0_14 g1_14 b0_14 b1_14
  have nz_15 : w.heap.size ≤ w15.heap.size := HB_15.out.size
  have K0 := Lib.hid (Below.refl w15.heap.size w15)
  have SK := Lib.hid (show ∀ wx, Below w15.heap.size w15 wx → wx.cell? ⟨w.heap.size, 0, none⟩ = some (.int .i64 m) ∧ wx.cell? ⟨w.heap.size, 1, none⟩ = some (.int .i64 e) ∧ w.heap.size < wx.heap.size ∧ wx.cell? ⟨w6.heap.size, 0, none⟩ = some (.int .i64 0) ∧ wx.cell? ⟨w6.heap.size, 1, none⟩ = some (.int .i64 0) ∧ w6.heap.size < wx.heap.size ∧ wx.cell? ⟨w7.heap.size, 0, none⟩ = some (.int .i64 gm) ∧ wx.cell? ⟨w7.heap.size, 1, none⟩ = some (.int .i64 e) ∧ w7.heap.size < wx.heap.size ∧ wx.cell? ⟨w8.heap.size, 0, none⟩ = some (.int .i64 m) ∧ wx.cell? ⟨w8.heap.size, 1, none⟩ = some (.int .i64 e) ∧ w8.heap.size < wx.heap.size ∧ wx.cell? ⟨w14.heap.size, 0, none⟩ = some (.int .i64 m) ∧ wx.cell? ⟨w14.heap.size, 1, none⟩ = some (.int .i64 e) ∧ w14.heap.size < wx.heap.size ∧ Below w15.heap.size w15 wx from fun wx h => ⟨carry h x0_15, carry h x1_15, Nat.lt_of_lt_of_le xz_15 h.size, carry h q0_15, carry h q1_15, Nat.lt_of_lt_of_le qz_15 h.size, carry h g0_15, carry h g1_15, Nat.lt_of_lt_of_le gz_15 h.size, carry h b0_15, carry h b1_15, Nat.lt_of_lt_of_le bz_15 h.size, carry h t0_15, carry h t1_15, Nat.lt_of_lt_of_le tz_15 h.size, h⟩)
  go_wp2_with fail
  go_region_held3 (fun wx => wx.cell? ⟨w.heap.size, 0, none⟩ = some (.int .i64 m) ∧ wx.cell? ⟨w.heap.size, 1, none⟩ = some (.int .i64 e) ∧ w.heap.size < wx.heap.size ∧ wx.cell? ⟨w6.heap.size, 0, none⟩ = some (.int .i64 0) ∧ wx.cell? ⟨w6.heap.size, 1, none⟩ = some (.int .i64 0) ∧ w6.heap.size < wx.heap.size ∧ wx.cell? ⟨w7.heap.size, 0, none⟩ = some (.int .i64 gm) ∧ wx.cell? ⟨w7.heap.size, 1, none⟩ = some (.int .i64 e) ∧ w7.heap.size < wx.heap.size ∧ wx.cell? ⟨w8.heap.size, 0, none⟩ = some (.int .i64 m) ∧ wx.cell? ⟨w8.heap.size, 1, none⟩ = some (.int .i64 e) ∧ w8.heap.size < wx.heap.size ∧ wx.cell? ⟨w14.heap.size, 0, none⟩ = some (.int .i64 m) ∧ wx.cell? ⟨w14.heap.size, 1, none⟩ = some (.int .i64 e) ∧ w14.heap.size < wx.heap.size ∧ Below w15.heap.size w15 wx) (first | (go_keep; done) | exact SK.out _ (by first | with_reducible assumption | with_reducible exact K0.out | with_reducible exact K0.out.drew | with_reducible exact Below.drew (by with_reducible assumption)))
    (first
      | (go_at_call 23; ((with_reducible refine (HRI.out _).mono ?_); rintro r wq ⟨rfl, hbq⟩; have qb : Below w15.heap.size w15 wq := Below.trans (by first | with_reducible assumption | with_reducible exact K0.out | with_reducible exact K0.out.drew | with_reducible exact Below.drew (by with_reducible assumption)) (hbq.mono (Below.size (by first | with_reducible assumption | with_reducible exact K0.out | with_reducible exact K0.out.drew | with_reducible exact Below.drew (by with_reducible assumption))))))
      | (go_at_call 22; ((with_reducible refine (HRN.out _).mono ?_); rintro r wq ⟨rfl, hbq⟩; have qb : Below w15.heap.size w15 wq := Below.trans (by first | with_reducible assumption | with_reducible exact K0.out | with_reducible exact K0.out.drew | with_reducible exact Below.drew (by with_reducible assumption)) (hbq.mono (Below.size (by first | with_reducible assumption | with_reducible exact K0.out | with_reducible exact K0.out.drew | with_reducible exact Below.drew (by with_reducible assumption))))))
      | (go_at_call 8; ((with_reducible refine (HY.out _ _ _).mono ?_); rintro r wq ⟨rfl, hbq⟩; have qb : Below w15.heap.size w15 wq := Below.trans (by first | with_reducible assumption | with_reducible exact K0.out | with_reducible exact K0.out.drew | with_reducible exact Below.drew (by with_reducible assumption)) (hbq.mono (Below.size (by first | with_reducible assumption | with_reducible exact K0.out | with_reducible exact K0.out.drew | with_reducible exact Below.drew (by with_reducible assumption))))))
      | (go_at_call 24; ((with_reducible refine (HRC.out _).mono ?_); rintro r wq ⟨rfl, hbq⟩; have qb : Below w15.heap.size w15 wq := Below.trans (by first | with_reducible assumption | with_reducible exact K0.out | with_reducible exact K0.out.drew | with_reducible exact Below.drew (by with_reducible assumption)) (hbq.mono (Below.size (by first | with_reducible assumption | with_reducible exact K0.out | with_reducible exact K0.out.drew | with_reducible exact Below.drew (by with_reducible assumption)))))))
  rename _ ∧ _ ∧ _ ∧ _ ∧ _ ∧ _ ∧ _ ∧ _ ∧ _ ∧ _ ∧ _ ∧ _ ∧ _ ∧ _ ∧ _ ∧ Below w15.heap.size w15 _ => hS
  obtain ⟨w16, rfl⟩ : ∃ x, x = wq := ⟨_, rfl⟩
  obtain ⟨x0_16, x1_16, xz_16, q0_16, q1_16, qz_16, g0_16, g1_16, gz_16, b0_16, b1_16, bz_16, t0_16, t1_16, tz_16, xb⟩ := hS
  have HB_16 := Lib.hid (HB_15.out.trans (xb.mono HB_15.out.size))
  clear xb HB_15 K0 SK x0_15 x1_15 q0_15 q1_15 g0_15 g1_15 b0_15 b1_15 t0_15 t1_15
  have nz_16 : w.heap.size ≤ w16.heap.size := HB_16.out.size
  go_wp2_with fail
  refine (HSan.out _ (by repeat (first | exact HB_16.out | refine Below.drew ?_ | refine Below.setCell ?_ (by first | omega | (simp; done) | (simp; omega)) _ | refine Below.alloc ?_ (by first | omega | (simp; done) | (simp; omega)) _))).mono ?_
  rintro e w17 ⟨rfl, hb17⟩
  have q0_17 : w17.cell? ⟨w6.heap.size, 0, none⟩ = some (.int .i64 0) := carry hb17 (by go_simp)
  have q1_17 : w17.cell? ⟨w6.heap.size, 1, none⟩ = some (.int .i64 0) := carry hb17 (by go_simp)
  have qz_17 : w6.heap.size < w17.heap.size := by have := hb17.size; first | omega | (simp at this; omega)
  have HB_17 := Lib.hid ((by repeat (first | exact HB_16.out | refine Below.drew ?_ | refine Below.setCell ?_ (by first | omega | (simp; done) | (simp; omega)) _ | refine Below.alloc ?_ (by first | omega | (simp; done) | (simp; omega)) _) : Below w.heap.size w _).trans (hb17.mono (by first | omega | (simp; done) | (simp; omega))))
  have nz_17 : w.heap.size ≤ w17.heap.size := HB_17.out.size
  clear hb17 x0_16 x1_16 q0_16 q1_16 g0_16 g1_16 b0_16 b1_16 t0_16 t1_16 HB_16
  go_wp2_with fail
  go_ret
  exact ⟨rfl, by repeat (first | exact HB_17.out | refine Below.drew ?_ | refine Below.setCell ?_ (by first | omega | (simp; done) | (simp; omega)) _ | refine Below.alloc ?_ (by first | omega | (simp; done) | (simp; omega)) _)⟩

set_option maxRecDepth 100000 in
set_option maxHeartbeats 8000000 in
theorem midG (m e k f i0 n0 am ae ax fm fe i nm ne gm s c : Int) (w : World) (HAt : Hid (∀ W : World, Calls Tryz.prog 7 #[.int .i64 i0] W fun r w' => r = .returned (rE am ae ax) ∧ Below W.heap.size W w')) (HF : Hid (-2533359615 ≤ i0 ∧ i0 ≤ 2533359615 → ax = 0 ∧ ∀ W : World, Calls Tryz.prog 9 #[.int .i64 i0] W fun r w' => r = .returned (realV am ae) ∧ Below W.heap.size W w')) (HG : Hid (¬ (-2533359615 ≤ i0 ∧ i0 ≤ 2533359615) → ax = 1 ∧ am = 0 ∧ ae = 0)) (HY : Hid (∀ (a b : Int) (W : World), Calls Tryz.prog 8 #[realV a b, .int .i64 0, realV a b] W fun r w' => r = .returned (.bool true) ∧ Below W.heap.size W w')) (HFI : Hid (∀ W : World, Calls Tryz.prog 10 #[.int .i64 n0] W fun r w' => r = .returned (realV fm fe) ∧ Below W.heap.size W w')) (HRF : Hid (∀ W : World, Calls Tryz.prog 11 #[.int .i64 n0] W fun r w' => r = .returned (realV fm fe) ∧ Below W.heap.size W w')) (HV : Hid (∀ W : World, Calls Tryz.prog 12 #[realV m e] W fun r w' => r = .returned (.bool true) ∧ Below W.heap.size W w')) (HVx : Hid (∀ W : World, Calls Tryz.prog 13 #[realV m e] W fun r w' => r = .returned (.bool true) ∧ Below W.heap.size W w')) (HVy : Hid (∀ W : World, Calls Tryz.prog 13 #[realV k f] W fun r w' => r = .returned (.bool true) ∧ Below W.heap.size W w')) (HIx : Hid (∀ W : World, Calls Tryz.prog 14 #[realV m e] W fun r w' => r = .returned (iE i 0) ∧ Below W.heap.size W w')) (HNx : Hid (∀ W : World, Calls Tryz.prog 15 #[realV m e] W fun r w' => r = .returned (rE nm ne 0) ∧ Below W.heap.size W w')) (HNg : Hid (∀ W : World, Calls Tryz.prog 16 #[realV m e] W fun r w' => r = .returned (rE gm e 0) ∧ Below W.heap.size W w')) (HAb : Hid (∀ W : World, Calls Tryz.prog 17 #[realV m e] W fun r w' => r = .returned (rE m e 0) ∧ Below W.heap.size W w')) (HSg : Hid (∀ W : World, Calls Tryz.prog 18 #[realV m e] W fun r w' => r = .returned (iE s 0) ∧ Below W.heap.size W w')) (HCm : Hid (∀ W : World, Calls Tryz.prog 19 #[realV m e, realV k f] W fun r w' => r = .returned (iE c 0) ∧ Below W.heap.size W w')) (HSan : Hid (∀ W, Below w.heap.size w W → Calls Tryz.prog 20 #[] W fun r W' => r = .returned (.bool true) ∧ Below W.heap.size W W')) (HRI : Hid (∀ W : World, Calls Tryz.prog 23 #[realV m e] W fun r w' => r = .returned (.int .i64 i) ∧ Below W.heap.size W w')) (HRN : Hid (∀ W : World, Calls Tryz.prog 22 #[realV m e] W fun r w' => r = .returned (realV gm e) ∧ Below W.heap.size W w')) (HRC : Hid (∀ W : World, Calls Tryz.prog 24 #[.int .i64 m, .int .i64 0] W fun r w' => r = .returned (.int .i64 s) ∧ Below W.heap.size W w')) (HRM : Hid (∀ W : World, Calls Tryz.prog 21 #[realV m e, realV k f] W fun r w' => r = .returned (.int .i64 c) ∧ Below W.heap.size W w')) (hm : ¬ m < 0) (hi : (i == 2533359615) = false) (hw : IntKind.i64.wrap (i + 1) = i + 1) (HRA : Hid (∀ W : World, Calls Tryz.prog 9 #[.int .i64 (i + 1)] W fun r w' => r = .returned (realV nm ne) ∧ Below W.heap.size W w'))  :
    Calls Tryz.prog 3 #[realV m e, realV k f, .int .i64 i0, .int .i64 n0] w fun r w' => r = .returned (.bool true) ∧ Below w.heap.size w w' := by
  obtain ⟨tt, htt⟩ : ∃ tt : Bool, tt = decide (-2533359615 ≤ i0 ∧ i0 ≤ 2533359615) := ⟨_, rfl⟩
  have HT := Lib.hid htt
  clear htt
  go_enter Tryz.func3, Tryz.ntmps3
  go_wp2_with fail
  refine (HAt.out _).mono ?_
  rintro e w1 ⟨rfl, hb1⟩
  have x0_1 : w1.cell? ⟨w.heap.size, 0, none⟩ = some (.int .i64 m) := carry hb1 (by go_simp)
  have x1_1 : w1.cell? ⟨w.heap.size, 1, none⟩ = some (.int .i64 e) := carry hb1 (by go_simp)
  have xz_1 : w.heap.size < w1.heap.size := by have := hb1.size; first | omega | (simp at this; omega)
  have y0_1 : w1.cell? ⟨w.heap.size + 1, 0, none⟩ = some (.int .i64 k) := carry hb1 (by go_simp)
  have y1_1 : w1.cell? ⟨w.heap.size + 1, 1, none⟩ = some (.int .i64 f) := carry hb1 (by go_simp)
  have yz_1 : w.heap.size + 1 < w1.heap.size := by have := hb1.size; first | omega | (simp at this; omega)
  have HB_1 := Lib.hid ((by repeat (first | exact Below.refl _ _ | refine Below.drew ?_ | refine Below.setCell ?_ (by first | omega | (simp; done) | (simp; omega)) _ | refine Below.alloc ?_ (by first | omega | (simp; done) | (simp; omega)) _) : Below w.heap.size w _).trans (hb1.mono (by first | omega | (simp; done) | (simp; omega))))
  have nz_1 : w.heap.size ≤ w1.heap.size := HB_1.out.size
  clear hb1
  go_upto_region 2 with fail
  generalize hW : w1.alloc _ = w2
  have x0_2 : w2.cell? ⟨w.heap.size, 0, none⟩ = some (.int .i64 m) := by rw [← hW]; clear hW; go_simp
  have x1_2 : w2.cell? ⟨w.heap.size, 1, none⟩ = some (.int .i64 e) := by rw [← hW]; clear hW; go_simp
  have xz_2 : w.heap.size < w2.heap.size := by rw [← hW]; clear hW; simp <;> omega
  have y0_2 : w2.cell? ⟨w.heap.size + 1, 0, none⟩ = some (.int .i64 k) := by rw [← hW]; clear hW; go_simp
  have y1_2 : w2.cell? ⟨w.heap.size + 1, 1, none⟩ = some (.int .i64 f) := by rw [← hW]; clear hW; go_simp
  have yz_2 : w.heap.size + 1 < w2.heap.size := by rw [← hW]; clear hW; simp <;> omega
  have a0_2 : w2.cell? ⟨w1.heap.size, 0, none⟩ = some (.int .i64 am) := by rw [← hW]; clear hW; go_simp
  have a1_2 : w2.cell? ⟨w1.heap.size, 1, none⟩ = some (.int .i64 ae) := by rw [← hW]; clear hW; go_simp
  have az_2 : w1.heap.size < w2.heap.size := by rw [← hW]; clear hW; simp <;> omega
  have HB_2 := Lib.hid (show Below w.heap.size w w2 by rw [← hW]; exact Below.alloc HB_1.out (by have := HB_1.out.size; omega) _)
  clear hW HB_1 x0_1 x1_1 y0_1 y1_1
  have nz_2 : w.heap.size ≤ w2.heap.size := HB_2.out.size
  go_cut [33] from 28 to 33 (fun s wx => s = .bool tt ∧ w2 = wx)
  case first =>
    by_cases h1 : -2533359615 ≤ i0
    · by_cases h2 : i0 ≤ 2533359615
      · go_wp2_with fail
        go_meet
        case rel => exact ⟨by rw [HT.out]; simp [h1, h2], rfl⟩
      · have h3 : decide (i0 ≤ 2533359615) = false := by simpa using h2
        go_wp2_with fail
        go_meet
        case rel => exact ⟨by rw [HT.out]; simp [h2], rfl⟩
    · have h3 : decide (-2533359615 ≤ i0) = false := by simpa using h1
      have h4 : decide (-2533359615 ≤ i0 ∧ i0 ≤ 2533359615) = false := decide_eq_false (fun h => h1 h.1)
      go_wp2_with fail
      go_meet
      case rel => exact ⟨by rw [HT.out, h4], rfl⟩
  case rest =>
  obtain ⟨rfl, rfl⟩ := hcut
  go_upto_if 33 with fail
  go_cut [9, 10] from 34 to 46 (fun p q wx => wx.cell? ⟨w.heap.size, 0, none⟩ = some (.int .i64 m) ∧ wx.cell? ⟨w.heap.size, 1, none⟩ = some (.int .i64 e) ∧ w.heap.size < wx.heap.size ∧ wx.cell? ⟨w.heap.size + 1, 0, none⟩ = some (.int .i64 k) ∧ wx.cell? ⟨w.heap.size + 1, 1, none⟩ = some (.int .i64 f) ∧ w.heap.size + 1 < wx.heap.size ∧ Below w.heap.size w wx)
  case first =>
    cases tt
    · obtain ⟨rfl, rfl, rfl⟩ := HG.out (of_decide_eq_false HT.out.symm)
      go_wp2_with fail
      go_meet
      case rel => exact ⟨x0_2, x1_2, xz_2, y0_2, y1_2, yz_2, HB_2.out⟩
    · obtain ⟨rfl, HRAt⟩ := HF.out (of_decide_eq_true HT.out.symm)
      have K0 := Lib.hid (Below.refl w2.heap.size w2)
      have SK := Lib.hid (show ∀ wx, Below w2.heap.size w2 wx → wx.cell? ⟨w.heap.size, 0, none⟩ = some (.int .i64 m) ∧ wx.cell? ⟨w.heap.size, 1, none⟩ = some (.int .i64 e) ∧ w.heap.size < wx.heap.size ∧ wx.cell? ⟨w.heap.size + 1, 0, none⟩ = some (.int .i64 k) ∧ wx.cell? ⟨w.heap.size + 1, 1, none⟩ = some (.int .i64 f) ∧ w.heap.size + 1 < wx.heap.size ∧ wx.cell? ⟨w1.heap.size, 0, none⟩ = some (.int .i64 am) ∧ wx.cell? ⟨w1.heap.size, 1, none⟩ = some (.int .i64 ae) ∧ w1.heap.size < wx.heap.size ∧ Below w2.heap.size w2 wx from fun wx h => ⟨carry h x0_2, carry h x1_2, Nat.lt_of_lt_of_le xz_2 h.size, carry h y0_2, carry h y1_2, Nat.lt_of_lt_of_le yz_2 h.size, carry h a0_2, carry h a1_2, Nat.lt_of_lt_of_le az_2 h.size, h⟩)
      go_wp2_with fail
      go_region_held3 (fun wx => wx.cell? ⟨w.heap.size, 0, none⟩ = some (.int .i64 m) ∧ wx.cell? ⟨w.heap.size, 1, none⟩ = some (.int .i64 e) ∧ w.heap.size < wx.heap.size ∧ wx.cell? ⟨w.heap.size + 1, 0, none⟩ = some (.int .i64 k) ∧ wx.cell? ⟨w.heap.size + 1, 1, none⟩ = some (.int .i64 f) ∧ w.heap.size + 1 < wx.heap.size ∧ wx.cell? ⟨w1.heap.size, 0, none⟩ = some (.int .i64 am) ∧ wx.cell? ⟨w1.heap.size, 1, none⟩ = some (.int .i64 ae) ∧ w1.heap.size < wx.heap.size ∧ Below w2.heap.size w2 wx) (first | (go_keep; done) | exact SK.out _ (by first | with_reducible assumption | with_reducible exact K0.out | with_reducible exact K0.out.drew | with_reducible exact Below.drew (by with_reducible assumption)))
        (first
          | (go_at_call 9; ((with_reducible refine (HRAt _).mono ?_); rintro r wq ⟨rfl, hbq⟩; have qb : Below w2.heap.size w2 wq := Below.trans (by first | with_reducible assumption | with_reducible exact K0.out | with_reducible exact K0.out.drew | with_reducible exact Below.drew (by with_reducible assumption)) (hbq.mono (Below.size (by first | with_reducible assumption | with_reducible exact K0.out | with_reducible exact K0.out.drew | with_reducible exact Below.drew (by with_reducible assumption))))))
          | (go_at_call 8; ((with_reducible refine (HY.out _ _ _).mono ?_); rintro r wq ⟨rfl, hbq⟩; have qb : Below w2.heap.size w2 wq := Below.trans (by first | with_reducible assumption | with_reducible exact K0.out | with_reducible exact K0.out.drew | with_reducible exact Below.drew (by with_reducible assumption)) (hbq.mono (Below.size (by first | with_reducible assumption | with_reducible exact K0.out | with_reducible exact K0.out.drew | with_reducible exact Below.drew (by with_reducible assumption)))))))
      rename _ ∧ _ ∧ _ ∧ _ ∧ _ ∧ _ ∧ _ ∧ _ ∧ _ ∧ Below w2.heap.size w2 _ => hS
      obtain ⟨w3, rfl⟩ : ∃ x, x = wq := ⟨_, rfl⟩
      obtain ⟨x0_3, x1_3, xz_3, y0_3, y1_3, yz_3, a0_3, a1_3, az_3, xb⟩ := hS
      have HB_3 := Lib.hid (HB_2.out.trans (xb.mono HB_2.out.size))
      clear xb HB_2 K0 SK x0_2 x1_2 y0_2 y1_2 a0_2 a1_2
      have nz_3 : w.heap.size ≤ w3.heap.size := HB_3.out.size
      go_wp2_with fail
      go_meet
      case rel => exact ⟨x0_3, x1_3, xz_3, y0_3, y1_3, yz_3, HB_3.out⟩
  case rest =>
  clear HB_2 x0_2 x1_2 y0_2 y1_2 a0_2 a1_2 az_2 xz_2 yz_2
  obtain ⟨w3, rfl⟩ : ∃ x, x = wc := ⟨_, rfl⟩
  obtain ⟨x0_3, x1_3, xz_3, y0_3, y1_3, yz_3, hb9⟩ := hcut
  have HB_3 := Lib.hid hb9
  clear hb9
  have nz_3 : w.heap.size ≤ w3.heap.size := HB_3.out.size
  have K0 := Lib.hid (Below.refl w3.heap.size w3)
  have SK := Lib.hid (show ∀ wx, Below w3.heap.size w3 wx → wx.cell? ⟨w.heap.size, 0, none⟩ = some (.int .i64 m) ∧ wx.cell? ⟨w.heap.size, 1, none⟩ = some (.int .i64 e) ∧ w.heap.size < wx.heap.size ∧ wx.cell? ⟨w.heap.size + 1, 0, none⟩ = some (.int .i64 k) ∧ wx.cell? ⟨w.heap.size + 1, 1, none⟩ = some (.int .i64 f) ∧ w.heap.size + 1 < wx.heap.size ∧ Below w3.heap.size w3 wx from fun wx h => ⟨carry h x0_3, carry h x1_3, Nat.lt_of_lt_of_le xz_3 h.size, carry h y0_3, carry h y1_3, Nat.lt_of_lt_of_le yz_3 h.size, h⟩)
  go_wp2_with fail
  go_region_held3 (fun wx => wx.cell? ⟨w.heap.size, 0, none⟩ = some (.int .i64 m) ∧ wx.cell? ⟨w.heap.size, 1, none⟩ = some (.int .i64 e) ∧ w.heap.size < wx.heap.size ∧ wx.cell? ⟨w.heap.size + 1, 0, none⟩ = some (.int .i64 k) ∧ wx.cell? ⟨w.heap.size + 1, 1, none⟩ = some (.int .i64 f) ∧ w.heap.size + 1 < wx.heap.size ∧ Below w3.heap.size w3 wx) (first | (go_keep; done) | exact SK.out _ (by first | with_reducible assumption | with_reducible exact K0.out | with_reducible exact K0.out.drew | with_reducible exact Below.drew (by with_reducible assumption)))
    (first
      | (go_at_call 10; ((with_reducible refine (HFI.out _).mono ?_); rintro r wq ⟨rfl, hbq⟩; have qb : Below w3.heap.size w3 wq := Below.trans (by first | with_reducible assumption | with_reducible exact K0.out | with_reducible exact K0.out.drew | with_reducible exact Below.drew (by with_reducible assumption)) (hbq.mono (Below.size (by first | with_reducible assumption | with_reducible exact K0.out | with_reducible exact K0.out.drew | with_reducible exact Below.drew (by with_reducible assumption))))))
      | (go_at_call 11; ((with_reducible refine (HRF.out _).mono ?_); rintro r wq ⟨rfl, hbq⟩; have qb : Below w3.heap.size w3 wq := Below.trans (by first | with_reducible assumption | with_reducible exact K0.out | with_reducible exact K0.out.drew | with_reducible exact Below.drew (by with_reducible assumption)) (hbq.mono (Below.size (by first | with_reducible assumption | with_reducible exact K0.out | with_reducible exact K0.out.drew | with_reducible exact Below.drew (by with_reducible assumption))))))
      | (go_at_call 12; ((with_reducible refine (HV.out _).mono ?_); rintro r wq ⟨rfl, hbq⟩; have qb : Below w3.heap.size w3 wq := Below.trans (by first | with_reducible assumption | with_reducible exact K0.out | with_reducible exact K0.out.drew | with_reducible exact Below.drew (by with_reducible assumption)) (hbq.mono (Below.size (by first | with_reducible assumption | with_reducible exact K0.out | with_reducible exact K0.out.drew | with_reducible exact Below.drew (by with_reducible assumption))))))
      | (go_at_call 13; ((with_reducible refine (HVx.out _).mono ?_); rintro r wq ⟨rfl, hbq⟩; have qb : Below w3.heap.size w3 wq := Below.trans (by first | with_reducible assumption | with_reducible exact K0.out | with_reducible exact K0.out.drew | with_reducible exact Below.drew (by with_reducible assumption)) (hbq.mono (Below.size (by first | with_reducible assumption | with_reducible exact K0.out | with_reducible exact K0.out.drew | with_reducible exact Below.drew (by with_reducible assumption)))))))
  rename _ ∧ _ ∧ _ ∧ _ ∧ _ ∧ _ ∧ Below w3.heap.size w3 _ => hS
  obtain ⟨w4, rfl⟩ : ∃ x, x = wq := ⟨_, rfl⟩
  obtain ⟨x0_4, x1_4, xz_4, y0_4, y1_4, yz_4, xb⟩ := hS
  have HB_4 := Lib.hid (HB_3.out.trans (xb.mono HB_3.out.size))
  clear xb HB_3 K0 SK x0_3 x1_3 y0_3 y1_3
  have nz_4 : w.heap.size ≤ w4.heap.size := HB_4.out.size
  go_wp2_with fail
  refine (HIx.out _).mono ?_
  rintro e w5 ⟨rfl, hb5⟩
  have x0_5 : w5.cell? ⟨w.heap.size, 0, none⟩ = some (.int .i64 m) := carry hb5 (by go_simp)
  have x1_5 : w5.cell? ⟨w.heap.size, 1, none⟩ = some (.int .i64 e) := carry hb5 (by go_simp)
  have xz_5 : w.heap.size < w5.heap.size := by have := hb5.size; first | omega | (simp at this; omega)
  have y0_5 : w5.cell? ⟨w.heap.size + 1, 0, none⟩ = some (.int .i64 k) := carry hb5 (by go_simp)
  have y1_5 : w5.cell? ⟨w.heap.size + 1, 1, none⟩ = some (.int .i64 f) := carry hb5 (by go_simp)
  have yz_5 : w.heap.size + 1 < w5.heap.size := by have := hb5.size; first | omega | (simp at this; omega)
  have HB_5 := Lib.hid ((by repeat (first | exact HB_4.out | refine Below.drew ?_ | refine Below.setCell ?_ (by first | omega | (simp; done) | (simp; omega)) _ | refine Below.alloc ?_ (by first | omega | (simp; done) | (simp; omega)) _) : Below w.heap.size w _).trans (hb5.mono (by first | omega | (simp; done) | (simp; omega))))
  have nz_5 : w.heap.size ≤ w5.heap.size := HB_5.out.size
  clear hb5 x0_4 x1_4 y0_4 y1_4 HB_4
  go_wp2_with fail
  refine (HNx.out _).mono ?_
  rintro e w6 ⟨rfl, hb6⟩
  have x0_6 : w6.cell? ⟨w.heap.size, 0, none⟩ = some (.int .i64 m) := carry hb6 (by go_simp)
  have x1_6 : w6.cell? ⟨w.heap.size, 1, none⟩ = some (.int .i64 e) := carry hb6 (by go_simp)
  have xz_6 : w.heap.size < w6.heap.size := by have := hb6.size; first | omega | (simp at this; omega)
  have y0_6 : w6.cell? ⟨w.heap.size + 1, 0, none⟩ = some (.int .i64 k) := carry hb6 (by go_simp)
  have y1_6 : w6.cell? ⟨w.heap.size + 1, 1, none⟩ = some (.int .i64 f) := carry hb6 (by go_simp)
  have yz_6 : w.heap.size + 1 < w6.heap.size := by have := hb6.size; first | omega | (simp at this; omega)
  have HB_6 := Lib.hid ((by repeat (first | exact HB_5.out | refine Below.drew ?_ | refine Below.setCell ?_ (by first | omega | (simp; done) | (simp; omega)) _ | refine Below.alloc ?_ (by first | omega | (simp; done) | (simp; omega)) _) : Below w.heap.size w _).trans (hb6.mono (by first | omega | (simp; done) | (simp; omega))))
  have nz_6 : w.heap.size ≤ w6.heap.size := HB_6.out.size
  clear hb6 x0_5 x1_5 y0_5 y1_5 HB_5
  go_wp2_with fail
  refine (HNg.out _).mono ?_
  rintro e w7 ⟨rfl, hb7⟩
  have x0_7 : w7.cell? ⟨w.heap.size, 0, none⟩ = some (.int .i64 m) := carry hb7 (by go_simp)
  have x1_7 : w7.cell? ⟨w.heap.size, 1, none⟩ = some (.int .i64 e) := carry hb7 (by go_simp)
  have xz_7 : w.heap.size < w7.heap.size := by have := hb7.size; first | omega | (simp at this; omega)
  have y0_7 : w7.cell? ⟨w.heap.size + 1, 0, none⟩ = some (.int .i64 k) := carry hb7 (by go_simp)
  have y1_7 : w7.cell? ⟨w.heap.size + 1, 1, none⟩ = some (.int .i64 f) := carry hb7 (by go_simp)
  have yz_7 : w.heap.size + 1 < w7.heap.size := by have := hb7.size; first | omega | (simp at this; omega)
  have q0_7 : w7.cell? ⟨w6.heap.size, 0, none⟩ = some (.int .i64 nm) := carry hb7 (by go_simp)
  have q1_7 : w7.cell? ⟨w6.heap.size, 1, none⟩ = some (.int .i64 ne) := carry hb7 (by go_simp)
  have qz_7 : w6.heap.size < w7.heap.size := by have := hb7.size; first | omega | (simp at this; omega)
  have HB_7 := Lib.hid ((by repeat (first | exact HB_6.out | refine Below.drew ?_ | refine Below.setCell ?_ (by first | omega | (simp; done) | (simp; omega)) _ | refine Below.alloc ?_ (by first | omega | (simp; done) | (simp; omega)) _) : Below w.heap.size w _).trans (hb7.mono (by first | omega | (simp; done) | (simp; omega))))
  have nz_7 : w.heap.size ≤ w7.heap.size := HB_7.out.size
  clear hb7 x0_6 x1_6 y0_6 y1_6 HB_6
  go_wp2_with fail
  refine (HAb.out _).mono ?_
  rintro e w8 ⟨rfl, hb8⟩
  have x0_8 : w8.cell? ⟨w.heap.size, 0, none⟩ = some (.int .i64 m) := carry hb8 (by go_simp)
  have x1_8 : w8.cell? ⟨w.heap.size, 1, none⟩ = some (.int .i64 e) := carry hb8 (by go_simp)
  have xz_8 : w.heap.size < w8.heap.size := by have := hb8.size; first | omega | (simp at this; omega)
  have y0_8 : w8.cell? ⟨w.heap.size + 1, 0, none⟩ = some (.int .i64 k) := carry hb8 (by go_simp)
  have y1_8 : w8.cell? ⟨w.heap.size + 1, 1, none⟩ = some (.int .i64 f) := carry hb8 (by go_simp)
  have yz_8 : w.heap.size + 1 < w8.heap.size := by have := hb8.size; first | omega | (simp at this; omega)
  have q0_8 : w8.cell? ⟨w6.heap.size, 0, none⟩ = some (.int .i64 nm) := carry hb8 (by go_simp)
  have q1_8 : w8.cell? ⟨w6.heap.size, 1, none⟩ = some (.int .i64 ne) := carry hb8 (by go_simp)
  have qz_8 : w6.heap.size < w8.heap.size := by have := hb8.size; first | omega | (simp at this; omega)
  have g0_8 : w8.cell? ⟨w7.heap.size, 0, none⟩ = some (.int .i64 gm) := carry hb8 (by go_simp)
  have g1_8 : w8.cell? ⟨w7.heap.size, 1, none⟩ = some (.int .i64 e) := carry hb8 (by go_simp)
  have gz_8 : w7.heap.size < w8.heap.size := by have := hb8.size; first | omega | (simp at this; omega)
  have HB_8 := Lib.hid ((by repeat (first | exact HB_7.out | refine Below.drew ?_ | refine Below.setCell ?_ (by first | omega | (simp; done) | (simp; omega)) _ | refine Below.alloc ?_ (by first | omega | (simp; done) | (simp; omega)) _) : Below w.heap.size w _).trans (hb8.mono (by first | omega | (simp; done) | (simp; omega))))
  have nz_8 : w.heap.size ≤ w8.heap.size := HB_8.out.size
  clear hb8 x0_7 x1_7 y0_7 y1_7 q0_7 q1_7 HB_7
  go_wp2_with fail
  refine (HSg.out _).mono ?_
  rintro e w9 ⟨rfl, hb9⟩
  have x0_9 : w9.cell? ⟨w.heap.size, 0, none⟩ = some (.int .i64 m) := carry hb9 (by go_simp)
  have x1_9 : w9.cell? ⟨w.heap.size, 1, none⟩ = some (.int .i64 e) := carry hb9 (by go_simp)
  have xz_9 : w.heap.size < w9.heap.size := by have := hb9.size; first | omega | (simp at this; omega)
  have y0_9 : w9.cell? ⟨w.heap.size + 1, 0, none⟩ = some (.int .i64 k) := carry hb9 (by go_simp)
  have y1_9 : w9.cell? ⟨w.heap.size + 1, 1, none⟩ = some (.int .i64 f) := carry hb9 (by go_simp)
  have yz_9 : w.heap.size + 1 < w9.heap.size := by have := hb9.size; first | omega | (simp at this; omega)
  have q0_9 : w9.cell? ⟨w6.heap.size, 0, none⟩ = some (.int .i64 nm) := carry hb9 (by go_simp)
  have q1_9 : w9.cell? ⟨w6.heap.size, 1, none⟩ = some (.int .i64 ne) := carry hb9 (by go_simp)
  have qz_9 : w6.heap.size < w9.heap.size := by have := hb9.size; first | omega | (simp at this; omega)
  have g0_9 : w9.cell? ⟨w7.heap.size, 0, none⟩ = some (.int .i64 gm) := carry hb9 (by go_simp)
  have g1_9 : w9.cell? ⟨w7.heap.size, 1, none⟩ = some (.int .i64 e) := carry hb9 (by go_simp)
  have gz_9 : w7.heap.size < w9.heap.size := by have := hb9.size; first | omega | (simp at this; omega)
  have b0_9 : w9.cell? ⟨w8.heap.size, 0, none⟩ = some (.int .i64 m) := carry hb9 (by go_simp)
  have b1_9 : w9.cell? ⟨w8.heap.size, 1, none⟩ = some (.int .i64 e) := carry hb9 (by go_simp)
  have bz_9 : w8.heap.size < w9.heap.size := by have := hb9.size; first | omega | (simp at this; omega)
  have HB_9 := Lib.hid ((by repeat (first | exact HB_8.out | refine Below.drew ?_ | refine Below.setCell ?_ (by first | omega | (simp; done) | (simp; omega)) _ | refine Below.alloc ?_ (by first | omega | (simp; done) | (simp; omega)) _) : Below w.heap.size w _).trans (hb9.mono (by first | omega | (simp; done) | (simp; omega))))
  have nz_9 : w.heap.size ≤ w9.heap.size := HB_9.out.size
  clear hb9 x0_8 x1_8 y0_8 y1_8 q0_8 q1_8 g0_8 g1_8 HB_8
  go_wp2_with fail
  refine (HCm.out _).mono ?_
  rintro e w10 ⟨rfl, hb10⟩
  have x0_10 : w10.cell? ⟨w.heap.size, 0, none⟩ = some (.int .i64 m) := carry hb10 (by go_simp)
  have x1_10 : w10.cell? ⟨w.heap.size, 1, none⟩ = some (.int .i64 e) := carry hb10 (by go_simp)
  have xz_10 : w.heap.size < w10.heap.size := by have := hb10.size; first | omega | (simp at this; omega)
  have y0_10 : w10.cell? ⟨w.heap.size + 1, 0, none⟩ = some (.int .i64 k) := carry hb10 (by go_simp)
  have y1_10 : w10.cell? ⟨w.heap.size + 1, 1, none⟩ = some (.int .i64 f) := carry hb10 (by go_simp)
  have yz_10 : w.heap.size + 1 < w10.heap.size := by have := hb10.size; first | omega | (simp at this; omega)
  have q0_10 : w10.cell? ⟨w6.heap.size, 0, none⟩ = some (.int .i64 nm) := carry hb10 (by go_simp)
  have q1_10 : w10.cell? ⟨w6.heap.size, 1, none⟩ = some (.int .i64 ne) := carry hb10 (by go_simp)
  have qz_10 : w6.heap.size < w10.heap.size := by have := hb10.size; first | omega | (simp at this; omega)
  have g0_10 : w10.cell? ⟨w7.heap.size, 0, none⟩ = some (.int .i64 gm) := carry hb10 (by go_simp)
  have g1_10 : w10.cell? ⟨w7.heap.size, 1, none⟩ = some (.int .i64 e) := carry hb10 (by go_simp)
  have gz_10 : w7.heap.size < w10.heap.size := by have := hb10.size; first | omega | (simp at this; omega)
  have b0_10 : w10.cell? ⟨w8.heap.size, 0, none⟩ = some (.int .i64 m) := carry hb10 (by go_simp)
  have b1_10 : w10.cell? ⟨w8.heap.size, 1, none⟩ = some (.int .i64 e) := carry hb10 (by go_simp)
  have bz_10 : w8.heap.size < w10.heap.size := by have := hb10.size; first | omega | (simp at this; omega)
  have HB_10 := Lib.hid ((by repeat (first | exact HB_9.out | refine Below.drew ?_ | refine Below.setCell ?_ (by first | omega | (simp; done) | (simp; omega)) _ | refine Below.alloc ?_ (by first | omega | (simp; done) | (simp; omega)) _) : Below w.heap.size w _).trans (hb10.mono (by first | omega | (simp; done) | (simp; omega))))
  have nz_10 : w.heap.size ≤ w10.heap.size := HB_10.out.size
  clear hb10 x0_9 x1_9 y0_9 y1_9 q0_9 q1_9 g0_9 g1_9 b0_9 b1_9 HB_9
  go_wp2_with fail
  refine (HVx.out _).mono ?_
  rintro e w11 ⟨rfl, hb11⟩
  have x0_11 : w11.cell? ⟨w.heap.size, 0, none⟩ = some (.int .i64 m) := carry hb11 (by go_simp)
  have x1_11 : w11.cell? ⟨w.heap.size, 1, none⟩ = some (.int .i64 e) := carry hb11 (by go_simp)
  have xz_11 : w.heap.size < w11.heap.size := by have := hb11.size; first | omega | (simp at this; omega)
  have y0_11 : w11.cell? ⟨w.heap.size + 1, 0, none⟩ = some (.int .i64 k) := carry hb11 (by go_simp)
  have y1_11 : w11.cell? ⟨w.heap.size + 1, 1, none⟩ = some (.int .i64 f) := carry hb11 (by go_simp)
  have yz_11 : w.heap.size + 1 < w11.heap.size := by have := hb11.size; first | omega | (simp at this; omega)
  have q0_11 : w11.cell? ⟨w6.heap.size, 0, none⟩ = some (.int .i64 nm) := carry hb11 (by go_simp)
  have q1_11 : w11.cell? ⟨w6.heap.size, 1, none⟩ = some (.int .i64 ne) := carry hb11 (by go_simp)
  have qz_11 : w6.heap.size < w11.heap.size := by have := hb11.size; first | omega | (simp at this; omega)
  have g0_11 : w11.cell? ⟨w7.heap.size, 0, none⟩ = some (.int .i64 gm) := carry hb11 (by go_simp)
  have g1_11 : w11.cell? ⟨w7.heap.size, 1, none⟩ = some (.int .i64 e) := carry hb11 (by go_simp)
  have gz_11 : w7.heap.size < w11.heap.size := by have := hb11.size; first | omega | (simp at this; omega)
  have b0_11 : w11.cell? ⟨w8.heap.size, 0, none⟩ = some (.int .i64 m) := carry hb11 (by go_simp)
  have b1_11 : w11.cell? ⟨w8.heap.size, 1, none⟩ = some (.int .i64 e) := carry hb11 (by go_simp)
  have bz_11 : w8.heap.size < w11.heap.size := by have := hb11.size; first | omega | (simp at this; omega)
  have HB_11 := Lib.hid ((by repeat (first | exact HB_10.out | refine Below.drew ?_ | refine Below.setCell ?_ (by first | omega | (simp; done) | (simp; omega)) _ | refine Below.alloc ?_ (by first | omega | (simp; done) | (simp; omega)) _) : Below w.heap.size w _).trans (hb11.mono (by first | omega | (simp; done) | (simp; omega))))
  have nz_11 : w.heap.size ≤ w11.heap.size := HB_11.out.size
  clear hb11 x0_10 x1_10 y0_10 y1_10 q0_10 q1_10 g0_10 g1_10 b0_10 b1_10 HB_10
  go_wp2_with fail
  refine (HVy.out _).mono ?_
  rintro e w12 ⟨rfl, hb12⟩
  have x0_12 : w12.cell? ⟨w.heap.size, 0, none⟩ = some (.int .i64 m) := carry hb12 (by go_simp)
  have x1_12 : w12.cell? ⟨w.heap.size, 1, none⟩ = some (.int .i64 e) := carry hb12 (by go_simp)
  have xz_12 : w.heap.size < w12.heap.size := by have := hb12.size; first | omega | (simp at this; omega)
  have y0_12 : w12.cell? ⟨w.heap.size + 1, 0, none⟩ = some (.int .i64 k) := carry hb12 (by go_simp)
  have y1_12 : w12.cell? ⟨w.heap.size + 1, 1, none⟩ = some (.int .i64 f) := carry hb12 (by go_simp)
  have yz_12 : w.heap.size + 1 < w12.heap.size := by have := hb12.size; first | omega | (simp at this; omega)
  have q0_12 : w12.cell? ⟨w6.heap.size, 0, none⟩ = some (.int .i64 nm) := carry hb12 (by go_simp)
  have q1_12 : w12.cell? ⟨w6.heap.size, 1, none⟩ = some (.int .i64 ne) := carry hb12 (by go_simp)
  have qz_12 : w6.heap.size < w12.heap.size := by have := hb12.size; first | omega | (simp at this; omega)
  have g0_12 : w12.cell? ⟨w7.heap.size, 0, none⟩ = some (.int .i64 gm) := carry hb12 (by go_simp)
  have g1_12 : w12.cell? ⟨w7.heap.size, 1, none⟩ = some (.int .i64 e) := carry hb12 (by go_simp)
  have gz_12 : w7.heap.size < w12.heap.size := by have := hb12.size; first | omega | (simp at this; omega)
  have b0_12 : w12.cell? ⟨w8.heap.size, 0, none⟩ = some (.int .i64 m) := carry hb12 (by go_simp)
  have b1_12 : w12.cell? ⟨w8.heap.size, 1, none⟩ = some (.int .i64 e) := carry hb12 (by go_simp)
  have bz_12 : w8.heap.size < w12.heap.size := by have := hb12.size; first | omega | (simp at this; omega)
  have HB_12 := Lib.hid ((by repeat (first | exact HB_11.out | refine Below.drew ?_ | refine Below.setCell ?_ (by first | omega | (simp; done) | (simp; omega)) _ | refine Below.alloc ?_ (by first | omega | (simp; done) | (simp; omega)) _) : Below w.heap.size w _).trans (hb12.mono (by first | omega | (simp; done) | (simp; omega))))
  have nz_12 : w.heap.size ≤ w12.heap.size := HB_12.out.size
  clear hb12 x0_11 x1_11 y0_11 y1_11 q0_11 q1_11 g0_11 g1_11 b0_11 b1_11 HB_11
  go_wp2_with fail
  refine (HVy.out _).mono ?_
  rintro e w13 ⟨rfl, hb13⟩
  have x0_13 : w13.cell? ⟨w.heap.size, 0, none⟩ = some (.int .i64 m) := carry hb13 (by go_simp)
  have x1_13 : w13.cell? ⟨w.heap.size, 1, none⟩ = some (.int .i64 e) := carry hb13 (by go_simp)
  have xz_13 : w.heap.size < w13.heap.size := by have := hb13.size; first | omega | (simp at this; omega)
  have y0_13 : w13.cell? ⟨w.heap.size + 1, 0, none⟩ = some (.int .i64 k) := carry hb13 (by go_simp)
  have y1_13 : w13.cell? ⟨w.heap.size + 1, 1, none⟩ = some (.int .i64 f) := carry hb13 (by go_simp)
  have yz_13 : w.heap.size + 1 < w13.heap.size := by have := hb13.size; first | omega | (simp at this; omega)
  have q0_13 : w13.cell? ⟨w6.heap.size, 0, none⟩ = some (.int .i64 nm) := carry hb13 (by go_simp)
  have q1_13 : w13.cell? ⟨w6.heap.size, 1, none⟩ = some (.int .i64 ne) := carry hb13 (by go_simp)
  have qz_13 : w6.heap.size < w13.heap.size := by have := hb13.size; first | omega | (simp at this; omega)
  have g0_13 : w13.cell? ⟨w7.heap.size, 0, none⟩ = some (.int .i64 gm) := carry hb13 (by go_simp)
  have g1_13 : w13.cell? ⟨w7.heap.size, 1, none⟩ = some (.int .i64 e) := carry hb13 (by go_simp)
  have gz_13 : w7.heap.size < w13.heap.size := by have := hb13.size; first | omega | (simp at this; omega)
  have b0_13 : w13.cell? ⟨w8.heap.size, 0, none⟩ = some (.int .i64 m) := carry hb13 (by go_simp)
  have b1_13 : w13.cell? ⟨w8.heap.size, 1, none⟩ = some (.int .i64 e) := carry hb13 (by go_simp)
  have bz_13 : w8.heap.size < w13.heap.size := by have := hb13.size; first | omega | (simp at this; omega)
  have HB_13 := Lib.hid ((by repeat (first | exact HB_12.out | refine Below.drew ?_ | refine Below.setCell ?_ (by first | omega | (simp; done) | (simp; omega)) _ | refine Below.alloc ?_ (by first | omega | (simp; done) | (simp; omega)) _) : Below w.heap.size w _).trans (hb13.mono (by first | omega | (simp; done) | (simp; omega))))
  have nz_13 : w.heap.size ≤ w13.heap.size := HB_13.out.size
  clear hb13 x0_12 x1_12 y0_12 y1_12 q0_12 q1_12 g0_12 g1_12 b0_12 b1_12 HB_12
  go_wp2_with fail
  refine (HRM.out _).mono ?_
  rintro e w14 ⟨rfl, hb14⟩
  have x0_14 : w14.cell? ⟨w.heap.size, 0, none⟩ = some (.int .i64 m) := carry hb14 (by go_simp)
  have x1_14 : w14.cell? ⟨w.heap.size, 1, none⟩ = some (.int .i64 e) := carry hb14 (by go_simp)
  have xz_14 : w.heap.size < w14.heap.size := by have := hb14.size; first | omega | (simp at this; omega)
  have y0_14 : w14.cell? ⟨w.heap.size + 1, 0, none⟩ = some (.int .i64 k) := carry hb14 (by go_simp)
  have y1_14 : w14.cell? ⟨w.heap.size + 1, 1, none⟩ = some (.int .i64 f) := carry hb14 (by go_simp)
  have yz_14 : w.heap.size + 1 < w14.heap.size := by have := hb14.size; first | omega | (simp at this; omega)
  have q0_14 : w14.cell? ⟨w6.heap.size, 0, none⟩ = some (.int .i64 nm) := carry hb14 (by go_simp)
  have q1_14 : w14.cell? ⟨w6.heap.size, 1, none⟩ = some (.int .i64 ne) := carry hb14 (by go_simp)
  have qz_14 : w6.heap.size < w14.heap.size := by have := hb14.size; first | omega | (simp at this; omega)
  have g0_14 : w14.cell? ⟨w7.heap.size, 0, none⟩ = some (.int .i64 gm) := carry hb14 (by go_simp)
  have g1_14 : w14.cell? ⟨w7.heap.size, 1, none⟩ = some (.int .i64 e) := carry hb14 (by go_simp)
  have gz_14 : w7.heap.size < w14.heap.size := by have := hb14.size; first | omega | (simp at this; omega)
  have b0_14 : w14.cell? ⟨w8.heap.size, 0, none⟩ = some (.int .i64 m) := carry hb14 (by go_simp)
  have b1_14 : w14.cell? ⟨w8.heap.size, 1, none⟩ = some (.int .i64 e) := carry hb14 (by go_simp)
  have bz_14 : w8.heap.size < w14.heap.size := by have := hb14.size; first | omega | (simp at this; omega)
  have HB_14 := Lib.hid ((by repeat (first | exact HB_13.out | refine Below.drew ?_ | refine Below.setCell ?_ (by first | omega | (simp; done) | (simp; omega)) _ | refine Below.alloc ?_ (by first | omega | (simp; done) | (simp; omega)) _) : Below w.heap.size w _).trans (hb14.mono (by first | omega | (simp; done) | (simp; omega))))
  have nz_14 : w.heap.size ≤ w14.heap.size := HB_14.out.size
  clear hb14 x0_13 x1_13 y0_13 y1_13 q0_13 q1_13 g0_13 g1_13 b0_13 b1_13 HB_13
  go_wp2_with fail
  generalize hW : w14.alloc _ = w15
  have x0_15 : w15.cell? ⟨w.heap.size, 0, none⟩ = some (.int .i64 m) := by rw [← hW]; clear hW; go_simp
  have x1_15 : w15.cell? ⟨w.heap.size, 1, none⟩ = some (.int .i64 e) := by rw [← hW]; clear hW; go_simp
  have xz_15 : w.heap.size < w15.heap.size := by rw [← hW]; clear hW; simp <;> omega
  have q0_15 : w15.cell? ⟨w6.heap.size, 0, none⟩ = some (.int .i64 nm) := by rw [← hW]; clear hW; go_simp
  have q1_15 : w15.cell? ⟨w6.heap.size, 1, none⟩ = some (.int .i64 ne) := by rw [← hW]; clear hW; go_simp
  have qz_15 : w6.heap.size < w15.heap.size := by rw [← hW]; clear hW; simp <;> omega
  have g0_15 : w15.cell? ⟨w7.heap.size, 0, none⟩ = some (.int .i64 gm) := by rw [← hW]; clear hW; go_simp
  have g1_15 : w15.cell? ⟨w7.heap.size, 1, none⟩ = some (.int .i64 e) := by rw [← hW]; clear hW; go_simp
  have gz_15 : w7.heap.size < w15.heap.size := by rw [← hW]; clear hW; simp <;> omega
  have b0_15 : w15.cell? ⟨w8.heap.size, 0, none⟩ = some (.int .i64 m) := by rw [← hW]; clear hW; go_simp
  have b1_15 : w15.cell? ⟨w8.heap.size, 1, none⟩ = some (.int .i64 e) := by rw [← hW]; clear hW; go_simp
  have bz_15 : w8.heap.size < w15.heap.size := by rw [← hW]; clear hW; simp <;> omega
  have t0_15 : w15.cell? ⟨w14.heap.size, 0, none⟩ = some (.int .i64 m) := by rw [← hW]; clear hW; go_simp
  have t1_15 : w15.cell? ⟨w14.heap.size, 1, none⟩ = some (.int .i64 e) := by rw [← hW]; clear hW; go_simp
  have tz_15 : w14.heap.size < w15.heap.size := by rw [← hW]; clear hW; simp <;> omega
  have HB_15 := Lib.hid ((by rw [← hW]; clear hW; repeat (first | exact HB_14.out | refine Below.drew ?_ | refine Below.setCell ?_ (by first | omega | (simp; done) | (simp; omega)) _ | refine Below.alloc ?_ (by first | omega | (simp; done) | (simp; omega)) _)) : Below w.heap.size w w15)
  clear hW HB_14 x0_14 x1_14 y0_14 y1_14 q0_14 q1_14 g0_14 g1_14 b0_14 b1_14
  have nz_15 : w.heap.size ≤ w15.heap.size := HB_15.out.size
  have K0 := Lib.hid (Below.refl w15.heap.size w15)
  have SK := Lib.hid (show ∀ wx, Below w15.heap.size w15 wx → wx.cell? ⟨w.heap.size, 0, none⟩ = some (.int .i64 m) ∧ wx.cell? ⟨w.heap.size, 1, none⟩ = some (.int .i64 e) ∧ w.heap.size < wx.heap.size ∧ wx.cell? ⟨w6.heap.size, 0, none⟩ = some (.int .i64 nm) ∧ wx.cell? ⟨w6.heap.size, 1, none⟩ = some (.int .i64 ne) ∧ w6.heap.size < wx.heap.size ∧ wx.cell? ⟨w7.heap.size, 0, none⟩ = some (.int .i64 gm) ∧ wx.cell? ⟨w7.heap.size, 1, none⟩ = some (.int .i64 e) ∧ w7.heap.size < wx.heap.size ∧ wx.cell? ⟨w8.heap.size, 0, none⟩ = some (.int .i64 m) ∧ wx.cell? ⟨w8.heap.size, 1, none⟩ = some (.int .i64 e) ∧ w8.heap.size < wx.heap.size ∧ wx.cell? ⟨w14.heap.size, 0, none⟩ = some (.int .i64 m) ∧ wx.cell? ⟨w14.heap.size, 1, none⟩ = some (.int .i64 e) ∧ w14.heap.size < wx.heap.size ∧ Below w15.heap.size w15 wx from fun wx h => ⟨carry h x0_15, carry h x1_15, Nat.lt_of_lt_of_le xz_15 h.size, carry h q0_15, carry h q1_15, Nat.lt_of_lt_of_le qz_15 h.size, carry h g0_15, carry h g1_15, Nat.lt_of_lt_of_le gz_15 h.size, carry h b0_15, carry h b1_15, Nat.lt_of_lt_of_le bz_15 h.size, carry h t0_15, carry h t1_15, Nat.lt_of_lt_of_le tz_15 h.size, h⟩)
  go_wp2_with fail
  go_region_held3 (fun wx => wx.cell? ⟨w.heap.size, 0, none⟩ = some (.int .i64 m) ∧ wx.cell? ⟨w.heap.size, 1, none⟩ = some (.int .i64 e) ∧ w.heap.size < wx.heap.size ∧ wx.cell? ⟨w6.heap.size, 0, none⟩ = some (.int .i64 nm) ∧ wx.cell? ⟨w6.heap.size, 1, none⟩ = some (.int .i64 ne) ∧ w6.heap.size < wx.heap.size ∧ wx.cell? ⟨w7.heap.size, 0, none⟩ = some (.int .i64 gm) ∧ wx.cell? ⟨w7.heap.size, 1, none⟩ = some (.int .i64 e) ∧ w7.heap.size < wx.heap.size ∧ wx.cell? ⟨w8.heap.size, 0, none⟩ = some (.int .i64 m) ∧ wx.cell? ⟨w8.heap.size, 1, none⟩ = some (.int .i64 e) ∧ w8.heap.size < wx.heap.size ∧ wx.cell? ⟨w14.heap.size, 0, none⟩ = some (.int .i64 m) ∧ wx.cell? ⟨w14.heap.size, 1, none⟩ = some (.int .i64 e) ∧ w14.heap.size < wx.heap.size ∧ Below w15.heap.size w15 wx) (first | (go_keep; done) | exact SK.out _ (by first | with_reducible assumption | with_reducible exact K0.out | with_reducible exact K0.out.drew | with_reducible exact Below.drew (by with_reducible assumption)))
    (first
      | (go_at_call 23; ((with_reducible refine (HRI.out _).mono ?_); rintro r wq ⟨rfl, hbq⟩; have qb : Below w15.heap.size w15 wq := Below.trans (by first | with_reducible assumption | with_reducible exact K0.out | with_reducible exact K0.out.drew | with_reducible exact Below.drew (by with_reducible assumption)) (hbq.mono (Below.size (by first | with_reducible assumption | with_reducible exact K0.out | with_reducible exact K0.out.drew | with_reducible exact Below.drew (by with_reducible assumption))))))
      | (go_at_call 22; ((with_reducible refine (HRN.out _).mono ?_); rintro r wq ⟨rfl, hbq⟩; have qb : Below w15.heap.size w15 wq := Below.trans (by first | with_reducible assumption | with_reducible exact K0.out | with_reducible exact K0.out.drew | with_reducible exact Below.drew (by with_reducible assumption)) (hbq.mono (Below.size (by first | with_reducible assumption | with_reducible exact K0.out | with_reducible exact K0.out.drew | with_reducible exact Below.drew (by with_reducible assumption))))))
      | (go_at_call 8; ((with_reducible refine (HY.out _ _ _).mono ?_); rintro r wq ⟨rfl, hbq⟩; have qb : Below w15.heap.size w15 wq := Below.trans (by first | with_reducible assumption | with_reducible exact K0.out | with_reducible exact K0.out.drew | with_reducible exact Below.drew (by with_reducible assumption)) (hbq.mono (Below.size (by first | with_reducible assumption | with_reducible exact K0.out | with_reducible exact K0.out.drew | with_reducible exact Below.drew (by with_reducible assumption))))))
      | (go_at_call 24; ((with_reducible refine (HRC.out _).mono ?_); rintro r wq ⟨rfl, hbq⟩; have qb : Below w15.heap.size w15 wq := Below.trans (by first | with_reducible assumption | with_reducible exact K0.out | with_reducible exact K0.out.drew | with_reducible exact Below.drew (by with_reducible assumption)) (hbq.mono (Below.size (by first | with_reducible assumption | with_reducible exact K0.out | with_reducible exact K0.out.drew | with_reducible exact Below.drew (by with_reducible assumption)))))))
  rename _ ∧ _ ∧ _ ∧ _ ∧ _ ∧ _ ∧ _ ∧ _ ∧ _ ∧ _ ∧ _ ∧ _ ∧ _ ∧ _ ∧ _ ∧ Below w15.heap.size w15 _ => hS
  obtain ⟨w16, rfl⟩ : ∃ x, x = wq := ⟨_, rfl⟩
  obtain ⟨x0_16, x1_16, xz_16, q0_16, q1_16, qz_16, g0_16, g1_16, gz_16, b0_16, b1_16, bz_16, t0_16, t1_16, tz_16, xb⟩ := hS
  have HB_16 := Lib.hid (HB_15.out.trans (xb.mono HB_15.out.size))
  clear xb HB_15 K0 SK x0_15 x1_15 q0_15 q1_15 g0_15 g1_15 b0_15 b1_15 t0_15 t1_15
  have nz_16 : w.heap.size ≤ w16.heap.size := HB_16.out.size
  have K0 := Lib.hid (Below.refl w16.heap.size w16)
  have SK := Lib.hid (show ∀ wx, Below w16.heap.size w16 wx → wx.cell? ⟨w6.heap.size, 0, none⟩ = some (.int .i64 nm) ∧ wx.cell? ⟨w6.heap.size, 1, none⟩ = some (.int .i64 ne) ∧ w6.heap.size < wx.heap.size from fun wx h => ⟨carry h q0_16, carry h q1_16, Nat.lt_of_lt_of_le qz_16 h.size⟩)
  go_wp2_with fail
  go_region_held3 (fun wx => wx.cell? ⟨w6.heap.size, 0, none⟩ = some (.int .i64 nm) ∧ wx.cell? ⟨w6.heap.size, 1, none⟩ = some (.int .i64 ne) ∧ w6.heap.size < wx.heap.size) (first | (go_keep; done) | exact SK.out _ (by first | with_reducible assumption | with_reducible exact K0.out | with_reducible exact K0.out.drew | with_reducible exact Below.drew (by with_reducible assumption)))
    (first
      | (go_at_call 20; ((with_reducible refine (HSan.out _ (HB_16.out.trans (Below.mono (by first | with_reducible assumption | with_reducible exact K0.out | with_reducible exact K0.out.drew | with_reducible exact Below.drew (by with_reducible assumption)) nz_16))).mono ?_); rintro r wq ⟨rfl, hbq⟩; have qb : Below w16.heap.size w16 wq := Below.trans (by first | with_reducible assumption | with_reducible exact K0.out | with_reducible exact K0.out.drew | with_reducible exact Below.drew (by with_reducible assumption)) (hbq.mono (Below.size (by first | with_reducible assumption | with_reducible exact K0.out | with_reducible exact K0.out.drew | with_reducible exact Below.drew (by with_reducible assumption))))))
      | (go_at_call 9; ((with_reducible refine (HRA.out _).mono ?_); rintro r wq ⟨rfl, hbq⟩; have qb : Below w16.heap.size w16 wq := Below.trans (by first | with_reducible assumption | with_reducible exact K0.out | with_reducible exact K0.out.drew | with_reducible exact Below.drew (by with_reducible assumption)) (hbq.mono (Below.size (by first | with_reducible assumption | with_reducible exact K0.out | with_reducible exact K0.out.drew | with_reducible exact Below.drew (by with_reducible assumption))))))
      | (go_at_call 8; ((with_reducible refine (HY.out _ _ _).mono ?_); rintro r wq ⟨rfl, hbq⟩; have qb : Below w16.heap.size w16 wq := Below.trans (by first | with_reducible assumption | with_reducible exact K0.out | with_reducible exact K0.out.drew | with_reducible exact Below.drew (by with_reducible assumption)) (hbq.mono (Below.size (by first | with_reducible assumption | with_reducible exact K0.out | with_reducible exact K0.out.drew | with_reducible exact Below.drew (by with_reducible assumption)))))))
  go_wp2_with fail
  go_ret
  exact ⟨rfl, HB_16.out.trans (qb.mono nz_16)⟩

theorem ix_neg_lt {m e : Int} (h : vr m e = true) : m < 0 ↔ ix m e < 0 := by
  have k := vr_iff.1 h
  unfold ab at k
  unfold ix
  constructor
  · intro hm
    rw [if_pos hm] at k
    rw [if_neg (by omega), if_pos hm]
    omega
  · intro hi
    by_cases hm : m < 0
    · exact hm
    · rw [if_neg hm] at k
      rw [if_neg hm] at hi
      split at hi <;> omega

theorem run (m e k f i0 n0 : Int) (w : World) (w0 : (Lit.int .i64 m).wf = true) (w1 : (Lit.int .i64 e).wf = true) (w2 : (Lit.int .i64 k).wf = true) (w3 : (Lit.int .i64 f).wf = true) (w4 : (Lit.int .i64 i0).wf = true) (w5 : (Lit.int .i64 n0).wf = true) (hP : P10 w) (hQ : TabQ w) :
    Calls Tryz.prog 3 #[realV m e, realV k f, .int .i64 i0, .int .i64 n0] w fun r w' => r = .returned (.bool true) ∧ Below w.heap.size w w' := by
  have HS := hsan w hP hQ
  have hb : -9223372036854775808 ≤ m ∧ m ≤ 9223372036854775807 := by simpa [Lit.wf, IntKind.min, IntKind.max, IntKind.signed, IntKind.bits] using w0
  have hk0 : -9223372036854775808 ≤ k ∧ k ≤ 9223372036854775807 := by simpa [Lit.wf, IntKind.min, IntKind.max, IntKind.signed, IntKind.bits] using w2
  have hn0 : -9223372036854775808 ≤ n0 ∧ n0 ≤ 9223372036854775807 := by simpa [Lit.wf, IntKind.min, IntKind.max, IntKind.signed, IntKind.bits] using w5
  clear w0 w1 w2 w3 w4 w5
  have HY : Hid (∀ (a b : Int) (W : World), Calls Tryz.prog 8 #[realV a b, .int .i64 0, realV a b] W fun r w' => r = .returned (.bool true) ∧ Below W.heap.size W w') := Lib.hid (fun a b W => is_yes a b W)
  have HFI : Hid (∀ W : World, Calls Tryz.prog 10 #[.int .i64 n0] W fun r w' => r = .returned (realV (aM (rI n0 0)) (aE (rI n0 0))) ∧ Below W.heap.size W w') := Lib.hid (fun W => fromInt_any n0 W hn0.1 hn0.2)
  have HRF : Hid (∀ W : World, Calls Tryz.prog 11 #[.int .i64 n0] W fun r w' => r = .returned (realV (aM (rI n0 0)) (aE (rI n0 0))) ∧ Below W.heap.size W w') := Lib.hid (fun W => rfi_any n0 W hn0.1 hn0.2)
  have HV : Hid (∀ W : World, Calls Tryz.prog 12 #[realV m e] W fun r w' => r = .returned (.bool (vr m e)) ∧ Below W.heap.size W w') := Lib.hid (fun W => valid_any m e W hb.1 hb.2)
  have HVx : Hid (∀ W : World, Calls Tryz.prog 13 #[realV m e] W fun r w' => r = .returned (.bool (vr m e)) ∧ Below W.heap.size W w') := Lib.hid (fun W => rvalid_any m e W hb.1 hb.2)
  have HVy : Hid (∀ W : World, Calls Tryz.prog 13 #[realV k f] W fun r w' => r = .returned (.bool (vr k f)) ∧ Below W.heap.size W w') := Lib.hid (fun W => rvalid_any k f W hk0.1 hk0.2)
  obtain ⟨am, ae, ax, HA, HF, HG⟩ : ∃ am ae ax : Int, Hid (∀ W : World, Calls Tryz.prog 7 #[.int .i64 i0] W fun r w' => r = .returned (rE am ae ax) ∧ Below W.heap.size W w') ∧ Hid (-2533359615 ≤ i0 ∧ i0 ≤ 2533359615 → ax = 0 ∧ ∀ W : World, Calls Tryz.prog 9 #[.int .i64 i0] W fun r w' => r = .returned (realV am ae) ∧ Below W.heap.size W w') ∧ Hid (¬ (-2533359615 ≤ i0 ∧ i0 ≤ 2533359615) → ax = 1 ∧ am = 0 ∧ ae = 0) := by
    by_cases hr : -2533359615 ≤ i0 ∧ i0 ≤ 2533359615
    · exact ⟨_, _, _, Lib.hid (fun W => at_ok i0 W hr.1 hr.2), Lib.hid (fun _ => ⟨rfl, fun W => rat_any i0 W (by omega) (by omega)⟩), Lib.hid (fun h => absurd hr h)⟩
    · by_cases hl : i0 < -2533359615
      · exact ⟨_, _, _, Lib.hid (fun W => at_lo i0 W hl), Lib.hid (fun h => absurd h hr), Lib.hid (fun _ => ⟨rfl, rfl, rfl⟩)⟩
      · exact ⟨_, _, _, Lib.hid (fun W => at_hi i0 W (by omega) (by omega)), Lib.hid (fun h => absurd h hr), Lib.hid (fun _ => ⟨rfl, rfl, rfl⟩)⟩
  cases hv : vr m e
  · rw [hv] at HV HVx
    have hx : (vr m e && vr k f) = false := by rw [hv]; rfl
    exact bad m e k f i0 n0 _ _ _ _ _ 0 0 0 0 0 0 w HA HF HG HY HFI HRF HV HVx (Lib.hid (fun W => index_bad m e W (Lib.hid hv) hb.1 hb.2)) (Lib.hid (fun W => next_bad m e W (Lib.hid hv) hb.1 hb.2)) (Lib.hid (fun W => neg_bad m e W (Lib.hid hv) hb.1 hb.2)) (Lib.hid (fun W => abs_bad m e W (Lib.hid hv) hb.1 hb.2)) (Lib.hid (fun W => sign_bad m e W (Lib.hid hv) hb.1 hb.2)) (Lib.hid (fun W => rcmp_bad m e k f W (Lib.hid hx) hb hk0)) HS
  · rw [hv] at HV HVx
    obtain ⟨m1, m2, _, _⟩ := vr_bd hv
    obtain ⟨i1, i2⟩ := ix_bd hv
    have HIx : Hid (∀ W : World, Calls Tryz.prog 14 #[realV m e] W fun r w' => r = .returned (iE (ix m e) 0) ∧ Below W.heap.size W w') := Lib.hid (fun W => index_ok m e W (Lib.hid hv))
    cases hu : vr k f
    · rw [hu] at HVy
      have hx : (vr m e && vr k f) = false := by rw [hv, hu]; rfl
      by_cases hm : m < 0
      · have ht : ¬ ix m e = 2533359615 := by
          have := (ix_neg_lt hv).1 hm
          omega
        have HAb : Hid (∀ W : World, Calls Tryz.prog 17 #[realV m e] W fun r w' => r = .returned (rE (-m) e 0) ∧ Below W.heap.size W w') := Lib.hid (fun W => by
          have h := abs_ok m e W (Lib.hid hv)
          rwa [show ab m = -m by unfold ab; rw [if_pos hm]] at h)
        exact negB m e k f i0 n0 _ _ _ _ _ (ix m e) _ _ _ _ 0 w HA HF HG HY HFI HRF HV HVx HVy HIx (Lib.hid (fun W => next_ok m e (ix m e) W (Lib.hid hv) (Lib.hid rfl) m1 m2 (by simpa using ht) i1 (by omega))) (Lib.hid (fun W => neg_ok m e W (Lib.hid hv))) HAb (Lib.hid (fun W => sign_ok m e W (Lib.hid hv))) (Lib.hid (fun W => rcmp_bad m e k f W (Lib.hid hx) hb hk0)) HS (Lib.hid (fun W => rix_any m e W hv)) (Lib.hid (fun W => rneg_any m e W (by omega) (by omega))) (Lib.hid (fun W => cp_any m 0 W)) hm (by simpa using ht) (wrap64' _ (by omega) (by omega)) (Lib.hid (fun W => rat_any (ix m e + 1) W (by omega) (by omega)))
      · have HAb : Hid (∀ W : World, Calls Tryz.prog 17 #[realV m e] W fun r w' => r = .returned (rE m e 0) ∧ Below W.heap.size W w') := Lib.hid (fun W => by
          have h := abs_ok m e W (Lib.hid hv)
          rwa [show ab m = m by unfold ab; rw [if_neg hm]] at h)
        by_cases ht : ix m e = 2533359615
        · have HIt : Hid (∀ W : World, Calls Tryz.prog 14 #[realV m e] W fun r w' => r = .returned (iE 2533359615 0) ∧ Below W.heap.size W w') := Lib.hid (fun W => by
            have h := HIx.out W
            rwa [ht] at h)
          have HRt : Hid (∀ W : World, Calls Tryz.prog 23 #[realV m e] W fun r w' => r = .returned (.int .i64 2533359615) ∧ Below W.heap.size W w') := Lib.hid (fun W => by
            have h := rix_any m e W hv
            rwa [ht] at h)
          exact topB m e k f i0 n0 _ _ _ _ _ 2533359615 0 0 _ _ 0 w HA HF HG HY HFI HRF HV HVx HVy HIt (Lib.hid (fun W => next_top m e (ix m e) W (Lib.hid hv) (Lib.hid rfl) m1 m2 (by simpa using ht))) (Lib.hid (fun W => neg_ok m e W (Lib.hid hv))) HAb (Lib.hid (fun W => sign_ok m e W (Lib.hid hv))) (Lib.hid (fun W => rcmp_bad m e k f W (Lib.hid hx) hb hk0)) HS HRt (Lib.hid (fun W => rneg_any m e W (by omega) (by omega))) (Lib.hid (fun W => cp_any m 0 W)) hm rfl
        · exact midB m e k f i0 n0 _ _ _ _ _ (ix m e) _ _ _ _ 0 w HA HF HG HY HFI HRF HV HVx HVy HIx (Lib.hid (fun W => next_ok m e (ix m e) W (Lib.hid hv) (Lib.hid rfl) m1 m2 (by simpa using ht) i1 (by omega))) (Lib.hid (fun W => neg_ok m e W (Lib.hid hv))) HAb (Lib.hid (fun W => sign_ok m e W (Lib.hid hv))) (Lib.hid (fun W => rcmp_bad m e k f W (Lib.hid hx) hb hk0)) HS (Lib.hid (fun W => rix_any m e W hv)) (Lib.hid (fun W => rneg_any m e W (by omega) (by omega))) (Lib.hid (fun W => cp_any m 0 W)) hm (by simpa using ht) (wrap64' _ (by omega) (by omega)) (Lib.hid (fun W => rat_any (ix m e + 1) W (by omega) (by omega)))
    · rw [hu] at HVy
      by_cases hm : m < 0
      · have ht : ¬ ix m e = 2533359615 := by
          have := (ix_neg_lt hv).1 hm
          omega
        have HAb : Hid (∀ W : World, Calls Tryz.prog 17 #[realV m e] W fun r w' => r = .returned (rE (-m) e 0) ∧ Below W.heap.size W w') := Lib.hid (fun W => by
          have h := abs_ok m e W (Lib.hid hv)
          rwa [show ab m = -m by unfold ab; rw [if_pos hm]] at h)
        exact negG m e k f i0 n0 _ _ _ _ _ (ix m e) _ _ _ _ _ w HA HF HG HY HFI HRF HV HVx HVy HIx (Lib.hid (fun W => next_ok m e (ix m e) W (Lib.hid hv) (Lib.hid rfl) m1 m2 (by simpa using ht) i1 (by omega))) (Lib.hid (fun W => neg_ok m e W (Lib.hid hv))) HAb (Lib.hid (fun W => sign_ok m e W (Lib.hid hv))) (Lib.hid (fun W => rcmp_ok m e k f W hv hu)) HS (Lib.hid (fun W => rix_any m e W hv)) (Lib.hid (fun W => rneg_any m e W (by omega) (by omega))) (Lib.hid (fun W => cp_any m 0 W)) (Lib.hid (fun W => rcm_any m e k f W hv hu)) hm (by simpa using ht) (wrap64' _ (by omega) (by omega)) (Lib.hid (fun W => rat_any (ix m e + 1) W (by omega) (by omega)))
      · have HAb : Hid (∀ W : World, Calls Tryz.prog 17 #[realV m e] W fun r w' => r = .returned (rE m e 0) ∧ Below W.heap.size W w') := Lib.hid (fun W => by
          have h := abs_ok m e W (Lib.hid hv)
          rwa [show ab m = m by unfold ab; rw [if_neg hm]] at h)
        by_cases ht : ix m e = 2533359615
        · have HIt : Hid (∀ W : World, Calls Tryz.prog 14 #[realV m e] W fun r w' => r = .returned (iE 2533359615 0) ∧ Below W.heap.size W w') := Lib.hid (fun W => by
            have h := HIx.out W
            rwa [ht] at h)
          have HRt : Hid (∀ W : World, Calls Tryz.prog 23 #[realV m e] W fun r w' => r = .returned (.int .i64 2533359615) ∧ Below W.heap.size W w') := Lib.hid (fun W => by
            have h := rix_any m e W hv
            rwa [ht] at h)
          exact topG m e k f i0 n0 _ _ _ _ _ 2533359615 0 0 _ _ _ w HA HF HG HY HFI HRF HV HVx HVy HIt (Lib.hid (fun W => next_top m e (ix m e) W (Lib.hid hv) (Lib.hid rfl) m1 m2 (by simpa using ht))) (Lib.hid (fun W => neg_ok m e W (Lib.hid hv))) HAb (Lib.hid (fun W => sign_ok m e W (Lib.hid hv))) (Lib.hid (fun W => rcmp_ok m e k f W hv hu)) HS HRt (Lib.hid (fun W => rneg_any m e W (by omega) (by omega))) (Lib.hid (fun W => cp_any m 0 W)) (Lib.hid (fun W => rcm_any m e k f W hv hu)) hm rfl
        · exact midG m e k f i0 n0 _ _ _ _ _ (ix m e) _ _ _ _ _ w HA HF HG HY HFI HRF HV HVx HVy HIx (Lib.hid (fun W => next_ok m e (ix m e) W (Lib.hid hv) (Lib.hid rfl) m1 m2 (by simpa using ht) i1 (by omega))) (Lib.hid (fun W => neg_ok m e W (Lib.hid hv))) HAb (Lib.hid (fun W => sign_ok m e W (Lib.hid hv))) (Lib.hid (fun W => rcmp_ok m e k f W hv hu)) HS (Lib.hid (fun W => rix_any m e W hv)) (Lib.hid (fun W => rneg_any m e W (by omega) (by omega))) (Lib.hid (fun W => cp_any m 0 W)) (Lib.hid (fun W => rcm_any m e k f W hv hu)) hm (by simpa using ht) (wrap64' _ (by omega) (by omega)) (Lib.hid (fun W => rat_any (ix m e + 1) W (by omega) (by omega)))

end Go.Proofs.YtbfknapmhkpgcaaGreatDoor.realNumbers
