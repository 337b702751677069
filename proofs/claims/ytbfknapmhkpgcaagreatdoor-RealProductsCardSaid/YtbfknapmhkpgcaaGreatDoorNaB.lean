/-
  Several texts in one (NatI, NatJ, NatO).
-/
import Derived.Test.YtbfknapmhkpgcaaGreatDoorNaA
import Derived.Test.YtbfknapmhkpgcaaGreatDoorSan

namespace Go.Proofs.YtbfknapmhkpgcaaGreatDoor
open Go.RowKit
set_option linter.unusedVariables false

theorem pw_150 : (2 : Int) ^ 150 < pw 300 := by
  have h : (2 : Int) ^ 150 = 2 ^ 0 * pw 10 := pw_two 150
  rw [h, Int.pow_zero, Int.one_mul]
  have h1 := pw_le (show 10 + 1 ≤ 300 by decide)
  have h2 := pw_succ 10
  have h3 := pw_pos 10
  omega

end Go.Proofs.YtbfknapmhkpgcaaGreatDoor

namespace Go.Proofs.YtbfknapmhkpgcaaGreatDoor
open Go.RowKit
set_option linter.unusedVariables false

/-- what the reference returns for an index -/
abbrev rrV (I : Int) : Value := .agg #[.int .i64 (oM I), .int .i64 (oE I), .bool (decide (-2533359615 ≤ I ∧ I ≤ 2533359615))]

theorem uu_sg (m e : Int) : (m < 0 ↔ UU m e < 0) := by
  have hp : (0 : Int) < 2 ^ (e + 150).toNat := Int.pow_pos (by decide)
  unfold UU
  constructor
  · exact fun h => Int.mul_neg_of_neg_of_pos h hp
  · intro h
    by_cases hm : m < 0
    · exact hm
    · have := Int.mul_nonneg (show 0 ≤ m by omega) (Int.le_of_lt hp)
      omega

theorem p150 : (0 : Int) < 2 ^ 150 := Int.pow_pos (by decide)

set_option maxRecDepth 100000 in
set_option maxHeartbeats 1600000 in
theorem rneg_any (m e : Int) (w : World) (h1 : -16777216 ≤ m) (h2 : m ≤ 16777216) :
    Calls Tryz.prog 22 #[realV m e] w fun r w' => r = .returned (realV (-m) e) ∧ Below w.heap.size w w' := by
  have hw : IntKind.i64.wrap (-m) = -m := wrap64' _ (by omega) (by omega)
  have hw2 : IntKind.i64.wrap (0 - m) = -m := by rw [wrap64' _ (by omega) (by omega)]; omega
  go_enter Tryz.func22, Tryz.ntmps22
  go_wp2_with fail
  refine bodyPost_ret (v := realV (-m) e) (by simp [results, Tryz.results22, go_sem]) rfl ⟨rfl, by repeat (first | with_reducible exact HBB.out | with_reducible exact Below.refl _ _ | with_reducible refine Below.drew ?_ | with_reducible refine belowN ?_ _ | with_reducible refine Below.setCell ?_ (by first | omega | (simp; done) | (simp; omega)) _ | with_reducible refine Below.alloc ?_ (by first | omega | (simp; done) | (simp; omega)) _)⟩

set_option maxRecDepth 100000 in
set_option maxHeartbeats 1600000 in
theorem rnd_no (w : World) :
    Calls Tryz.prog 29 #[realV 0 0, .int .i64 3, .agg #[.int .i64 0, .int .i64 0, .bool false]] w fun r w' => r = .returned (.bool true) ∧ Below w.heap.size w w' := by
  go_enter Tryz.func29, Tryz.ntmps29
  go_wp2_with fail
  go_ret
  exact ⟨rfl, by repeat (first | with_reducible exact HBB.out | with_reducible exact Below.refl _ _ | with_reducible refine Below.drew ?_ | with_reducible refine belowN ?_ _ | with_reducible refine Below.setCell ?_ (by first | omega | (simp; done) | (simp; omega)) _ | with_reducible refine Below.alloc ?_ (by first | omega | (simp; done) | (simp; omega)) _)⟩

set_option maxRecDepth 100000 in
set_option maxHeartbeats 1600000 in
theorem rnd_yes (m e : Int) (w : World) :
    Calls Tryz.prog 29 #[realV m e, .int .i64 0, .agg #[.int .i64 m, .int .i64 e, .bool true]] w fun r w' => r = .returned (.bool true) ∧ Below w.heap.size w w' := by
  go_enter Tryz.func29, Tryz.ntmps29
  go_wp2_with fail
  refine (is_yes m e _).mono ?_
  rintro r wa ⟨rfl, hba⟩
  have HBB := Lib.hid (show Below w.heap.size w wa by refine Below.trans ?_ (hba.mono (by simp <;> omega)); repeat (first | exact Below.refl _ _ | refine Below.alloc ?_ (by simp <;> omega) _))
  clear hba
  go_wp2_with fail
  go_ret
  exact ⟨rfl, by repeat (first | with_reducible exact HBB.out | with_reducible exact Below.refl _ _ | with_reducible refine Below.drew ?_ | with_reducible refine belowN ?_ _ | with_reducible refine Below.setCell ?_ (by first | omega | (simp; done) | (simp; omega)) _ | with_reducible refine Below.alloc ?_ (by first | omega | (simp; done) | (simp; omega)) _)⟩

end Go.Proofs.YtbfknapmhkpgcaaGreatDoor

namespace Go.Proofs.YtbfknapmhkpgcaaGreatDoor
open Go.RowKit
set_option linter.unusedVariables false

theorem pw_150b : (2 : Int) ^ 150 < pw 11 := by
  have h : (2 : Int) ^ 150 = 2 ^ 0 * pw 10 := pw_two 150
  rw [h, Int.pow_zero, Int.one_mul]
  show pw 10 < pw (10 + 1)
  have h2 := pw_succ 10
  have h3 := pw_pos 10
  omega

set_option maxRecDepth 100000 in
set_option maxHeartbeats 4000000 in
theorem rmul_w (m e k f : Int) (w : World) (h1 : vr m e = true) (h2 : vr k f = true) :
    Calls Tryz.prog 30 #[realV m e, realV k f] w fun r w' => ∃ rm re ok, r = .returned (.agg #[.int .i64 rm, .int .i64 re, .bool ok]) ∧ RndP (ab (UU m e) * ab (UU k f)) (2 ^ 150 * 2 ^ 150) (decide (m < 0) != decide (k < 0)) rm re ok ∧ Below w.heap.size w w' := by
  obtain ⟨n1, l1⟩ := uu_bd h1
  obtain ⟨n2, l2⟩ := uu_bd h2
  have HOX := Lib.hid (fun W : World => of_any m e W h1)
  have HOY := Lib.hid (fun W : World => of_any k f W h2)
  clear h1 h2
  obtain ⟨A, hA⟩ : ∃ A, A = ab (UU m e) := ⟨_, rfl⟩
  obtain ⟨B, hB⟩ : ∃ B, B = ab (UU k f) := ⟨_, rfl⟩
  obtain ⟨s, hs1⟩ : ∃ s, s = decide (m < 0) := ⟨_, rfl⟩
  obtain ⟨t, ht1⟩ : ∃ t, t = decide (k < 0) := ⟨_, rfl⟩
  rw [← hA] at n1 l1 HOX ⊢
  rw [← hB] at n2 l2 HOY ⊢
  rw [← hs1] at HOX ⊢
  rw [← ht1] at HOY ⊢
  clear hA hB hs1 ht1
  obtain ⟨D, hD⟩ : ∃ D, D = (2 : Int) ^ 150 := ⟨_, rfl⟩
  have HD0 := Lib.hid (show D < pw 11 by rw [hD]; exact pw_150b)
  have HD9 := Lib.hid (show (0 : Int) ≤ D by rw [hD]; exact Int.le_of_lt (Int.pow_pos (by decide)))
  rw [← hD] at HOX HOY ⊢
  clear hD
  have HPA := Lib.hid (show A < pw 1000 by have h1 := pw_le (show 40 ≤ 1000 by decide); omega)
  have HPB := Lib.hid (show B < pw 1000 by have h1 := pw_le (show 40 ≤ 1000 by decide); omega)
  have HPD := Lib.hid (show D < pw 1000 by have h1 := pw_le (show 11 ≤ 1000 by decide); have h2 := HD0.out; omega)
  have HBN := Lib.hid (show A * B < pw 300 by exact pw_mul n1 n2 l1 l2 (by decide))
  have HBD := Lib.hid (show D * D < pw 300 by exact pw_mul HD9.out HD9.out HD0.out HD0.out (by decide))
  go_enter Tryz.func30, Tryz.ntmps30
  go_wp2_with fail
  refine (HOX.out _).mono ?_
  rintro r wa ⟨o1, k1, c1, o2, k2, c2, rfl, hv1, hd1, hba⟩
  have a0 : wa.cell? ⟨w.heap.size + 1, 0, none⟩ = some (.int .i64 k) := carry hba (by go_simp)
  have a1 : wa.cell? ⟨w.heap.size + 1, 1, none⟩ = some (.int .i64 f) := carry hba (by go_simp)
  have r0 : wa.cell? ⟨w.heap.size + 1 + 1, 0, none⟩ = some (.int .i64 0) := carry hba (by go_simp)
  have r1 : wa.cell? ⟨w.heap.size + 1 + 1, 1, none⟩ = some (.int .i64 0) := carry hba (by go_simp)
  have r2 : wa.cell? ⟨w.heap.size + 1 + 1, 2, none⟩ = some (.bool false) := carry hba (by go_simp)
  have f0 : wa.frozen? ⟨w.heap.size + 1 + 1, 0, none⟩ = false := carryF hba (v := .int .i64 0) (by go_simp) (by go_simp)
  have f1 : wa.frozen? ⟨w.heap.size + 1 + 1, 1, none⟩ = false := carryF hba (v := .int .i64 0) (by go_simp) (by go_simp)
  have f2 : wa.frozen? ⟨w.heap.size + 1 + 1, 2, none⟩ = false := carryF hba (v := .bool false) (by go_simp) (by go_simp)
  have az : w.heap.size + 1 + 1 < wa.heap.size := by have := hba.size; simp at this; omega
  have HBA := Lib.hid (show Below w.heap.size w wa by refine Below.trans ?_ (hba.mono (by simp <;> omega)); repeat (first | exact Below.refl _ _ | refine Below.alloc ?_ (by simp <;> omega) _))
  have az1 : w.heap.size + 1 < wa.heap.size := by omega
  have az0 : w.heap.size < wa.heap.size := by omega
  have ac : (wa.cell? ⟨w.heap.size + 1, 0, none⟩).isSome = true := by rw [a0]; rfl
  clear hba
  go_wp2_with fail
  refine (HOY.out _).mono ?_
  rintro r wb ⟨o3, k3, c3, o4, k4, c4, rfl, hv2, hd2, hbb⟩
  have bz : wa.heap.size < wb.heap.size := by have := hbb.size; simp at this; omega
  have hab : Below wa.heap.size wa wb := by refine Below.trans ?_ (hbb.mono (by simp <;> omega)); repeat (first | exact Below.refl _ _ | refine Below.setCell ?_ (by first | omega | (simp; done) | (simp; omega)) _ | refine Below.alloc ?_ (by simp <;> omega) _)
  have p0 : wb.cell? ⟨wa.heap.size, 0, none⟩ = some (.bool s) := carry hbb (by go_simp)
  have p1 : wb.cell? ⟨wa.heap.size, 1, none⟩ = some (.slice o1 k1 c1) := carry hbb (by go_simp)
  have p2 : wb.cell? ⟨wa.heap.size, 2, none⟩ = some (.slice o2 k2 c2) := carry hbb (by go_simp)
  have HBB := Lib.hid (HBA.out.trans (hab.mono HBA.out.size))
  have hw1 := NatIs.below hv1 hab
  have hw2 := NatIs.below hd1 hab
  have q0 := carry hab r0
  have q1 := carry hab r1
  have q2 := carry hab r2
  have g0 := carryF hab r0 f0
  have g1 := carryF hab r1 f1
  have g2 := carryF hab r2 f2
  have cz : w.heap.size + 1 + 1 < wb.heap.size := by omega
  clear hbb hab hv1 hd1 r0 r1 r2 f0 f1 f2 a0 a1
  go_wp2_with fail
  obtain ⟨wn, hW⟩ : ∃ wn, wn = wb.alloc (.cells #[.bool t, .slice o3 k3 c3, .slice o4 k4 c4] 56) := ⟨_, rfl⟩
  rw [← hW]
  have hbn : Below wb.heap.size wb wn := by rw [hW]; exact Below.alloc (Below.refl _ _) (Nat.le_refl _) _
  have HBN2 := Lib.hid (show Below w.heap.size w wn from HBB.out.trans (hbn.mono HBB.out.size))
  have b0 : wn.cell? ⟨wb.heap.size, 0, none⟩ = some (.bool t) := by rw [hW]; clear hW; go_simp
  have b1 : wn.cell? ⟨wb.heap.size, 1, none⟩ = some (.slice o3 k3 c3) := by rw [hW]; clear hW; go_simp
  have b2 : wn.cell? ⟨wb.heap.size, 2, none⟩ = some (.slice o4 k4 c4) := by rw [hW]; clear hW; go_simp
  have hzb : wb.heap.size < wn.heap.size := by rw [hW]; simp
  clear hW
  have HB0 := Lib.hid (Below.refl wn.heap.size wn)
  have hna : w.heap.size + 1 + 1 ≠ wa.heap.size := by omega
  have hnb : w.heap.size + 1 + 1 ≠ wb.heap.size := by omega
  have hzl : w.heap.size + 1 + 1 ≤ wn.heap.size := by omega
  have HSK := Lib.hid (show ∀ wx, Below wn.heap.size wn wx → wx.cell? ⟨wa.heap.size, 0, none⟩ = some (.bool s) ∧ wx.cell? ⟨wa.heap.size, 1, none⟩ = some (.slice o1 k1 c1) ∧ wx.cell? ⟨wa.heap.size, 2, none⟩ = some (.slice o2 k2 c2) ∧ wx.cell? ⟨wb.heap.size, 1, none⟩ = some (.slice o3 k3 c3) ∧ wx.cell? ⟨wb.heap.size, 0, none⟩ = some (.bool t) ∧ wx.cell? ⟨wb.heap.size, 2, none⟩ = some (.slice o4 k4 c4) ∧ wa.heap.size < wx.heap.size ∧ wb.heap.size < wx.heap.size ∧ w.heap.size + 1 + 1 < wx.heap.size from fun wx h => by
    have hs := h.size
    have hx := hbn.trans (h.mono hbn.size)
    exact ⟨carry hx p0, carry hx p1, carry hx p2, carry h b1, carry h b0, carry h b2, by omega, by omega, by omega⟩)
  have HRB := Lib.hid (show ∀ wx, Below wn.heap.size wn wx → (wx.cell? ⟨w.heap.size + 1 + 1, 0, none⟩ = some (.int .i64 0) ∧ wx.cell? ⟨w.heap.size + 1 + 1, 1, none⟩ = some (.int .i64 0) ∧ wx.cell? ⟨w.heap.size + 1 + 1, 2, none⟩ = some (.bool false)) ∧ (wx.frozen? ⟨w.heap.size + 1 + 1, 0, none⟩ = false ∧ wx.frozen? ⟨w.heap.size + 1 + 1, 1, none⟩ = false ∧ wx.frozen? ⟨w.heap.size + 1 + 1, 2, none⟩ = false) ∧ w.heap.size + 1 + 1 < wx.heap.size from fun wx h => by
    have hs := h.size
    have hx := hbn.trans (h.mono hbn.size)
    exact ⟨⟨carry hx q0, carry hx q1, carry hx q2⟩, ⟨carryF hx q0 g0, carryF hx q1 g1, carryF hx q2 g2⟩, by omega⟩)
  have HN1 := Lib.hid (show ∀ wx, Below wn.heap.size wn wx → NatIs wx (.slice o1 k1 c1) A from fun wx h => hw1.below (hbn.trans (h.mono hbn.size)))
  have HD1 := Lib.hid (show ∀ wx, Below wn.heap.size wn wx → NatIs wx (.slice o2 k2 c2) D from fun wx h => hw2.below (hbn.trans (h.mono hbn.size)))
  have HN3 := Lib.hid (show ∀ wx, Below wn.heap.size wn wx → NatIs wx (.slice o3 k3 c3) B from fun wx h => hv2.below (hbn.trans (h.mono hbn.size)))
  have HD4 := Lib.hid (show ∀ wx, Below wn.heap.size wn wx → NatIs wx (.slice o4 k4 c4) D from fun wx h => hd2.below (hbn.trans (h.mono hbn.size)))
  clear q0 q1 q2 g0 g1 g2 hw1 hw2 hv2 hd2 p0 p1 p2 b0 b1 b2 hbn
  go_region_held3 (fun wx => wx.cell? ⟨wa.heap.size, 0, none⟩ = some (.bool s) ∧ wx.cell? ⟨wa.heap.size, 1, none⟩ = some (.slice o1 k1 c1) ∧ wx.cell? ⟨wa.heap.size, 2, none⟩ = some (.slice o2 k2 c2) ∧ wx.cell? ⟨wb.heap.size, 1, none⟩ = some (.slice o3 k3 c3) ∧ wx.cell? ⟨wb.heap.size, 0, none⟩ = some (.bool t) ∧ wx.cell? ⟨wb.heap.size, 2, none⟩ = some (.slice o4 k4 c4) ∧ wa.heap.size < wx.heap.size ∧ wb.heap.size < wx.heap.size ∧ w.heap.size + 1 + 1 < wx.heap.size ∧ Below (w.heap.size + 1 + 1) wn wx) (first | (go_keep; done) | (refine ⟨?_, ?_, ?_, ?_, ?_, ?_, ?_, ?_, ?_, ?_⟩ <;> first | with_reducible assumption | exact (HSK.out _ (by first | with_reducible assumption | with_reducible exact HB0.out | with_reducible exact HB0.out.drew | with_reducible exact Below.drew (by with_reducible assumption))).1 | exact (HSK.out _ (by first | with_reducible assumption | with_reducible exact HB0.out | with_reducible exact HB0.out.drew | with_reducible exact Below.drew (by with_reducible assumption))).2.1 | exact (HSK.out _ (by first | with_reducible assumption | with_reducible exact HB0.out | with_reducible exact HB0.out.drew | with_reducible exact Below.drew (by with_reducible assumption))).2.2.1 | exact (HSK.out _ (by first | with_reducible assumption | with_reducible exact HB0.out | with_reducible exact HB0.out.drew | with_reducible exact Below.drew (by with_reducible assumption))).2.2.2.1 | exact (HSK.out _ (by first | with_reducible assumption | with_reducible exact HB0.out | with_reducible exact HB0.out.drew | with_reducible exact Below.drew (by with_reducible assumption))).2.2.2.2.1 | exact (HSK.out _ (by first | with_reducible assumption | with_reducible exact HB0.out | with_reducible exact HB0.out.drew | with_reducible exact Below.drew (by with_reducible assumption))).2.2.2.2.2.1 | exact (HSK.out _ (by first | with_reducible assumption | with_reducible exact HB0.out | with_reducible exact HB0.out.drew | with_reducible exact Below.drew (by with_reducible assumption))).2.2.2.2.2.2.1 | exact (HSK.out _ (by first | with_reducible assumption | with_reducible exact HB0.out | with_reducible exact HB0.out.drew | with_reducible exact Below.drew (by with_reducible assumption))).2.2.2.2.2.2.2.1 | exact (HSK.out _ (by first | with_reducible assumption | with_reducible exact HB0.out | with_reducible exact HB0.out.drew | with_reducible exact Below.drew (by with_reducible assumption))).2.2.2.2.2.2.2.2 | exact Below.mono (by first | with_reducible assumption | with_reducible exact HB0.out | with_reducible exact HB0.out.drew | with_reducible exact Below.drew (by with_reducible assumption)) hzl | exact (World.cell?_setCell_far _ _ _ _ hna).trans ((World.cell?_setCell_far _ _ _ _ hna).trans ((World.cell?_setCell_far _ _ _ _ hna).trans (HSK.out _ (by first | with_reducible assumption | with_reducible exact HB0.out | with_reducible exact HB0.out.drew | with_reducible exact Below.drew (by with_reducible assumption))).1)) | exact (World.cell?_setCell_far _ _ _ _ hna).trans ((World.cell?_setCell_far _ _ _ _ hna).trans ((World.cell?_setCell_far _ _ _ _ hna).trans (HSK.out _ (by first | with_reducible assumption | with_reducible exact HB0.out | with_reducible exact HB0.out.drew | with_reducible exact Below.drew (by with_reducible assumption))).2.1)) | exact (World.cell?_setCell_far _ _ _ _ hna).trans ((World.cell?_setCell_far _ _ _ _ hna).trans ((World.cell?_setCell_far _ _ _ _ hna).trans (HSK.out _ (by first | with_reducible assumption | with_reducible exact HB0.out | with_reducible exact HB0.out.drew | with_reducible exact Below.drew (by with_reducible assumption))).2.2.1)) | exact (World.cell?_setCell_far _ _ _ _ hnb).trans ((World.cell?_setCell_far _ _ _ _ hnb).trans ((World.cell?_setCell_far _ _ _ _ hnb).trans (HSK.out _ (by first | with_reducible assumption | with_reducible exact HB0.out | with_reducible exact HB0.out.drew | with_reducible exact Below.drew (by with_reducible assumption))).2.2.2.1)) | exact (World.cell?_setCell_far _ _ _ _ hnb).trans ((World.cell?_setCell_far _ _ _ _ hnb).trans ((World.cell?_setCell_far _ _ _ _ hnb).trans (HSK.out _ (by first | with_reducible assumption | with_reducible exact HB0.out | with_reducible exact HB0.out.drew | with_reducible exact Below.drew (by with_reducible assumption))).2.2.2.2.1)) | exact (World.cell?_setCell_far _ _ _ _ hnb).trans ((World.cell?_setCell_far _ _ _ _ hnb).trans ((World.cell?_setCell_far _ _ _ _ hnb).trans (HSK.out _ (by first | with_reducible assumption | with_reducible exact HB0.out | with_reducible exact HB0.out.drew | with_reducible exact Below.drew (by with_reducible assumption))).2.2.2.2.2.1)) | (simp only [World.size_setCell]; first | exact (HSK.out _ (by first | with_reducible assumption | with_reducible exact HB0.out | with_reducible exact HB0.out.drew | with_reducible exact Below.drew (by with_reducible assumption))).2.2.2.2.2.2.1 | exact (HSK.out _ (by first | with_reducible assumption | with_reducible exact HB0.out | with_reducible exact HB0.out.drew | with_reducible exact Below.drew (by with_reducible assumption))).2.2.2.2.2.2.2.1 | exact (HSK.out _ (by first | with_reducible assumption | with_reducible exact HB0.out | with_reducible exact HB0.out.drew | with_reducible exact Below.drew (by with_reducible assumption))).2.2.2.2.2.2.2.2) | exact Below.setCell (p := ⟨w.heap.size + 1 + 1, 2, none⟩) (Below.setCell (p := ⟨w.heap.size + 1 + 1, 1, none⟩) (Below.setCell (p := ⟨w.heap.size + 1 + 1, 0, none⟩) (Below.mono (by first | with_reducible assumption | with_reducible exact HB0.out | with_reducible exact HB0.out.drew | with_reducible exact Below.drew (by with_reducible assumption)) hzl) (Nat.le_refl _) _) (Nat.le_refl _) _) (Nat.le_refl _) _))
    (first
      | (go_at_call 61; ((with_reducible refine (mul_nat (.slice o1 k1 c1) (.slice o3 k3 c3) A B _ (HN1.out _ (by first | with_reducible assumption | with_reducible exact HB0.out | with_reducible exact HB0.out.drew | with_reducible exact Below.drew (by with_reducible assumption))) (HN3.out _ (by first | with_reducible assumption | with_reducible exact HB0.out | with_reducible exact HB0.out.drew | with_reducible exact Below.drew (by with_reducible assumption))) HPA.out HPB.out).mono ?_); rintro r wq ⟨vp, rfl, hvp, hbq⟩; obtain ⟨pO, pK, pC, rfl⟩ := NatIs.form hvp; have qb : Below wn.heap.size wn wq := Below.trans (by first | with_reducible assumption | with_reducible exact HB0.out | with_reducible exact HB0.out.drew | with_reducible exact Below.drew (by with_reducible assumption)) (hbq.mono (Below.size (by first | with_reducible assumption | with_reducible exact HB0.out | with_reducible exact HB0.out.drew | with_reducible exact Below.drew (by with_reducible assumption))))))
      | (go_at_call 61; ((with_reducible refine (mul_nat (.slice o2 k2 c2) (.slice o4 k4 c4) D D _ (HD1.out _ (by first | with_reducible assumption | with_reducible exact HB0.out | with_reducible exact HB0.out.drew | with_reducible exact Below.drew (by with_reducible assumption))) (HD4.out _ (by first | with_reducible assumption | with_reducible exact HB0.out | with_reducible exact HB0.out.drew | with_reducible exact Below.drew (by with_reducible assumption))) HPD.out HPD.out).mono ?_); rintro r wq ⟨vd, rfl, hvd, hbq⟩; obtain ⟨dO, dK, dC, rfl⟩ := NatIs.form hvd; have qb : Below wn.heap.size wn wq := Below.trans (by first | with_reducible assumption | with_reducible exact HB0.out | with_reducible exact HB0.out.drew | with_reducible exact Below.drew (by with_reducible assumption)) (hbq.mono (Below.size (by first | with_reducible assumption | with_reducible exact HB0.out | with_reducible exact HB0.out.drew | with_reducible exact Below.drew (by with_reducible assumption)))); have hvp2 := NatIs.below hvp hbq))
      | (go_at_call 41; ((with_reducible refine (round_any (!(s == t)) (.slice pO pK pC) (.slice dO dK dC) (A * B) (D * D) _ (by with_reducible assumption) (by with_reducible assumption) HBN.out HBD.out rfl rfl).mono ?_); rintro r wq ⟨rm, re, ok, rfl, hR, hbq⟩; have qb : Below wn.heap.size wn wq := Below.trans (by first | with_reducible assumption | with_reducible exact HB0.out | with_reducible exact HB0.out.drew | with_reducible exact Below.drew (by with_reducible assumption)) (hbq.mono (Below.size (by first | with_reducible assumption | with_reducible exact HB0.out | with_reducible exact HB0.out.drew | with_reducible exact Below.drew (by with_reducible assumption)))); obtain ⟨⟨q0, q1, q2⟩, ⟨g0, g1, g2⟩, qz⟩ := HRB.out _ qb)))
  go_wp2_with fail
  refine bodyPost_ret (v := .agg #[.int .i64 rm, .int .i64 re, .bool ok]) ?_ rfl ?_
  · simp [results, Tryz.results30, go_sem, q0, q1, q2]
  · exact ⟨_, _, _, rfl, hR, HBN2.out.trans (Below.mono (Below.setCell (p := ⟨w.heap.size + 1 + 1, 2, none⟩) (Below.setCell (p := ⟨w.heap.size + 1 + 1, 1, none⟩) (Below.setCell (p := ⟨w.heap.size + 1 + 1, 0, none⟩) (Below.mono qb hzl) (Nat.le_refl _) _) (Nat.le_refl _) _) (Nat.le_refl _) _) (by omega))⟩

set_option maxRecDepth 100000 in
set_option maxHeartbeats 4000000 in
theorem rdiv_w (m e k f : Int) (w : World) (h1 : vr m e = true) (h2 : vr k f = true) :
    Calls Tryz.prog 31 #[realV m e, realV k f] w fun r w' => ∃ rm re ok, r = .returned (.agg #[.int .i64 rm, .int .i64 re, .bool ok]) ∧ RndP (ab (UU m e)) (ab (UU k f)) (decide (m < 0) != decide (k < 0)) rm re ok ∧ Below w.heap.size w w' := by
  obtain ⟨n1, l1⟩ := uu_bd h1
  obtain ⟨n2, l2⟩ := uu_bd h2
  have HOX := Lib.hid (fun W : World => of_any m e W h1)
  have HOY := Lib.hid (fun W : World => of_any k f W h2)
  clear h1 h2
  obtain ⟨A, hA⟩ : ∃ A, A = ab (UU m e) := ⟨_, rfl⟩
  obtain ⟨B, hB⟩ : ∃ B, B = ab (UU k f) := ⟨_, rfl⟩
  obtain ⟨s, hs1⟩ : ∃ s, s = decide (m < 0) := ⟨_, rfl⟩
  obtain ⟨t, ht1⟩ : ∃ t, t = decide (k < 0) := ⟨_, rfl⟩
  rw [← hA] at n1 l1 HOX ⊢
  rw [← hB] at n2 l2 HOY ⊢
  rw [← hs1] at HOX ⊢
  rw [← ht1] at HOY ⊢
  clear hA hB hs1 ht1
  obtain ⟨D, hD⟩ : ∃ D, D = (2 : Int) ^ 150 := ⟨_, rfl⟩
  have HD0 := Lib.hid (show D < pw 11 by rw [hD]; exact pw_150b)
  have HD9 := Lib.hid (show (0 : Int) ≤ D by rw [hD]; exact Int.le_of_lt (Int.pow_pos (by decide)))
  rw [← hD] at HOX HOY
  clear hD
  have HPA := Lib.hid (show A < pw 1000 by have h1 := pw_le (show 40 ≤ 1000 by decide); omega)
  have HPB := Lib.hid (show B < pw 1000 by have h1 := pw_le (show 40 ≤ 1000 by decide); omega)
  have HPD := Lib.hid (show D < pw 1000 by have h1 := pw_le (show 11 ≤ 1000 by decide); have h2 := HD0.out; omega)
  have HBN := Lib.hid (show A < pw 300 by have h1 := pw_le (show 40 ≤ 300 by decide); omega)
  have HBD := Lib.hid (show B < pw 300 by have h1 := pw_le (show 40 ≤ 300 by decide); omega)
  go_enter Tryz.func31, Tryz.ntmps31
  go_wp2_with fail
  refine (HOX.out _).mono ?_
  rintro r wa ⟨o1, k1, c1, o2, k2, c2, rfl, hv1, hd1, hba⟩
  have a0 : wa.cell? ⟨w.heap.size + 1, 0, none⟩ = some (.int .i64 k) := carry hba (by go_simp)
  have a1 : wa.cell? ⟨w.heap.size + 1, 1, none⟩ = some (.int .i64 f) := carry hba (by go_simp)
  have r0 : wa.cell? ⟨w.heap.size + 1 + 1, 0, none⟩ = some (.int .i64 0) := carry hba (by go_simp)
  have r1 : wa.cell? ⟨w.heap.size + 1 + 1, 1, none⟩ = some (.int .i64 0) := carry hba (by go_simp)
  have r2 : wa.cell? ⟨w.heap.size + 1 + 1, 2, none⟩ = some (.bool false) := carry hba (by go_simp)
  have f0 : wa.frozen? ⟨w.heap.size + 1 + 1, 0, none⟩ = false := carryF hba (v := .int .i64 0) (by go_simp) (by go_simp)
  have f1 : wa.frozen? ⟨w.heap.size + 1 + 1, 1, none⟩ = false := carryF hba (v := .int .i64 0) (by go_simp) (by go_simp)
  have f2 : wa.frozen? ⟨w.heap.size + 1 + 1, 2, none⟩ = false := carryF hba (v := .bool false) (by go_simp) (by go_simp)
  have az : w.heap.size + 1 + 1 < wa.heap.size := by have := hba.size; simp at this; omega
  have HBA := Lib.hid (show Below w.heap.size w wa by refine Below.trans ?_ (hba.mono (by simp <;> omega)); repeat (first | exact Below.refl _ _ | refine Below.alloc ?_ (by simp <;> omega) _))
  have az1 : w.heap.size + 1 < wa.heap.size := by omega
  have az0 : w.heap.size < wa.heap.size := by omega
  have ac : (wa.cell? ⟨w.heap.size + 1, 0, none⟩).isSome = true := by rw [a0]; rfl
  clear hba
  go_wp2_with fail
  refine (HOY.out _).mono ?_
  rintro r wb ⟨o3, k3, c3, o4, k4, c4, rfl, hv2, hd2, hbb⟩
  have bz : wa.heap.size < wb.heap.size := by have := hbb.size; simp at this; omega
  have hab : Below wa.heap.size wa wb := by refine Below.trans ?_ (hbb.mono (by simp <;> omega)); repeat (first | exact Below.refl _ _ | refine Below.setCell ?_ (by first | omega | (simp; done) | (simp; omega)) _ | refine Below.alloc ?_ (by simp <;> omega) _)
  have p0 : wb.cell? ⟨wa.heap.size, 0, none⟩ = some (.bool s) := carry hbb (by go_simp)
  have p1 : wb.cell? ⟨wa.heap.size, 1, none⟩ = some (.slice o1 k1 c1) := carry hbb (by go_simp)
  have p2 : wb.cell? ⟨wa.heap.size, 2, none⟩ = some (.slice o2 k2 c2) := carry hbb (by go_simp)
  have HBB := Lib.hid (HBA.out.trans (hab.mono HBA.out.size))
  have hw1 := NatIs.below hv1 hab
  have hw2 := NatIs.below hd1 hab
  have q0 := carry hab r0
  have q1 := carry hab r1
  have q2 := carry hab r2
  have g0 := carryF hab r0 f0
  have g1 := carryF hab r1 f1
  have g2 := carryF hab r2 f2
  have cz : w.heap.size + 1 + 1 < wb.heap.size := by omega
  clear hbb hab hv1 hd1 r0 r1 r2 f0 f1 f2 a0 a1
  go_wp2_with fail
  obtain ⟨wn, hW⟩ : ∃ wn, wn = wb.alloc (.cells #[.bool t, .slice o3 k3 c3, .slice o4 k4 c4] 56) := ⟨_, rfl⟩
  rw [← hW]
  have hbn : Below wb.heap.size wb wn := by rw [hW]; exact Below.alloc (Below.refl _ _) (Nat.le_refl _) _
  have HBN2 := Lib.hid (show Below w.heap.size w wn from HBB.out.trans (hbn.mono HBB.out.size))
  have b0 : wn.cell? ⟨wb.heap.size, 0, none⟩ = some (.bool t) := by rw [hW]; clear hW; go_simp
  have b1 : wn.cell? ⟨wb.heap.size, 1, none⟩ = some (.slice o3 k3 c3) := by rw [hW]; clear hW; go_simp
  have b2 : wn.cell? ⟨wb.heap.size, 2, none⟩ = some (.slice o4 k4 c4) := by rw [hW]; clear hW; go_simp
  have hzb : wb.heap.size < wn.heap.size := by rw [hW]; simp
  clear hW
  have HB0 := Lib.hid (Below.refl wn.heap.size wn)
  have hna : w.heap.size + 1 + 1 ≠ wa.heap.size := by omega
  have hnb : w.heap.size + 1 + 1 ≠ wb.heap.size := by omega
  have hzl : w.heap.size + 1 + 1 ≤ wn.heap.size := by omega
  have HSK := Lib.hid (show ∀ wx, Below wn.heap.size wn wx → wx.cell? ⟨wa.heap.size, 0, none⟩ = some (.bool s) ∧ wx.cell? ⟨wa.heap.size, 1, none⟩ = some (.slice o1 k1 c1) ∧ wx.cell? ⟨wa.heap.size, 2, none⟩ = some (.slice o2 k2 c2) ∧ wx.cell? ⟨wb.heap.size, 1, none⟩ = some (.slice o3 k3 c3) ∧ wx.cell? ⟨wb.heap.size, 0, none⟩ = some (.bool t) ∧ wx.cell? ⟨wb.heap.size, 2, none⟩ = some (.slice o4 k4 c4) ∧ wa.heap.size < wx.heap.size ∧ wb.heap.size < wx.heap.size ∧ w.heap.size + 1 + 1 < wx.heap.size from fun wx h => by
    have hs := h.size
    have hx := hbn.trans (h.mono hbn.size)
    exact ⟨carry hx p0, carry hx p1, carry hx p2, carry h b1, carry h b0, carry h b2, by omega, by omega, by omega⟩)
  have HRB := Lib.hid (show ∀ wx, Below wn.heap.size wn wx → (wx.cell? ⟨w.heap.size + 1 + 1, 0, none⟩ = some (.int .i64 0) ∧ wx.cell? ⟨w.heap.size + 1 + 1, 1, none⟩ = some (.int .i64 0) ∧ wx.cell? ⟨w.heap.size + 1 + 1, 2, none⟩ = some (.bool false)) ∧ (wx.frozen? ⟨w.heap.size + 1 + 1, 0, none⟩ = false ∧ wx.frozen? ⟨w.heap.size + 1 + 1, 1, none⟩ = false ∧ wx.frozen? ⟨w.heap.size + 1 + 1, 2, none⟩ = false) ∧ w.heap.size + 1 + 1 < wx.heap.size from fun wx h => by
    have hs := h.size
    have hx := hbn.trans (h.mono hbn.size)
    exact ⟨⟨carry hx q0, carry hx q1, carry hx q2⟩, ⟨carryF hx q0 g0, carryF hx q1 g1, carryF hx q2 g2⟩, by omega⟩)
  have HN1 := Lib.hid (show ∀ wx, Below wn.heap.size wn wx → NatIs wx (.slice o1 k1 c1) A from fun wx h => hw1.below (hbn.trans (h.mono hbn.size)))
  have HD1 := Lib.hid (show ∀ wx, Below wn.heap.size wn wx → NatIs wx (.slice o2 k2 c2) D from fun wx h => hw2.below (hbn.trans (h.mono hbn.size)))
  have HN3 := Lib.hid (show ∀ wx, Below wn.heap.size wn wx → NatIs wx (.slice o3 k3 c3) B from fun wx h => hv2.below (hbn.trans (h.mono hbn.size)))
  have HD4 := Lib.hid (show ∀ wx, Below wn.heap.size wn wx → NatIs wx (.slice o4 k4 c4) D from fun wx h => hd2.below (hbn.trans (h.mono hbn.size)))
  clear q0 q1 q2 g0 g1 g2 hw1 hw2 hv2 hd2 p0 p1 p2 b0 b1 b2 hbn
  refine (round_any (!(s == t)) (.slice o1 k1 c1) (.slice o3 k3 c3) A B _ (HN1.out _ HB0.out) (HN3.out _ HB0.out) HBN.out HBD.out rfl rfl).mono ?_
  rintro r wq ⟨rm, re, ok, rfl, hR, qb⟩
  obtain ⟨⟨q0, q1, q2⟩, ⟨g0, g1, g2⟩, qz⟩ := HRB.out _ qb
  go_wp2_with fail
  refine bodyPost_ret (v := .agg #[.int .i64 rm, .int .i64 re, .bool ok]) ?_ rfl ?_
  · simp [results, Tryz.results31, go_sem, q0, q1, q2]
  · exact ⟨_, _, _, rfl, hR, HBN2.out.trans (Below.mono (Below.setCell (p := ⟨w.heap.size + 1 + 1, 2, none⟩) (Below.setCell (p := ⟨w.heap.size + 1 + 1, 1, none⟩) (Below.setCell (p := ⟨w.heap.size + 1 + 1, 0, none⟩) (Below.mono qb hzl) (Nat.le_refl _) _) (Nat.le_refl _) _) (Nat.le_refl _) _) (by omega))⟩

end Go.Proofs.YtbfknapmhkpgcaaGreatDoor
