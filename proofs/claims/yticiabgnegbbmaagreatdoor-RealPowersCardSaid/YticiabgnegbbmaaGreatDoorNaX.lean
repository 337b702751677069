/-
  Several texts in one (NatI, NatJ, NatO, Stk, NatP).
-/
import Derived.Test.YticiabgnegbbmaaGreatDoorNaA
import Derived.Test.YticiabgnegbbmaaGreatDoorSan
import Derived.Test.YticiabgnegbbmaaGreatDoorValA

namespace Go.Proofs.YticiabgnegbbmaaGreatDoor
open Go.RowKit
set_option linter.unusedVariables false

theorem pw_150 : (2 : Int) ^ 150 < pw 300 := by
  have h : (2 : Int) ^ 150 = 2 ^ 0 * pw 10 := pw_two 150
  rw [h, Int.pow_zero, Int.one_mul]
  have h1 := pw_le (show 10 + 1 ≤ 300 by decide)
  have h2 := pw_succ 10
  have h3 := pw_pos 10
  omega

end Go.Proofs.YticiabgnegbbmaaGreatDoor

namespace Go.Proofs.YticiabgnegbbmaaGreatDoor
open Go.RowKit
set_option linter.unusedVariables false

/-- what the reference returns for an index -/
abbrev rrV (I : Int) : Value := .agg #[.int .i64 (oM I), .int .i64 (oE I), .bool (decide (-2533359615 ≤ I ∧ I ≤ 2533359615))]

theorem uu_sg (m e : Int) : (m < 0 ↔ UU m e < 0) := by
  have hp : (0 : Int) < 2 ^ (e + 150).toNat := Int.pow_pos (by decide)
  unfold UU
  constructor
  · exact fun h => Int.mul_neg_of_neg_of_pos h hp
  · intro h
    by_cases hm : m < 0
    · exact hm
    · have := Int.mul_nonneg (show 0 ≤ m by omega) (Int.le_of_lt hp)
      omega

theorem p150 : (0 : Int) < 2 ^ 150 := Int.pow_pos (by decide)

end Go.Proofs.YticiabgnegbbmaaGreatDoor

namespace Go.Proofs.YticiabgnegbbmaaGreatDoor
open Go.RowKit
set_option linter.unusedVariables false

theorem pw_150b : (2 : Int) ^ 150 < pw 11 := by
  have h : (2 : Int) ^ 150 = 2 ^ 0 * pw 10 := pw_two 150
  rw [h, Int.pow_zero, Int.one_mul]
  show pw 10 < pw (10 + 1)
  have h2 := pw_succ 10
  have h3 := pw_pos 10
  omega

set_option maxRecDepth 100000 in
set_option maxHeartbeats 4000000 in
theorem rmul_w (m e k f : Int) (w : World) (h1 : vr m e = true) (h2 : vr k f = true) :
    Calls Tryz.prog 42 #[realV m e, realV k f] w fun r w' => ∃ rm re ok, r = .returned (.agg #[.int .i64 rm, .int .i64 re, .bool ok]) ∧ RndP (ab (UU m e) * ab (UU k f)) (2 ^ 150 * 2 ^ 150) (decide (m < 0) != decide (k < 0)) rm re ok ∧ Below w.heap.size w w' := by
  obtain ⟨n1, l1⟩ := uu_bd h1
  obtain ⟨n2, l2⟩ := uu_bd h2
  have HOX := Lib.hid (fun W : World => of_any m e W h1)
  have HOY := Lib.hid (fun W : World => of_any k f W h2)
  clear h1 h2
  obtain ⟨A, hA⟩ : ∃ A, A = ab (UU m e) := ⟨_, rfl⟩
  obtain ⟨B, hB⟩ : ∃ B, B = ab (UU k f) := ⟨_, rfl⟩
  obtain ⟨s, hs1⟩ : ∃ s, s = decide (m < 0) := ⟨_, rfl⟩
  obtain ⟨t, ht1⟩ : ∃ t, t = decide (k < 0) := ⟨_, rfl⟩
  rw [← hA] at n1 l1 HOX ⊢
  rw [← hB] at n2 l2 HOY ⊢
  rw [← hs1] at HOX ⊢
  rw [← ht1] at HOY ⊢
  clear hA hB hs1 ht1
  obtain ⟨D, hD⟩ : ∃ D, D = (2 : Int) ^ 150 := ⟨_, rfl⟩
  have HD0 := Lib.hid (show D < pw 11 by rw [hD]; exact pw_150b)
  have HD9 := Lib.hid (show (0 : Int) ≤ D by rw [hD]; exact Int.le_of_lt (Int.pow_pos (by decide)))
  rw [← hD] at HOX HOY ⊢
  clear hD
  have HPA := Lib.hid (show A < pw 1000 by have h1 := pw_le (show 40 ≤ 1000 by decide); omega)
  have HPB := Lib.hid (show B < pw 1000 by have h1 := pw_le (show 40 ≤ 1000 by decide); omega)
  have HPD := Lib.hid (show D < pw 1000 by have h1 := pw_le (show 11 ≤ 1000 by decide); have h2 := HD0.out; omega)
  have HBN := Lib.hid (show A * B < pw 300 by exact pw_mul n1 n2 l1 l2 (by decide))
  have HBD := Lib.hid (show D * D < pw 300 by exact pw_mul HD9.out HD9.out HD0.out HD0.out (by decide))
  go_enter Tryz.func42, Tryz.ntmps42
  go_wp2_with fail
  refine (HOX.out _).mono ?_
  rintro r wa ⟨o1, k1, c1, o2, k2, c2, rfl, hv1, hd1, hba⟩
  have a0 : wa.cell? ⟨w.heap.size + 1, 0, none⟩ = some (.int .i64 k) := carry hba (by go_simp)
  have a1 : wa.cell? ⟨w.heap.size + 1, 1, none⟩ = some (.int .i64 f) := carry hba (by go_simp)
  have r0 : wa.cell? ⟨w.heap.size + 1 + 1, 0, none⟩ = some (.int .i64 0) := carry hba (by go_simp)
  have r1 : wa.cell? ⟨w.heap.size + 1 + 1, 1, none⟩ = some (.int .i64 0) := carry hba (by go_simp)
  have r2 : wa.cell? ⟨w.heap.size + 1 + 1, 2, none⟩ = some (.bool false) := carry hba (by go_simp)
  have f0 : wa.frozen? ⟨w.heap.size + 1 + 1, 0, none⟩ = false := carryF hba (v := .int .i64 0) (by go_simp) (by go_simp)
  have f1 : wa.frozen? ⟨w.heap.size + 1 + 1, 1, none⟩ = false := carryF hba (v := .int .i64 0) (by go_simp) (by go_simp)
  have f2 : wa.frozen? ⟨w.heap.size + 1 + 1, 2, none⟩ = false := carryF hba (v := .bool false) (by go_simp) (by go_simp)
  have az : w.heap.size + 1 + 1 < wa.heap.size := by have := hba.size; simp at this; omega
  have HBA := Lib.hid (show Below w.heap.size w wa by refine Below.trans ?_ (hba.mono (by simp <;> omega)); repeat (first | exact Below.refl _ _ | refine Below.alloc ?_ (by simp <;> omega) _))
  have az1 : w.heap.size + 1 < wa.heap.size := by omega
  have az0 : w.heap.size < wa.heap.size := by omega
  have ac : (wa.cell? ⟨w.heap.size + 1, 0, none⟩).isSome = true := by rw [a0]; rfl
  clear hba
  go_wp2_with fail
  refine (HOY.out _).mono ?_
  rintro r wb ⟨o3, k3, c3, o4, k4, c4, rfl, hv2, hd2, hbb⟩
  have bz : wa.heap.size < wb.heap.size := by have := hbb.size; simp at this; omega
  have hab : Below wa.heap.size wa wb := by refine Below.trans ?_ (hbb.mono (by simp <;> omega)); repeat (first | exact Below.refl _ _ | refine Below.setCell ?_ (by first | omega | (simp; done) | (simp; omega)) _ | refine Below.alloc ?_ (by simp <;> omega) _)
  have p0 : wb.cell? ⟨wa.heap.size, 0, none⟩ = some (.bool s) := carry hbb (by go_simp)
  have p1 : wb.cell? ⟨wa.heap.size, 1, none⟩ = some (.slice o1 k1 c1) := carry hbb (by go_simp)
  have p2 : wb.cell? ⟨wa.heap.size, 2, none⟩ = some (.slice o2 k2 c2) := carry hbb (by go_simp)
  have HBB := Lib.hid (HBA.out.trans (hab.mono HBA.out.size))
  have hw1 := NatIs.below hv1 hab
  have hw2 := NatIs.below hd1 hab
  have q0 := carry hab r0
  have q1 := carry hab r1
  have q2 := carry hab r2
  have g0 := carryF hab r0 f0
  have g1 := carryF hab r1 f1
  have g2 := carryF hab r2 f2
  have cz : w.heap.size + 1 + 1 < wb.heap.size := by omega
  clear hbb hab hv1 hd1 r0 r1 r2 f0 f1 f2 a0 a1
  go_wp2_with fail
  obtain ⟨wn, hW⟩ : ∃ wn, wn = wb.alloc (.cells #[.bool t, .slice o3 k3 c3, .slice o4 k4 c4] 69) := ⟨_, rfl⟩
  rw [← hW]
  have hbn : Below wb.heap.size wb wn := by rw [hW]; exact Below.alloc (Below.refl _ _) (Nat.le_refl _) _
  have HBN2 := Lib.hid (show Below w.heap.size w wn from HBB.out.trans (hbn.mono HBB.out.size))
  have b0 : wn.cell? ⟨wb.heap.size, 0, none⟩ = some (.bool t) := by rw [hW]; clear hW; go_simp
  have b1 : wn.cell? ⟨wb.heap.size, 1, none⟩ = some (.slice o3 k3 c3) := by rw [hW]; clear hW; go_simp
  have b2 : wn.cell? ⟨wb.heap.size, 2, none⟩ = some (.slice o4 k4 c4) := by rw [hW]; clear hW; go_simp
  have hzb : wb.heap.size < wn.heap.size := by rw [hW]; simp
  clear hW
  have HB0 := Lib.hid (Below.refl wn.heap.size wn)
  have hna : w.heap.size + 1 + 1 ≠ wa.heap.size := by omega
  have hnb : w.heap.size + 1 + 1 ≠ wb.heap.size := by omega
  have hzl : w.heap.size + 1 + 1 ≤ wn.heap.size := by omega
  have HSK := Lib.hid (show ∀ wx, Below wn.heap.size wn wx → wx.cell? ⟨wa.heap.size, 0, none⟩ = some (.bool s) ∧ wx.cell? ⟨wa.heap.size, 1, none⟩ = some (.slice o1 k1 c1) ∧ wx.cell? ⟨wa.heap.size, 2, none⟩ = some (.slice o2 k2 c2) ∧ wx.cell? ⟨wb.heap.size, 1, none⟩ = some (.slice o3 k3 c3) ∧ wx.cell? ⟨wb.heap.size, 0, none⟩ = some (.bool t) ∧ wx.cell? ⟨wb.heap.size, 2, none⟩ = some (.slice o4 k4 c4) ∧ wa.heap.size < wx.heap.size ∧ wb.heap.size < wx.heap.size ∧ w.heap.size + 1 + 1 < wx.heap.size from fun wx h => by
    have hs := h.size
    have hx := hbn.trans (h.mono hbn.size)
    exact ⟨carry hx p0, carry hx p1, carry hx p2, carry h b1, carry h b0, carry h b2, by omega, by omega, by omega⟩)
  have HRB := Lib.hid (show ∀ wx, Below wn.heap.size wn wx → (wx.cell? ⟨w.heap.size + 1 + 1, 0, none⟩ = some (.int .i64 0) ∧ wx.cell? ⟨w.heap.size + 1 + 1, 1, none⟩ = some (.int .i64 0) ∧ wx.cell? ⟨w.heap.size + 1 + 1, 2, none⟩ = some (.bool false)) ∧ (wx.frozen? ⟨w.heap.size + 1 + 1, 0, none⟩ = false ∧ wx.frozen? ⟨w.heap.size + 1 + 1, 1, none⟩ = false ∧ wx.frozen? ⟨w.heap.size + 1 + 1, 2, none⟩ = false) ∧ w.heap.size + 1 + 1 < wx.heap.size from fun wx h => by
    have hs := h.size
    have hx := hbn.trans (h.mono hbn.size)
    exact ⟨⟨carry hx q0, carry hx q1, carry hx q2⟩, ⟨carryF hx q0 g0, carryF hx q1 g1, carryF hx q2 g2⟩, by omega⟩)
  have HN1 := Lib.hid (show ∀ wx, Below wn.heap.size wn wx → NatIs wx (.slice o1 k1 c1) A from fun wx h => hw1.below (hbn.trans (h.mono hbn.size)))
  have HD1 := Lib.hid (show ∀ wx, Below wn.heap.size wn wx → NatIs wx (.slice o2 k2 c2) D from fun wx h => hw2.below (hbn.trans (h.mono hbn.size)))
  have HN3 := Lib.hid (show ∀ wx, Below wn.heap.size wn wx → NatIs wx (.slice o3 k3 c3) B from fun wx h => hv2.below (hbn.trans (h.mono hbn.size)))
  have HD4 := Lib.hid (show ∀ wx, Below wn.heap.size wn wx → NatIs wx (.slice o4 k4 c4) D from fun wx h => hd2.below (hbn.trans (h.mono hbn.size)))
  clear q0 q1 q2 g0 g1 g2 hw1 hw2 hv2 hd2 p0 p1 p2 b0 b1 b2 hbn
  go_region_held3 (fun wx => wx.cell? ⟨wa.heap.size, 0, none⟩ = some (.bool s) ∧ wx.cell? ⟨wa.heap.size, 1, none⟩ = some (.slice o1 k1 c1) ∧ wx.cell? ⟨wa.heap.size, 2, none⟩ = some (.slice o2 k2 c2) ∧ wx.cell? ⟨wb.heap.size, 1, none⟩ = some (.slice o3 k3 c3) ∧ wx.cell? ⟨wb.heap.size, 0, none⟩ = some (.bool t) ∧ wx.cell? ⟨wb.heap.size, 2, none⟩ = some (.slice o4 k4 c4) ∧ wa.heap.size < wx.heap.size ∧ wb.heap.size < wx.heap.size ∧ w.heap.size + 1 + 1 < wx.heap.size ∧ Below (w.heap.size + 1 + 1) wn wx) (first | (go_keep; done) | (refine ⟨?_, ?_, ?_, ?_, ?_, ?_, ?_, ?_, ?_, ?_⟩ <;> first | with_reducible assumption | exact (HSK.out _ (by first | with_reducible assumption | with_reducible exact HB0.out | with_reducible exact HB0.out.drew | with_reducible exact Below.drew (by with_reducible assumption))).1 | exact (HSK.out _ (by first | with_reducible assumption | with_reducible exact HB0.out | with_reducible exact HB0.out.drew | with_reducible exact Below.drew (by with_reducible assumption))).2.1 | exact (HSK.out _ (by first | with_reducible assumption | with_reducible exact HB0.out | with_reducible exact HB0.out.drew | with_reducible exact Below.drew (by with_reducible assumption))).2.2.1 | exact (HSK.out _ (by first | with_reducible assumption | with_reducible exact HB0.out | with_reducible exact HB0.out.drew | with_reducible exact Below.drew (by with_reducible assumption))).2.2.2.1 | exact (HSK.out _ (by first | with_reducible assumption | with_reducible exact HB0.out | with_reducible exact HB0.out.drew | with_reducible exact Below.drew (by with_reducible assumption))).2.2.2.2.1 | exact (HSK.out _ (by first | with_reducible assumption | with_reducible exact HB0.out | with_reducible exact HB0.out.drew | with_reducible exact Below.drew (by with_reducible assumption))).2.2.2.2.2.1 | exact (HSK.out _ (by first | with_reducible assumption | with_reducible exact HB0.out | with_reducible exact HB0.out.drew | with_reducible exact Below.drew (by with_reducible assumption))).2.2.2.2.2.2.1 | exact (HSK.out _ (by first | with_reducible assumption | with_reducible exact HB0.out | with_reducible exact HB0.out.drew | with_reducible exact Below.drew (by with_reducible assumption))).2.2.2.2.2.2.2.1 | exact (HSK.out _ (by first | with_reducible assumption | with_reducible exact HB0.out | with_reducible exact HB0.out.drew | with_reducible exact Below.drew (by with_reducible assumption))).2.2.2.2.2.2.2.2 | exact Below.mono (by first | with_reducible assumption | with_reducible exact HB0.out | with_reducible exact HB0.out.drew | with_reducible exact Below.drew (by with_reducible assumption)) hzl | exact (World.cell?_setCell_far _ _ _ _ hna).trans ((World.cell?_setCell_far _ _ _ _ hna).trans ((World.cell?_setCell_far _ _ _ _ hna).trans (HSK.out _ (by first | with_reducible assumption | with_reducible exact HB0.out | with_reducible exact HB0.out.drew | with_reducible exact Below.drew (by with_reducible assumption))).1)) | exact (World.cell?_setCell_far _ _ _ _ hna).trans ((World.cell?_setCell_far _ _ _ _ hna).trans ((World.cell?_setCell_far _ _ _ _ hna).trans (HSK.out _ (by first | with_reducible assumption | with_reducible exact HB0.out | with_reducible exact HB0.out.drew | with_reducible exact Below.drew (by with_reducible assumption))).2.1)) | exact (World.cell?_setCell_far _ _ _ _ hna).trans ((World.cell?_setCell_far _ _ _ _ hna).trans ((World.cell?_setCell_far _ _ _ _ hna).trans (HSK.out _ (by first | with_reducible assumption | with_reducible exact HB0.out | with_reducible exact HB0.out.drew | with_reducible exact Below.drew (by with_reducible assumption))).2.2.1)) | exact (World.cell?_setCell_far _ _ _ _ hnb).trans ((World.cell?_setCell_far _ _ _ _ hnb).trans ((World.cell?_setCell_far _ _ _ _ hnb).trans (HSK.out _ (by first | with_reducible assumption | with_reducible exact HB0.out | with_reducible exact HB0.out.drew | with_reducible exact Below.drew (by with_reducible assumption))).2.2.2.1)) | exact (World.cell?_setCell_far _ _ _ _ hnb).trans ((World.cell?_setCell_far _ _ _ _ hnb).trans ((World.cell?_setCell_far _ _ _ _ hnb).trans (HSK.out _ (by first | with_reducible assumption | with_reducible exact HB0.out | with_reducible exact HB0.out.drew | with_reducible exact Below.drew (by with_reducible assumption))).2.2.2.2.1)) | exact (World.cell?_setCell_far _ _ _ _ hnb).trans ((World.cell?_setCell_far _ _ _ _ hnb).trans ((World.cell?_setCell_far _ _ _ _ hnb).trans (HSK.out _ (by first | with_reducible assumption | with_reducible exact HB0.out | with_reducible exact HB0.out.drew | with_reducible exact Below.drew (by with_reducible assumption))).2.2.2.2.2.1)) | (simp only [World.size_setCell]; first | exact (HSK.out _ (by first | with_reducible assumption | with_reducible exact HB0.out | with_reducible exact HB0.out.drew | with_reducible exact Below.drew (by with_reducible assumption))).2.2.2.2.2.2.1 | exact (HSK.out _ (by first | with_reducible assumption | with_reducible exact HB0.out | with_reducible exact HB0.out.drew | with_reducible exact Below.drew (by with_reducible assumption))).2.2.2.2.2.2.2.1 | exact (HSK.out _ (by first | with_reducible assumption | with_reducible exact HB0.out | with_reducible exact HB0.out.drew | with_reducible exact Below.drew (by with_reducible assumption))).2.2.2.2.2.2.2.2) | exact Below.setCell (p := ⟨w.heap.size + 1 + 1, 2, none⟩) (Below.setCell (p := ⟨w.heap.size + 1 + 1, 1, none⟩) (Below.setCell (p := ⟨w.heap.size + 1 + 1, 0, none⟩) (Below.mono (by first | with_reducible assumption | with_reducible exact HB0.out | with_reducible exact HB0.out.drew | with_reducible exact Below.drew (by with_reducible assumption)) hzl) (Nat.le_refl _) _) (Nat.le_refl _) _) (Nat.le_refl _) _))
    (first
      | (go_at_call 65; ((with_reducible refine (mul_nat (.slice o1 k1 c1) (.slice o3 k3 c3) A B _ (HN1.out _ (by first | with_reducible assumption | with_reducible exact HB0.out | with_reducible exact HB0.out.drew | with_reducible exact Below.drew (by with_reducible assumption))) (HN3.out _ (by first | with_reducible assumption | with_reducible exact HB0.out | with_reducible exact HB0.out.drew | with_reducible exact Below.drew (by with_reducible assumption))) HPA.out HPB.out).mono ?_); rintro r wq ⟨vp, rfl, hvp, hbq⟩; obtain ⟨pO, pK, pC, rfl⟩ := NatIs.form hvp; have qb : Below wn.heap.size wn wq := Below.trans (by first | with_reducible assumption | with_reducible exact HB0.out | with_reducible exact HB0.out.drew | with_reducible exact Below.drew (by with_reducible assumption)) (hbq.mono (Below.size (by first | with_reducible assumption | with_reducible exact HB0.out | with_reducible exact HB0.out.drew | with_reducible exact Below.drew (by with_reducible assumption))))))
      | (go_at_call 65; ((with_reducible refine (mul_nat (.slice o2 k2 c2) (.slice o4 k4 c4) D D _ (HD1.out _ (by first | with_reducible assumption | with_reducible exact HB0.out | with_reducible exact HB0.out.drew | with_reducible exact Below.drew (by with_reducible assumption))) (HD4.out _ (by first | with_reducible assumption | with_reducible exact HB0.out | with_reducible exact HB0.out.drew | with_reducible exact Below.drew (by with_reducible assumption))) HPD.out HPD.out).mono ?_); rintro r wq ⟨vd, rfl, hvd, hbq⟩; obtain ⟨dO, dK, dC, rfl⟩ := NatIs.form hvd; have qb : Below wn.heap.size wn wq := Below.trans (by first | with_reducible assumption | with_reducible exact HB0.out | with_reducible exact HB0.out.drew | with_reducible exact Below.drew (by with_reducible assumption)) (hbq.mono (Below.size (by first | with_reducible assumption | with_reducible exact HB0.out | with_reducible exact HB0.out.drew | with_reducible exact Below.drew (by with_reducible assumption)))); have hvp2 := NatIs.below hvp hbq))
      | (go_at_call 44; ((with_reducible refine (round_any (!(s == t)) (.slice pO pK pC) (.slice dO dK dC) (A * B) (D * D) _ (by with_reducible assumption) (by with_reducible assumption) HBN.out HBD.out rfl rfl).mono ?_); rintro r wq ⟨rm, re, ok, rfl, hR, hbq⟩; have qb : Below wn.heap.size wn wq := Below.trans (by first | with_reducible assumption | with_reducible exact HB0.out | with_reducible exact HB0.out.drew | with_reducible exact Below.drew (by with_reducible assumption)) (hbq.mono (Below.size (by first | with_reducible assumption | with_reducible exact HB0.out | with_reducible exact HB0.out.drew | with_reducible exact Below.drew (by with_reducible assumption)))); obtain ⟨⟨q0, q1, q2⟩, ⟨g0, g1, g2⟩, qz⟩ := HRB.out _ qb)))
  go_wp2_with fail
  refine bodyPost_ret (v := .agg #[.int .i64 rm, .int .i64 re, .bool ok]) ?_ rfl ?_
  · simp [results, Tryz.results42, go_sem, q0, q1, q2]
  · exact ⟨_, _, _, rfl, hR, HBN2.out.trans (Below.mono (Below.setCell (p := ⟨w.heap.size + 1 + 1, 2, none⟩) (Below.setCell (p := ⟨w.heap.size + 1 + 1, 1, none⟩) (Below.setCell (p := ⟨w.heap.size + 1 + 1, 0, none⟩) (Below.mono qb hzl) (Nat.le_refl _) _) (Nat.le_refl _) _) (Nat.le_refl _) _) (by omega))⟩

set_option maxRecDepth 100000 in
set_option maxHeartbeats 4000000 in
theorem rdiv_w (m e k f : Int) (w : World) (h1 : vr m e = true) (h2 : vr k f = true) :
    Calls Tryz.prog 25 #[realV m e, realV k f] w fun r w' => ∃ rm re ok, r = .returned (.agg #[.int .i64 rm, .int .i64 re, .bool ok]) ∧ RndP (ab (UU m e)) (ab (UU k f)) (decide (m < 0) != decide (k < 0)) rm re ok ∧ Below w.heap.size w w' := by
  obtain ⟨n1, l1⟩ := uu_bd h1
  obtain ⟨n2, l2⟩ := uu_bd h2
  have HOX := Lib.hid (fun W : World => of_any m e W h1)
  have HOY := Lib.hid (fun W : World => of_any k f W h2)
  clear h1 h2
  obtain ⟨A, hA⟩ : ∃ A, A = ab (UU m e) := ⟨_, rfl⟩
  obtain ⟨B, hB⟩ : ∃ B, B = ab (UU k f) := ⟨_, rfl⟩
  obtain ⟨s, hs1⟩ : ∃ s, s = decide (m < 0) := ⟨_, rfl⟩
  obtain ⟨t, ht1⟩ : ∃ t, t = decide (k < 0) := ⟨_, rfl⟩
  rw [← hA] at n1 l1 HOX ⊢
  rw [← hB] at n2 l2 HOY ⊢
  rw [← hs1] at HOX ⊢
  rw [← ht1] at HOY ⊢
  clear hA hB hs1 ht1
  obtain ⟨D, hD⟩ : ∃ D, D = (2 : Int) ^ 150 := ⟨_, rfl⟩
  have HD0 := Lib.hid (show D < pw 11 by rw [hD]; exact pw_150b)
  have HD9 := Lib.hid (show (0 : Int) ≤ D by rw [hD]; exact Int.le_of_lt (Int.pow_pos (by decide)))
  rw [← hD] at HOX HOY
  clear hD
  have HPA := Lib.hid (show A < pw 1000 by have h1 := pw_le (show 40 ≤ 1000 by decide); omega)
  have HPB := Lib.hid (show B < pw 1000 by have h1 := pw_le (show 40 ≤ 1000 by decide); omega)
  have HPD := Lib.hid (show D < pw 1000 by have h1 := pw_le (show 11 ≤ 1000 by decide); have h2 := HD0.out; omega)
  have HBN := Lib.hid (show A < pw 300 by have h1 := pw_le (show 40 ≤ 300 by decide); omega)
  have HBD := Lib.hid (show B < pw 300 by have h1 := pw_le (show 40 ≤ 300 by decide); omega)
  go_enter Tryz.func25, Tryz.ntmps25
  go_wp2_with fail
  refine (HOX.out _).mono ?_
  rintro r wa ⟨o1, k1, c1, o2, k2, c2, rfl, hv1, hd1, hba⟩
  have a0 : wa.cell? ⟨w.heap.size + 1, 0, none⟩ = some (.int .i64 k) := carry hba (by go_simp)
  have a1 : wa.cell? ⟨w.heap.size + 1, 1, none⟩ = some (.int .i64 f) := carry hba (by go_simp)
  have r0 : wa.cell? ⟨w.heap.size + 1 + 1, 0, none⟩ = some (.int .i64 0) := carry hba (by go_simp)
  have r1 : wa.cell? ⟨w.heap.size + 1 + 1, 1, none⟩ = some (.int .i64 0) := carry hba (by go_simp)
  have r2 : wa.cell? ⟨w.heap.size + 1 + 1, 2, none⟩ = some (.bool false) := carry hba (by go_simp)
  have f0 : wa.frozen? ⟨w.heap.size + 1 + 1, 0, none⟩ = false := carryF hba (v := .int .i64 0) (by go_simp) (by go_simp)
  have f1 : wa.frozen? ⟨w.heap.size + 1 + 1, 1, none⟩ = false := carryF hba (v := .int .i64 0) (by go_simp) (by go_simp)
  have f2 : wa.frozen? ⟨w.heap.size + 1 + 1, 2, none⟩ = false := carryF hba (v := .bool false) (by go_simp) (by go_simp)
  have az : w.heap.size + 1 + 1 < wa.heap.size := by have := hba.size; simp at this; omega
  have HBA := Lib.hid (show Below w.heap.size w wa by refine Below.trans ?_ (hba.mono (by simp <;> omega)); repeat (first | exact Below.refl _ _ | refine Below.alloc ?_ (by simp <;> omega) _))
  have az1 : w.heap.size + 1 < wa.heap.size := by omega
  have az0 : w.heap.size < wa.heap.size := by omega
  have ac : (wa.cell? ⟨w.heap.size + 1, 0, none⟩).isSome = true := by rw [a0]; rfl
  clear hba
  go_wp2_with fail
  refine (HOY.out _).mono ?_
  rintro r wb ⟨o3, k3, c3, o4, k4, c4, rfl, hv2, hd2, hbb⟩
  have bz : wa.heap.size < wb.heap.size := by have := hbb.size; simp at this; omega
  have hab : Below wa.heap.size wa wb := by refine Below.trans ?_ (hbb.mono (by simp <;> omega)); repeat (first | exact Below.refl _ _ | refine Below.setCell ?_ (by first | omega | (simp; done) | (simp; omega)) _ | refine Below.alloc ?_ (by simp <;> omega) _)
  have p0 : wb.cell? ⟨wa.heap.size, 0, none⟩ = some (.bool s) := carry hbb (by go_simp)
  have p1 : wb.cell? ⟨wa.heap.size, 1, none⟩ = some (.slice o1 k1 c1) := carry hbb (by go_simp)
  have p2 : wb.cell? ⟨wa.heap.size, 2, none⟩ = some (.slice o2 k2 c2) := carry hbb (by go_simp)
  have HBB := Lib.hid (HBA.out.trans (hab.mono HBA.out.size))
  have hw1 := NatIs.below hv1 hab
  have hw2 := NatIs.below hd1 hab
  have q0 := carry hab r0
  have q1 := carry hab r1
  have q2 := carry hab r2
  have g0 := carryF hab r0 f0
  have g1 := carryF hab r1 f1
  have g2 := carryF hab r2 f2
  have cz : w.heap.size + 1 + 1 < wb.heap.size := by omega
  clear hbb hab hv1 hd1 r0 r1 r2 f0 f1 f2 a0 a1
  go_wp2_with fail
  obtain ⟨wn, hW⟩ : ∃ wn, wn = wb.alloc (.cells #[.bool t, .slice o3 k3 c3, .slice o4 k4 c4] 69) := ⟨_, rfl⟩
  rw [← hW]
  have hbn : Below wb.heap.size wb wn := by rw [hW]; exact Below.alloc (Below.refl _ _) (Nat.le_refl _) _
  have HBN2 := Lib.hid (show Below w.heap.size w wn from HBB.out.trans (hbn.mono HBB.out.size))
  have b0 : wn.cell? ⟨wb.heap.size, 0, none⟩ = some (.bool t) := by rw [hW]; clear hW; go_simp
  have b1 : wn.cell? ⟨wb.heap.size, 1, none⟩ = some (.slice o3 k3 c3) := by rw [hW]; clear hW; go_simp
  have b2 : wn.cell? ⟨wb.heap.size, 2, none⟩ = some (.slice o4 k4 c4) := by rw [hW]; clear hW; go_simp
  have hzb : wb.heap.size < wn.heap.size := by rw [hW]; simp
  clear hW
  have HB0 := Lib.hid (Below.refl wn.heap.size wn)
  have hna : w.heap.size + 1 + 1 ≠ wa.heap.size := by omega
  have hnb : w.heap.size + 1 + 1 ≠ wb.heap.size := by omega
  have hzl : w.heap.size + 1 + 1 ≤ wn.heap.size := by omega
  have HSK := Lib.hid (show ∀ wx, Below wn.heap.size wn wx → wx.cell? ⟨wa.heap.size, 0, none⟩ = some (.bool s) ∧ wx.cell? ⟨wa.heap.size, 1, none⟩ = some (.slice o1 k1 c1) ∧ wx.cell? ⟨wa.heap.size, 2, none⟩ = some (.slice o2 k2 c2) ∧ wx.cell? ⟨wb.heap.size, 1, none⟩ = some (.slice o3 k3 c3) ∧ wx.cell? ⟨wb.heap.size, 0, none⟩ = some (.bool t) ∧ wx.cell? ⟨wb.heap.size, 2, none⟩ = some (.slice o4 k4 c4) ∧ wa.heap.size < wx.heap.size ∧ wb.heap.size < wx.heap.size ∧ w.heap.size + 1 + 1 < wx.heap.size from fun wx h => by
    have hs := h.size
    have hx := hbn.trans (h.mono hbn.size)
    exact ⟨carry hx p0, carry hx p1, carry hx p2, carry h b1, carry h b0, carry h b2, by omega, by omega, by omega⟩)
  have HRB := Lib.hid (show ∀ wx, Below wn.heap.size wn wx → (wx.cell? ⟨w.heap.size + 1 + 1, 0, none⟩ = some (.int .i64 0) ∧ wx.cell? ⟨w.heap.size + 1 + 1, 1, none⟩ = some (.int .i64 0) ∧ wx.cell? ⟨w.heap.size + 1 + 1, 2, none⟩ = some (.bool false)) ∧ (wx.frozen? ⟨w.heap.size + 1 + 1, 0, none⟩ = false ∧ wx.frozen? ⟨w.heap.size + 1 + 1, 1, none⟩ = false ∧ wx.frozen? ⟨w.heap.size + 1 + 1, 2, none⟩ = false) ∧ w.heap.size + 1 + 1 < wx.heap.size from fun wx h => by
    have hs := h.size
    have hx := hbn.trans (h.mono hbn.size)
    exact ⟨⟨carry hx q0, carry hx q1, carry hx q2⟩, ⟨carryF hx q0 g0, carryF hx q1 g1, carryF hx q2 g2⟩, by omega⟩)
  have HN1 := Lib.hid (show ∀ wx, Below wn.heap.size wn wx → NatIs wx (.slice o1 k1 c1) A from fun wx h => hw1.below (hbn.trans (h.mono hbn.size)))
  have HD1 := Lib.hid (show ∀ wx, Below wn.heap.size wn wx → NatIs wx (.slice o2 k2 c2) D from fun wx h => hw2.below (hbn.trans (h.mono hbn.size)))
  have HN3 := Lib.hid (show ∀ wx, Below wn.heap.size wn wx → NatIs wx (.slice o3 k3 c3) B from fun wx h => hv2.below (hbn.trans (h.mono hbn.size)))
  have HD4 := Lib.hid (show ∀ wx, Below wn.heap.size wn wx → NatIs wx (.slice o4 k4 c4) D from fun wx h => hd2.below (hbn.trans (h.mono hbn.size)))
  clear q0 q1 q2 g0 g1 g2 hw1 hw2 hv2 hd2 p0 p1 p2 b0 b1 b2 hbn
  refine (round_any (!(s == t)) (.slice o1 k1 c1) (.slice o3 k3 c3) A B _ (HN1.out _ HB0.out) (HN3.out _ HB0.out) HBN.out HBD.out rfl rfl).mono ?_
  rintro r wq ⟨rm, re, ok, rfl, hR, qb⟩
  obtain ⟨⟨q0, q1, q2⟩, ⟨g0, g1, g2⟩, qz⟩ := HRB.out _ qb
  go_wp2_with fail
  refine bodyPost_ret (v := .agg #[.int .i64 rm, .int .i64 re, .bool ok]) ?_ rfl ?_
  · simp [results, Tryz.results25, go_sem, q0, q1, q2]
  · exact ⟨_, _, _, rfl, hR, HBN2.out.trans (Below.mono (Below.setCell (p := ⟨w.heap.size + 1 + 1, 2, none⟩) (Below.setCell (p := ⟨w.heap.size + 1 + 1, 1, none⟩) (Below.setCell (p := ⟨w.heap.size + 1 + 1, 0, none⟩) (Below.mono qb hzl) (Nat.le_refl _) _) (Nat.le_refl _) _) (Nat.le_refl _) _) (by omega))⟩

end Go.Proofs.YticiabgnegbbmaaGreatDoor

namespace Go.Proofs.YticiabgnegbbmaaGreatDoor
open Go.RowKit
set_option linter.unusedVariables false

theorem pow_split {a b : Nat} (h : b ≤ a) : 2 ^ a = 2 ^ (a - b) * 2 ^ b := by rw [← Nat.pow_add]; congr 1; omega

/-- between the neighbours of an odd number all is rounded alike -/
theorem RR_between {S d X Q : Nat} (hS : S % 2 = 1) (h25 : 33554432 ≤ S) (h1 : (S - 1) * 2 ^ d < X) (h2 : X < (S + 1) * 2 ^ d) : RR X Q = RR (S * 2 ^ d) Q := by
  have hD : 0 < 2 ^ d := Nat.pow_pos (by decide)
  have hlt := kk_lt (S * 2 ^ d) Q
  obtain ⟨k, hk⟩ : ∃ k, kk (S * 2 ^ d) Q = k := ⟨_, rfl⟩
  have hge := kk_ge (S * 2 ^ d) Q
  rw [hk] at hlt hge
  have hu : d + 2 ≤ Q + k := by
    by_cases h : d + 2 ≤ Q + k
    · exact h
    · exfalso
      have a1 : 2 ^ (Q + 24 + k) ≤ 2 ^ (d + 25) := Nat.pow_le_pow_right (by decide) (by omega)
      have a2 := Nat.mul_le_mul_right (2 ^ d) h25
      have a3 : (2 : Nat) ^ (d + 25) = 33554432 * 2 ^ d := by rw [Nat.pow_add, Nat.mul_comm]
      omega
  obtain ⟨u, hu'⟩ : ∃ u, Q + k = d + u + 2 := ⟨Q + k - d - 2, by omega⟩
  have e24 : 2 ^ (Q + 24 + k) = 2 ^ (u + 26) * 2 ^ d := by rw [← Nat.pow_add]; congr 1; omega
  have hS24 : S < 2 ^ (u + 26) := by
    rw [e24] at hlt
    exact Nat.lt_of_mul_lt_mul_right hlt
  have x24 : X < 2 ^ (Q + 24 + k) := by
    rw [e24]
    exact Nat.lt_of_lt_of_le h2 (Nat.mul_le_mul_right _ hS24)
  have hkX : kk X Q = k := by
    apply kk_unique x24
    by_cases h0 : k = 0
    · exact .inl h0
    · right
      have hg := hge (by omega)
      have e23 : 2 ^ (Q + 23 + k) = 2 ^ (u + 25) * 2 ^ d := by rw [← Nat.pow_add]; congr 1; omega
      rw [e23] at hg ⊢
      have hg2 : 2 ^ (u + 25) ≤ S := Nat.le_of_mul_le_mul_right hg hD
      have hev : 2 ^ (u + 25) = 2 * 2 ^ (u + 24) := by rw [Nat.pow_succ]; omega
      have hg3 : 2 ^ (u + 25) ≤ S - 1 := by omega
      exact Nat.le_of_lt (Nat.lt_of_le_of_lt (Nat.mul_le_mul_right _ hg3) h1)
  unfold RR
  rw [hkX, hk]
  congr 1
  rw [hu']
  have es : 2 ^ (d + u + 2) = 4 * 2 ^ u * 2 ^ d := by rw [show d + u + 2 = 2 + u + d from by omega, Nat.pow_add, Nat.pow_add]
  have eh : 2 ^ (d + u + 2 - 1) = 2 * 2 ^ u * 2 ^ d := by rw [show d + u + 2 - 1 = 1 + u + d from by omega, Nat.pow_add, Nat.pow_add]
  have hU : 0 < 2 ^ u := Nat.pow_pos (by decide)
  obtain ⟨a, r, hr, hSr⟩ : ∃ a r, r < 4 * 2 ^ u ∧ S = a * (4 * 2 ^ u) + r := ⟨S / (4 * 2 ^ u), S % (4 * 2 ^ u), Nat.mod_lt _ (by omega), by rw [Nat.mul_comm]; exact (Nat.div_add_mod _ _).symm⟩
  have hr1 : r % 2 = 1 := by
    have : a * (4 * 2 ^ u) = 2 * (a * (2 * 2 ^ u)) := by rw [Nat.mul_left_comm 2 a]; congr 1; omega
    omega
  have m1 : S * 2 ^ d = a * (4 * 2 ^ u * 2 ^ d) + r * 2 ^ d := by rw [hSr, Nat.add_mul, Nat.mul_assoc]
  have m2 : (S - 1) * 2 ^ d = a * (4 * 2 ^ u * 2 ^ d) + (r - 1) * 2 ^ d := by rw [show S - 1 = a * (4 * 2 ^ u) + (r - 1) from by omega, Nat.add_mul, Nat.mul_assoc]
  have m3 : (S + 1) * 2 ^ d = a * (4 * 2 ^ u * 2 ^ d) + (r + 1) * 2 ^ d := by rw [show S + 1 = a * (4 * 2 ^ u) + (r + 1) from by omega, Nat.add_mul, Nat.mul_assoc]
  have m4 : (r + 1) * 2 ^ d ≤ 4 * 2 ^ u * 2 ^ d := Nat.mul_le_mul_right _ (by omega)
  have m5 : r * 2 ^ d < 4 * 2 ^ u * 2 ^ d := Nat.mul_lt_mul_of_pos_right hr hD
  rw [m2] at h1
  rw [m3] at h2
  obtain ⟨y, hy⟩ : ∃ y, X = a * (4 * 2 ^ u * 2 ^ d) + y := ⟨X - a * (4 * 2 ^ u * 2 ^ d), by omega⟩
  have key : ∀ z, z < 4 * 2 ^ u * 2 ^ d → (2 * 2 ^ u * 2 ^ d < z ↔ 2 * 2 ^ u < r) → z ≠ 2 * 2 ^ u * 2 ^ d → rhe (a * (4 * 2 ^ u * 2 ^ d) + z) (d + u + 2) = a + (if 2 * 2 ^ u < r then 1 else 0) := by
    intro z hz hzr hne
    unfold rhe
    rw [if_neg (by omega), es, eh]
    have d1 : (a * (4 * 2 ^ u * 2 ^ d) + z) / (4 * 2 ^ u * 2 ^ d) = a := by
      rw [Nat.mul_comm a, Nat.mul_add_div (by omega), Nat.div_eq_of_lt hz, Nat.add_zero]
    have d2 : (a * (4 * 2 ^ u * 2 ^ d) + z) % (4 * 2 ^ u * 2 ^ d) = z := by
      rw [Nat.mul_comm a, Nat.mul_add_mod, Nat.mod_eq_of_lt hz]
    rw [d1, d2]
    by_cases hq : 2 * 2 ^ u < r
    · rw [if_pos hq, if_pos (.inl (hzr.2 hq))]
    · rw [if_neg hq, if_neg]
      rintro (g | g)
      · exact hq (hzr.1 g)
      · exact hne g.1
  rw [hy, m1, key y (by omega) ?_ ?_, key (r * 2 ^ d) m5 ?_ ?_]
  · constructor
    · intro g; exact Nat.lt_of_mul_lt_mul_right g
    · intro g; exact Nat.mul_lt_mul_of_pos_right g hD
  · intro g
    have := Nat.eq_of_mul_eq_mul_right hD g
    omega
  · constructor
    · intro g
      by_cases hq : 2 * 2 ^ u < r
      · exact hq
      · have := Nat.mul_le_mul_right (2 ^ d) (show r + 1 ≤ 2 * 2 ^ u by omega)
        omega
    · intro g
      have := Nat.mul_le_mul_right (2 ^ d) (show 2 * 2 ^ u ≤ r - 1 by omega)
      omega
  · intro g
    rcases Nat.lt_or_ge (2 * 2 ^ u) r with hq | hq
    · have := Nat.mul_le_mul_right (2 ^ d) (show 2 * 2 ^ u ≤ r - 1 by omega)
      omega
    · have := Nat.mul_le_mul_right (2 ^ d) (show r + 1 ≤ 2 * 2 ^ u by omega)
      omega

/-- the bits of a quotient, and whether there is more -/
def stq (P Q j : Nat) : Nat := 2 * (P * 2 ^ j / Q) + (if P * 2 ^ j % Q = 0 then 0 else 1)

theorem stq_lift {P Q j : Nat} (hQ : 0 < Q) (h : 33554432 ≤ stq P Q j) (d K : Nat) : RR (stq P Q (j + d)) K = RR (stq P Q j * 2 ^ d) K := by
  have hD : 0 < 2 ^ d := Nat.pow_pos (by decide)
  have hdm := Nat.div_add_mod (P * 2 ^ j) Q
  have hm := Nat.mod_lt (P * 2 ^ j) hQ
  have hP : P * 2 ^ (j + d) = P * 2 ^ j * 2 ^ d := by rw [Nat.pow_add, Nat.mul_assoc]
  unfold stq at h ⊢
  rw [hP]
  generalize P * 2 ^ j = n at *
  generalize hf : n / Q = f at *
  generalize hr : n % Q = r at *
  by_cases h0 : r = 0
  · have e : n * 2 ^ d = Q * (f * 2 ^ d) := by rw [← hdm, h0, Nat.add_zero, Nat.mul_assoc]
    rw [e, Nat.mul_div_cancel_left _ hQ, Nat.mul_mod_right, if_pos rfl, if_pos h0, Nat.add_zero, Nat.add_zero, Nat.mul_assoc]
  · rw [if_neg h0]
    have b1 : f * 2 ^ d * Q < n * 2 ^ d := by
      have : n * 2 ^ d = f * 2 ^ d * Q + r * 2 ^ d := by rw [← hdm, Nat.add_mul]; congr 1; rw [Nat.mul_comm Q f, Nat.mul_right_comm]
      have := Nat.mul_pos (show 0 < r by omega) hD
      omega
    have b2 : n * 2 ^ d < (f + 1) * 2 ^ d * Q := by
      have : (f + 1) * 2 ^ d * Q = (Q * f + Q) * 2 ^ d := by rw [Nat.mul_right_comm, Nat.add_mul, Nat.one_mul, Nat.mul_comm f Q]
      rw [this]
      exact Nat.mul_lt_mul_of_pos_right (by omega) hD
    have f1 : f * 2 ^ d ≤ n * 2 ^ d / Q := by rw [Nat.le_div_iff_mul_le hQ]; omega
    have f2 : n * 2 ^ d / Q < (f + 1) * 2 ^ d := by rw [Nat.div_lt_iff_lt_mul hQ]; omega
    have hdm2 := Nat.div_add_mod (n * 2 ^ d) Q
    refine RR_between (by omega) (by rw [if_neg h0] at h; exact h) ?_ ?_
    · have e : (2 * f + 1 - 1) * 2 ^ d = 2 * (f * 2 ^ d) := by rw [show 2 * f + 1 - 1 = 2 * f from rfl, Nat.mul_assoc]
      rw [e]
      by_cases g : n * 2 ^ d / Q = f * 2 ^ d
      · have hz : n * 2 ^ d % Q ≠ 0 := by
          intro hz
          rw [g, hz, Nat.mul_comm] at hdm2
          omega
        rw [if_neg hz]
        omega
      · omega
    · have e : (2 * f + 1 + 1) * 2 ^ d = 2 * ((f + 1) * 2 ^ d) := by rw [show 2 * f + 1 + 1 = 2 * (f + 1) from by omega, Nat.mul_assoc]
      rw [e]
      split <;> omega

theorem stq_mono {P P' Q : Nat} (hQ : 0 < Q) (h : P ≤ P') (j : Nat) : stq P Q j ≤ stq P' Q j := by
  have hn : P * 2 ^ j ≤ P' * 2 ^ j := Nat.mul_le_mul_right _ h
  unfold stq
  generalize P * 2 ^ j = n at *
  generalize P' * 2 ^ j = n' at *
  have h1 := Nat.div_le_div_right (c := Q) hn
  have d1 := Nat.div_add_mod n Q
  have d2 := Nat.div_add_mod n' Q
  by_cases he : n / Q = n' / Q
  · rw [he] at d1 ⊢
    split <;> split <;> omega
  · split <;> split <;> omega

/-- the whole root -/
def sqr : Nat → Nat
  | 0 => 0
  | n + 1 => if (sqr n + 1) * (sqr n + 1) ≤ n + 1 then sqr n + 1 else sqr n

theorem sqr_spec (n : Nat) : sqr n * sqr n ≤ n ∧ n < (sqr n + 1) * (sqr n + 1) := by
  induction n with
  | zero => decide
  | succ n ih =>
    unfold sqr
    split
    · rename_i h
      refine ⟨h, ?_⟩
      have e : (sqr n + 1 + 1) * (sqr n + 1 + 1) = (sqr n + 1) * (sqr n + 1) + 2 * (sqr n + 1) + 1 := by
        generalize sqr n + 1 = x
        rw [Nat.add_mul, Nat.mul_add]; omega
      omega
    · exact ⟨by omega, by omega⟩

theorem sqr_unique {n f : Nat} (h1 : f * f ≤ n) (h2 : n < (f + 1) * (f + 1)) : sqr n = f := by
  obtain ⟨a, b⟩ := sqr_spec n
  rcases Nat.lt_trichotomy (sqr n) f with h | h | h
  · have := Nat.mul_le_mul (show sqr n + 1 ≤ f by omega) (show sqr n + 1 ≤ f by omega)
    omega
  · exact h
  · have := Nat.mul_le_mul (show f + 1 ≤ sqr n by omega) (show f + 1 ≤ sqr n by omega)
    omega

theorem sqr_lt {n f : Nat} (h : n < f * f) : sqr n < f := by
  obtain ⟨a, b⟩ := sqr_spec n
  rcases Nat.lt_or_ge (sqr n) f with g | g
  · exact g
  · have := Nat.mul_le_mul g g
    omega

theorem sqr_ge {n f : Nat} (h : f * f ≤ n) : f ≤ sqr n := by
  obtain ⟨a, b⟩ := sqr_spec n
  rcases Nat.lt_or_ge (sqr n) f with g | g
  · have := Nat.mul_le_mul (show sqr n + 1 ≤ f from g) (show sqr n + 1 ≤ f from g)
    omega
  · exact g

/-- the bits of a root, and whether there is more -/
def sts (P j : Nat) : Nat := 2 * sqr (P * 4 ^ j) + (if sqr (P * 4 ^ j) * sqr (P * 4 ^ j) = P * 4 ^ j then 0 else 1)

theorem sts_lift {P j : Nat} (h : 33554432 ≤ sts P j) (d K : Nat) : RR (sts P (j + d)) K = RR (sts P j * 2 ^ d) K := by
  have hD : 0 < 2 ^ d := Nat.pow_pos (by decide)
  have hP : P * 4 ^ (j + d) = P * 4 ^ j * (2 ^ d * 2 ^ d) := by
    rw [Nat.pow_add, Nat.mul_assoc]
    congr 2
    rw [← Nat.mul_pow]
  unfold sts at h ⊢
  rw [hP]
  generalize P * 4 ^ j = n at *
  obtain ⟨s1, s2⟩ := sqr_spec n
  generalize sqr n = f at *
  have sw : ∀ x : Nat, x * 2 ^ d * (x * 2 ^ d) = x * x * (2 ^ d * 2 ^ d) := fun x => by rw [Nat.mul_mul_mul_comm]
  have hDD : 0 < 2 ^ d * 2 ^ d := Nat.mul_pos hD hD
  by_cases h0 : f * f = n
  · have e : sqr (n * (2 ^ d * 2 ^ d)) = f * 2 ^ d := by
      refine sqr_unique (by rw [sw, h0]; exact Nat.le_refl _) ?_
      rw [← h0, ← sw]
      exact Nat.mul_self_lt_mul_self (Nat.lt_succ_self _)
    rw [e, sw, h0, if_pos rfl, if_pos rfl, Nat.add_zero, Nat.add_zero, Nat.mul_assoc]
  · rw [if_neg h0]
    have b1 : f * 2 ^ d * (f * 2 ^ d) < n * (2 ^ d * 2 ^ d) := by rw [sw]; exact Nat.mul_lt_mul_of_pos_right (by omega) hDD
    have b2 : n * (2 ^ d * 2 ^ d) < (f + 1) * 2 ^ d * ((f + 1) * 2 ^ d) := by rw [sw]; exact Nat.mul_lt_mul_of_pos_right s2 hDD
    have f1 : f * 2 ^ d ≤ sqr (n * (2 ^ d * 2 ^ d)) := sqr_ge (Nat.le_of_lt b1)
    have f2 : sqr (n * (2 ^ d * 2 ^ d)) < (f + 1) * 2 ^ d := sqr_lt b2
    refine RR_between (S := 2 * f + 1) (by omega) (by rw [if_neg h0] at h; exact h) ?_ ?_
    · have e : (2 * f + 1 - 1) * 2 ^ d = 2 * (f * 2 ^ d) := by rw [show 2 * f + 1 - 1 = 2 * f from rfl, Nat.mul_assoc]
      rw [e]
      by_cases g : sqr (n * (2 ^ d * 2 ^ d)) = f * 2 ^ d
      · rw [g, if_neg (by omega)]
        omega
      · omega
    · have e : (2 * f + 1 + 1) * 2 ^ d = 2 * ((f + 1) * 2 ^ d) := by rw [show 2 * f + 1 + 1 = 2 * (f + 1) from by omega, Nat.mul_assoc]
      rw [e]
      split <;> omega

theorem sts_mono {P P' : Nat} (h : P ≤ P') (j : Nat) : sts P j ≤ sts P' j := by
  have hn : P * 4 ^ j ≤ P' * 4 ^ j := Nat.mul_le_mul_right _ h
  unfold sts
  generalize P * 4 ^ j = n at *
  generalize P' * 4 ^ j = n' at *
  obtain ⟨a1, a2⟩ := sqr_spec n
  obtain ⟨b1, b2⟩ := sqr_spec n'
  have h1 : sqr n ≤ sqr n' := sqr_ge (by omega)
  by_cases he : sqr n = sqr n'
  · rw [he] at a1 a2 ⊢
    split <;> split <;> omega
  · split <;> split <;> omega

/-- the index of a quotient, out of the value of the dividend -/
def DI (U k f : Int) : Int := if U < 0 then -(RR (stq (-U).toNat k.toNat 212) (213 + f).toNat : Int) else (RR (stq U.toNat k.toNat 212) (213 + f).toNat : Int)

theorem DI_neg (U k f : Int) : DI (-U) k f = -DI U k f := by
  unfold DI
  rcases Int.lt_trichotomy U 0 with h | h | h
  · rw [if_neg (by omega), if_pos h, Int.neg_neg]
  · subst h
    have e : stq (0 : Int).toNat k.toNat 212 = 0 := by simp [stq]
    rw [Int.neg_zero, if_neg (by omega), e, RR_zero]
    rfl
  · rw [if_pos (by omega), if_neg (by omega), Int.neg_neg]

theorem DI_mono {U V : Int} (h : U ≤ V) {k f : Int} (hk : 0 < k) : DI U k f ≤ DI V k f := by
  have hQ : 0 < k.toNat := by omega
  unfold DI
  split
  · split
    · have := RR_mono (stq_mono hQ (show (-V).toNat ≤ (-U).toNat by omega) 212) (213 + f).toNat
      omega
    · omega
  · rw [if_neg (by omega)]
    have := RR_mono (stq_mono hQ (show U.toNat ≤ V.toNat by omega) 212) (213 + f).toNat
    omega

theorem quM_nat (A B s : Nat) (hs : quS (A : Int) = s) (hB : 0 < B) : quM (A : Int) (B : Int) = (stq A B s : Int) ∧ quM (-(A : Int)) (B : Int) = (if A = 0 then (1 : Int) else -1) * (stq A B s : Int) := by
  have e1 : quP (A : Int) = ((A * 2 ^ s : Nat) : Int) := by
    unfold quP
    rw [hs, Int.toNat_natCast]
    unfold ab
    rw [if_neg (by omega)]
    push_cast
    rfl
  have e2 : quP (-(A : Int)) = ((A * 2 ^ s : Nat) : Int) := by
    rw [← e1]
    unfold quP quS
    have : ab (-(A : Int)) = ab (A : Int) := by unfold ab; split <;> split <;> omega
    rw [this]
  have e3 : ab (B : Int) = (B : Int) := by unfold ab; rw [if_neg (by omega)]
  have e4 : stk (((A * 2 ^ s : Nat) : Int).tdiv (B : Int)) (((A * 2 ^ s : Nat) : Int).tmod (B : Int) != 0) = (stq A B s : Int) := by
    rw [← Int.ofNat_tdiv, ← Int.ofNat_tmod]
    unfold stk stq
    by_cases h : A * 2 ^ s % B = 0
    · rw [h, if_pos rfl, if_neg (by simp)]
      push_cast
      omega
    · rw [if_neg h, if_pos (by
        rw [bne_iff_ne]
        exact fun h' => h (Int.ofNat.inj h'))]
      push_cast
      omega
  refine ⟨?_, ?_⟩
  · unfold quM
    rw [e1, e3, e4]
    unfold qsg
    rw [if_pos]
    have h1 : decide ((A : Int) < 0) = false := by simp
    have h2 : decide ((B : Int) < 0) = false := by simp
    rw [h1, h2]
  · unfold quM
    rw [e2, e3, e4]
    unfold qsg
    have h2 : decide ((B : Int) < 0) = false := by simp
    rw [h2]
    by_cases h : A = 0
    · subst h
      rw [if_pos (by simp), if_pos rfl, Int.one_mul]
    · rw [if_neg, if_neg h]
      · omega
      · have h1 : decide (-(A : Int) < 0) = true := by simp; omega
        rw [h1]
        simp

theorem div_pos_val {A B : Nat} {e f : Int} (ha : 0 < A) (ha2 : A < 16777216) (hb : 0 < B) (hb2 : B < 16777216) (e1 : -150 ≤ e) (f1 : -150 ≤ f) :
    rI (stq A B (quS (A : Int)).toNat : Int) (quE (A : Int) e f) = (RR (stq (UU (A : Int) e).toNat B 212) (213 + f).toNat : Int) := by
  obtain ⟨s1, s2, s3, s4⟩ := quS_bd (A : Int) (by omega) (by omega)
  obtain ⟨k1, k2, k3, k4⟩ := bl_bd (A : Int) (by omega) (by omega)
  have hab : ab (A : Int) = (A : Int) := by unfold ab; rw [if_neg (by omega)]
  obtain ⟨s, hs⟩ : ∃ s : Nat, quS (A : Int) = (s : Int) := ⟨(quS (A : Int)).toNat, by omega⟩
  have hq := quM_bd (A : Int) (B : Int) (by omega) (by omega) (by omega) (by omega) (by omega)
  rw [(quM_nat A B s hs hb).1] at hq
  rw [hs, Int.toNat_natCast]
  have hsL : (s : Int) = 62 - (Lib.bitLen (A : Int).toNat : Int) := by rw [← hs]; unfold quS; rw [hab]
  have big : 33554432 ≤ stq A B s := by
    have h61 : 2 ^ 61 ≤ A * 2 ^ s := by
      have h1 : 2 ^ (Lib.bitLen (A : Int).toNat - 1) ≤ A := by exact_mod_cast k3
      have h2 := Nat.mul_le_mul_right (2 ^ s) h1
      rw [← Nat.pow_add, show Lib.bitLen (A : Int).toNat - 1 + s = 61 from by omega] at h2
      exact h2
    have h37 : 2 ^ 37 ≤ A * 2 ^ s / B := by
      rw [Nat.le_div_iff_mul_le hb]
      have : 2 ^ 37 * B ≤ 2 ^ 37 * 2 ^ 24 := Nat.mul_le_mul_left _ (by omega)
      rw [← Nat.pow_add] at this
      omega
    unfold stq
    omega
  have hE : quE (A : Int) e f = e - (s : Int) - f - 1 := by unfold quE; rw [hs]
  obtain ⟨d, hd⟩ : ∃ d : Nat, (d : Int) = e - s + 362 := ⟨(e - s + 362).toNat, by omega⟩
  rw [rI_val _ _ (213 + f).toNat (by omega) (by omega) (by rw [hE]; omega), hE, show (e - (s : Int) - f - 1 + 150 + ((213 + f).toNat : Int)).toNat = d from by omega]
  have hU : (UU (A : Int) e).toNat = A * 2 ^ (e + 150).toNat := by
    unfold UU
    have : (A : Int) * 2 ^ (e + 150).toNat = ((A * 2 ^ (e + 150).toNat : Nat) : Int) := by push_cast; rfl
    rw [this, Int.toNat_natCast]
  have hst : stq (UU (A : Int) e).toNat B 212 = stq A B (s + d) := by
    rw [hU]
    unfold stq
    rw [Nat.mul_assoc, ← Nat.pow_add, show (e + 150).toNat + 212 = s + d from by omega]
  rw [hst, stq_lift hb big]
  have hc : (stq A B s : Int) * 2 ^ d = ((stq A B s * 2 ^ d : Nat) : Int) := by push_cast; rfl
  rw [hc]
  unfold RI
  rw [if_neg (by omega), Int.toNat_natCast]

theorem div_val {m e k f : Int} (h1 : vr m e = true) (h2 : vr k f = true) (hk : 0 < k) : rI (quM m k) (quE m e f) = DI (UU m e) k f := by
  obtain ⟨m1, m2, e1, e2⟩ := vr_bd h1
  obtain ⟨k1, k2, f1, f2⟩ := vr_bd h2
  obtain ⟨B, rfl⟩ := Int.eq_ofNat_of_zero_le (Int.le_of_lt hk)
  rcases Int.lt_trichotomy m 0 with h | h | h
  · obtain ⟨A, hA⟩ := Int.eq_ofNat_of_zero_le (show 0 ≤ -m by omega)
    obtain rfl : m = -(A : Int) := by omega
    obtain ⟨s1, s2, _, _⟩ := quS_bd (A : Int) (by omega) (by omega)
    have hq := (quM_nat A B (quS (A : Int)).toNat (by omega) (by omega)).2
    have hE : quE (-(A : Int)) e f = quE (A : Int) e f := by
      unfold quE quS
      have : ab (-(A : Int)) = ab (A : Int) := by unfold ab; split <;> split <;> omega
      rw [this]
    have hx := div_pos_val (A := A) (B := B) (e := e) (f := f) (by omega) (by omega) (by omega) (by omega) e1 f1
    have hqb := quM_bd (A : Int) (B : Int) (by omega) (by omega) (by omega) (by omega) (by omega)
    rw [(quM_nat A B (quS (A : Int)).toNat (by omega) (by omega)).1] at hqb
    rw [hq, if_neg (by omega), hE, Int.neg_one_mul, UU_neg, DI_neg]
    have hn : rI (-(stq A B (quS (A : Int)).toNat : Int)) (quE (A : Int) e f) = -rI (stq A B (quS (A : Int)).toNat : Int) (quE (A : Int) e f) := by
      have hEb : -1000 ≤ quE (A : Int) e f := by unfold quE; omega
      rw [rI_val _ _ 1000 (by omega) (by omega) (by omega), rI_val _ _ 1000 (by omega) (by omega) (by omega), Int.neg_mul, RI_neg]
    rw [hn, hx]
    unfold DI
    rw [if_neg (by
      have := Int.mul_nonneg (a := (A : Int)) (b := 2 ^ (e + 150).toNat) (by omega) (Int.le_of_lt (pow_pos _))
      unfold UU
      omega), Int.toNat_natCast]
  · subst h
    have h0 : quM 0 (B : Int) = 0 := by
      have := (quM_nat 0 B 62 rfl (by omega)).1
      rw [show ((0 : Nat) : Int) = 0 from rfl] at this
      rw [this]
      simp [stq]
    have e0 : stq (0 : Int).toNat (B : Int).toNat 212 = 0 := by simp [stq]
    rw [h0, UU_zero]
    unfold DI
    rw [if_neg (by omega), e0, RR_zero]
    unfold rI
    rw [if_pos rfl]
    rfl
  · obtain ⟨A, rfl⟩ := Int.eq_ofNat_of_zero_le (Int.le_of_lt h)
    obtain ⟨s1, s2, _, _⟩ := quS_bd (A : Int) (by omega) (by omega)
    have hq := (quM_nat A B (quS (A : Int)).toNat (by omega) (by omega)).1
    rw [hq, div_pos_val (by omega) (by omega) (by omega) (by omega) e1 f1]
    unfold DI
    rw [if_neg (by
      have := Int.mul_nonneg (a := (A : Int)) (b := 2 ^ (e + 150).toNat) (by omega) (Int.le_of_lt (pow_pos _))
      unfold UU
      omega), Int.toNat_natCast]

end Go.Proofs.YticiabgnegbbmaaGreatDoor

namespace Go.Proofs.YticiabgnegbbmaaGreatDoor
open Go.RowKit
set_option linter.unusedVariables false

theorem st_le {n Q E : Nat} (hQ : 0 < Q) : (2 * (n / Q) + (if n % Q = 0 then 0 else 1) ≤ 2 * E ↔ n ≤ E * Q) ∧ (2 * (n / Q) + (if n % Q = 0 then 0 else 1) = 2 * E ↔ n = E * Q) := by
  have hd := Nat.div_add_mod n Q
  have hm := Nat.mod_lt n hQ
  generalize n / Q = f at *
  generalize n % Q = r at *
  rw [Nat.mul_comm] at hd
  rcases Nat.lt_trichotomy f E with h | h | h
  · have h1 := Nat.mul_le_mul_right Q (show f + 1 ≤ E from h)
    rw [Nat.add_mul, Nat.one_mul] at h1
    generalize f * Q = X at *
    generalize E * Q = Y at *
    split <;> exact ⟨by omega, by omega⟩
  · subst h
    generalize f * Q = X at *
    split <;> exact ⟨by omega, by omega⟩
  · have h1 := Nat.mul_le_mul_right Q (show E + 1 ≤ f from h)
    rw [Nat.add_mul, Nat.one_mul] at h1
    generalize f * Q = X at *
    generalize E * Q = Y at *
    split <;> exact ⟨by omega, by omega⟩

/-- the quotient's bits against a middle -/
theorem q_mid {A K H F : Nat} (hK : 0 < K) (N : Nat) (hN : N = 2 * (A * 2 ^ 212 / K) + (if A * 2 ^ 212 % K = 0 then 0 else 1)) :
    (A * 2 ^ 151 ≤ H * (K * 2 ^ F) ↔ 2 * N ≤ H * 2 ^ (F + 63)) ∧ (H * (K * 2 ^ F) = A * 2 ^ 151 ↔ 2 * N = H * 2 ^ (F + 63)) := by
  have h := st_le (n := A * 2 ^ 212) (Q := K) (E := H * 2 ^ (F + 61)) hK
  rw [← hN] at h
  have e1 : A * 2 ^ 212 = A * 2 ^ 151 * 2 ^ 61 := by rw [Nat.mul_assoc, ← Nat.pow_add]
  have e2 : H * 2 ^ (F + 61) * K = H * (K * 2 ^ F) * 2 ^ 61 := by
    rw [Nat.pow_add]
    simp only [Nat.mul_assoc, Nat.mul_comm, Nat.mul_left_comm]
  have e3 : H * 2 ^ (F + 63) = 2 * (2 * (H * 2 ^ (F + 61))) := by
    rw [show F + 63 = (F + 61) + 2 from rfl, Nat.pow_add 2 (F + 61) 2]
    generalize 2 ^ (F + 61) = Z
    rw [← Nat.mul_assoc]
    omega
  rw [e1, e2] at h
  rw [e3]
  clear e1 e2 e3 hN
  obtain ⟨P, hP⟩ : ∃ P, P = 2 ^ 61 := ⟨_, rfl⟩
  have hp : 0 < P := by rw [hP]; exact Nat.pow_pos (by decide)
  rw [← hP] at h
  clear hP
  generalize H * 2 ^ (F + 61) = Z at *
  obtain ⟨X, hX⟩ : ∃ X, X = A * 2 ^ 151 := ⟨_, rfl⟩
  rw [← hX] at h ⊢
  clear hX
  generalize H * (K * 2 ^ F) = Y at *
  have g1 : X * P ≤ Y * P ↔ X ≤ Y := ⟨fun g => Nat.le_of_mul_le_mul_right g hp, fun g => Nat.mul_le_mul_right P g⟩
  have g2 : X * P = Y * P ↔ X = Y := ⟨fun g => Nat.eq_of_mul_eq_mul_right hp g, fun g => by rw [g]⟩
  rw [g1, g2] at h
  clear g1 g2
  exact ⟨by omega, by omega⟩

theorem ab_abs (x : Int) : ab x = (x.natAbs : Int) := by unfold ab; split <;> omega
theorem hf_nn {i : Int} (h : 0 ≤ i) : 0 ≤ Hf i := by
  have hm : 0 ≤ aM i := by unfold aM sx ab; (repeat' split) <;> omega
  unfold Hf
  exact Int.mul_nonneg (by omega) (Int.le_of_lt (Int.pow_pos (by decide)))
theorem sg_mul (a b : Int) (s t : Bool) (hs : s = true ↔ a < 0) (ht : t = true ↔ b < 0) : ((s != t) = true ∧ a * b ≤ 0) ∨ ((s != t) = false ∧ 0 ≤ a * b) := by
  have a0 : s = false → 0 ≤ a := fun h => by
    by_cases hc : a < 0
    · rw [hs.2 hc] at h; cases h
    · omega
  have b0 : t = false → 0 ≤ b := fun h => by
    by_cases hc : b < 0
    · rw [ht.2 hc] at h; cases h
    · omega
  have a1 : s = true → 0 ≤ -a := fun h => by have := hs.1 h; omega
  have b1 : t = true → 0 ≤ -b := fun h => by have := ht.1 h; omega
  clear hs ht
  cases s <;> cases t
  · right
    exact ⟨rfl, Int.mul_nonneg (a0 rfl) (b0 rfl)⟩
  · left
    refine ⟨rfl, ?_⟩
    have h := Int.mul_nonneg (a0 rfl) (b1 rfl)
    rw [Int.mul_neg] at h
    omega
  · left
    refine ⟨rfl, ?_⟩
    have h := Int.mul_nonneg (a1 rfl) (b0 rfl)
    rw [Int.neg_mul] at h
    omega
  · right
    refine ⟨rfl, ?_⟩
    have h := Int.mul_nonneg (a1 rfl) (b1 rfl)
    rw [Int.neg_mul_neg] at h
    exact h

/-- over 2^300 -/
theorem hs_300 {num : Int} {n : Nat} (h : num = (n : Int)) : ∀ i, 0 ≤ i → (num * 2 ^ 151 ≤ Hf i * (2 ^ 150 * 2 ^ 150) ↔ 2 * (n : Int) ≤ Hf i * 2 ^ 150) ∧ (Hf i * (2 ^ 150 * 2 ^ 150) = num * 2 ^ 151 ↔ 2 * (n : Int) = Hf i * 2 ^ 150) := by
  intro i _
  subst h
  have hp : (0 : Int) < 2 ^ 150 := Int.pow_pos (by decide)
  have e : (2 : Int) ^ 151 = 2 ^ 150 * 2 := Int.pow_succ _ _
  rw [e]
  obtain ⟨P, hP⟩ : ∃ P, P = (2 : Int) ^ 150 := ⟨_, rfl⟩
  rw [← hP] at hp ⊢
  clear hP e
  generalize Hf i = H
  have e2 : (n : Int) * (P * 2) = 2 * (n : Int) * P := by rw [Int.mul_comm P 2, ← Int.mul_assoc, Int.mul_comm (n : Int) 2]
  rw [e2, ← Int.mul_assoc]
  refine ⟨⟨fun h => Int.le_of_mul_le_mul_right h hp, fun h => Int.mul_le_mul_of_nonneg_right h (Int.le_of_lt hp)⟩, ⟨fun h => (Int.eq_of_mul_eq_mul_right (Int.ne_of_gt hp) h).symm, fun h => by rw [h]⟩⟩

theorem rmul_any (m e k f : Int) (w : World) (h1 : vr m e = true) (h2 : vr k f = true) :
    Calls Tryz.prog 42 #[realV m e, realV k f] w fun r w' => r = .returned (rrV (RI (UU m e * UU k f) 150)) ∧ Below w.heap.size w w' := by
  refine (rmul_w m e k f w h1 h2).mono ?_
  rintro r w' ⟨rm, re, ok, rfl, hR, hb⟩
  obtain ⟨rfl, rfl, rfl⟩ := rnd_is (N := UU m e * UU k f) (q := 150) hR (Int.mul_pos p150 p150)
    (sg_mul _ _ _ _ (by rw [decide_eq_true_eq]; exact uu_sg m e) (by rw [decide_eq_true_eq]; exact uu_sg k f))
    (hs_300 (by rw [ab_abs, ab_abs, Int.natAbs_mul, Int.natCast_mul]))
  exact ⟨rfl, hb⟩

theorem q_midI {A K F : Nat} (hK : 0 < K) (i : Int) (hi : 0 ≤ i) :
    ((A : Int) * 2 ^ 151 ≤ Hf i * ((K : Int) * 2 ^ F) ↔ 2 * ((stq A K 212 : Nat) : Int) ≤ Hf i * 2 ^ (F + 63)) ∧ (Hf i * ((K : Int) * 2 ^ F) = (A : Int) * 2 ^ 151 ↔ 2 * ((stq A K 212 : Nat) : Int) = Hf i * 2 ^ (F + 63)) := by
  obtain ⟨H, hH⟩ := Int.eq_ofNat_of_zero_le (hf_nn hi)
  rw [hH]
  have h := q_mid (A := A) (K := K) (H := H) (F := F) hK (stq A K 212) rfl
  have c1 : (A : Int) * 2 ^ 151 = ((A * 2 ^ 151 : Nat) : Int) := by rw [Int.natCast_mul, Int.natCast_pow]; rfl
  have c2 : (H : Int) * ((K : Int) * 2 ^ F) = ((H * (K * 2 ^ F) : Nat) : Int) := by rw [Int.natCast_mul, Int.natCast_mul, Int.natCast_pow]; rfl
  have c3 : (H : Int) * 2 ^ (F + 63) = ((H * 2 ^ (F + 63) : Nat) : Int) := by rw [Int.natCast_mul, Int.natCast_pow]; rfl
  rw [c1, c2, c3]
  clear c1 c2 c3
  generalize stq A K 212 = N at *
  obtain ⟨X, hX⟩ : ∃ X, X = A * 2 ^ 151 := ⟨_, rfl⟩
  rw [← hX] at h ⊢
  clear hX
  generalize H * (K * 2 ^ F) = Y at *
  generalize H * 2 ^ (F + 63) = Z at *
  exact ⟨by omega, by omega⟩

theorem qsg_neg (m k q : Int) (hk : k ≠ 0) (h0 : m = 0 → q = 0) : qsg m (-k) q = - qsg m k q := by
  unfold qsg
  by_cases hm : m = 0
  · rw [h0 hm]; split <;> split <;> rfl
  · have : decide (-k < 0) = !decide (k < 0) := by
      by_cases h : k < 0
      · simp [h]; omega
      · simp [h]; omega
    rw [this]
    cases decide (m < 0) <;> cases decide (k < 0) <;> simp

theorem quM_neg (m k : Int) (hk : k ≠ 0) : quM m (-k) = - quM m k := by
  unfold quM
  have : ab (-k) = ab k := by rw [ab_abs, ab_abs, Int.natAbs_neg]
  rw [this]
  refine qsg_neg _ _ _ hk fun h => ?_
  have : quP m = 0 := by unfold quP; rw [h]; simp [ab]
  rw [this]
  simp [stk]

/-- the index of a quotient at any divisor -/
theorem div_is {m e k f : Int} (h1 : vr m e = true) (h2 : vr k f = true) (k0 : k ≠ 0) :
    rI (quM m k) (quE m e f) = RI (if decide (m < 0) = decide (k < 0) then ((stq (UU m e).natAbs k.natAbs 212 : Nat) : Int) else -((stq (UU m e).natAbs k.natAbs 212 : Nat) : Int)) ((f + 150).toNat + 63) := by
  obtain ⟨m1, m2, e1, e2⟩ := vr_bd h1
  obtain ⟨k1, k2, f1, f2⟩ := vr_bd h2
  have hq : (213 + f).toNat = (f + 150).toNat + 63 := by omega
  have us := uu_sg m e
  have pos : ∀ k : Int, 0 < k → vr k f = true → rI (quM m k) (quE m e f) = RI (if decide (m < 0) = false then ((stq (UU m e).natAbs k.natAbs 212 : Nat) : Int) else -((stq (UU m e).natAbs k.natAbs 212 : Nat) : Int)) ((f + 150).toNat + 63) := by
    intro k hk hv
    rw [div_val h1 hv hk, ← hq]
    unfold DI
    by_cases hm : m < 0
    · rw [if_pos (us.1 hm), if_neg (by simp [hm]), RI_neg, show (-(UU m e)).toNat = (UU m e).natAbs by omega, show k.toNat = k.natAbs by omega]
      unfold RI
      rw [if_neg (by omega), Int.toNat_natCast]
    · rw [if_neg (fun h => hm (us.2 h)), if_pos (by simp [hm]), show (UU m e).toNat = (UU m e).natAbs by have := us; omega, show k.toNat = k.natAbs by omega]
      unfold RI
      rw [if_neg (by omega), Int.toNat_natCast]
  by_cases hk : k < 0
  · have hv : vr (-k) f = true := by
      rw [vr_iff] at h2 ⊢
      have : ab (-k) = ab k := by rw [ab_abs, ab_abs, Int.natAbs_neg]
      rw [this]
      omega
    have hp := pos (-k) (by omega) hv
    rw [quM_neg m k k0, Int.natAbs_neg] at hp
    have hqb := quM_bd m k (by omega) (by omega) (by omega) (by omega) k0
    have hEb : -1000 ≤ quE m e f := by
      obtain ⟨s1, s2, _, _⟩ := quS_bd m (by omega) (by omega)
      unfold quE; omega
    have hn : rI (-(quM m k)) (quE m e f) = -rI (quM m k) (quE m e f) := by
      rw [rI_val _ _ 1000 (by omega) (by omega) (by omega), rI_val _ _ 1000 (by omega) (by omega) (by omega), Int.neg_mul, RI_neg]
    rw [hn] at hp
    have hp2 : rI (quM m k) (quE m e f) = -RI (if decide (m < 0) = false then ((stq (UU m e).natAbs k.natAbs 212 : Nat) : Int) else -((stq (UU m e).natAbs k.natAbs 212 : Nat) : Int)) ((f + 150).toNat + 63) := by omega
    rw [hp2, ← RI_neg, show decide (k < 0) = true by simpa using hk]
    cases decide (m < 0) <;> simp
  · rw [show decide (k < 0) = false by simpa using hk]
    exact pos k (by omega) h2

theorem rdiv_any (m e k f : Int) (w : World) (h1 : vr m e = true) (h2 : vr k f = true) (k0 : k ≠ 0) :
    Calls Tryz.prog 25 #[realV m e, realV k f] w fun r w' => r = .returned (rrV (rI (quM m k) (quE m e f))) ∧ Below w.heap.size w w' := by
  refine (rdiv_w m e k f w h1 h2).mono ?_
  rintro r w' ⟨rm, re, ok, rfl, hR, hb⟩
  have hp : (0 : Int) < 2 ^ (f + 150).toNat := Int.pow_pos (by decide)
  have hK : 0 < k.natAbs := by omega
  have hab : ab (UU k f) = (k.natAbs : Int) * 2 ^ (f + 150).toNat := by
    rw [ab_abs]
    unfold UU
    rw [Int.natAbs_mul, Int.natCast_mul]
    have h9 : (((2 : Int) ^ (f + 150).toNat).natAbs : Int) = (2 : Int) ^ (f + 150).toNat := Int.natAbs_of_nonneg (Int.le_of_lt hp)
    rw [h9]
  rw [hab, ab_abs] at hR
  rw [div_is h1 h2 k0]
  have us := uu_sg m e
  obtain ⟨rfl, rfl, rfl⟩ := rnd_is (N := if decide (m < 0) = decide (k < 0) then ((stq (UU m e).natAbs k.natAbs 212 : Nat) : Int) else -((stq (UU m e).natAbs k.natAbs 212 : Nat) : Int)) (q := (f + 150).toNat + 63) hR (Int.mul_pos (by omega) hp)
    (by
      by_cases h : decide (m < 0) = decide (k < 0)
      · right
        rw [if_pos h, h]
        exact ⟨by simp, by omega⟩
      · left
        rw [if_neg h]
        exact ⟨by simpa using h, by omega⟩)
    (fun i hi => by
      have e : (if decide (m < 0) = decide (k < 0) then ((stq (UU m e).natAbs k.natAbs 212 : Nat) : Int) else -((stq (UU m e).natAbs k.natAbs 212 : Nat) : Int)).natAbs = stq (UU m e).natAbs k.natAbs 212 := by split <;> omega
      rw [e]
      exact q_midI hK i hi)
  exact ⟨rfl, hb⟩

end Go.Proofs.YticiabgnegbbmaaGreatDoor
