/-
  Several texts in one (NatI, NatJ).
-/
import Derived.Test.YtidgcibclbkhaaaGreatDoorNaA
import Derived.Test.YtidgcibclbkhaaaGreatDoorSan

namespace Go.Proofs.YtidgcibclbkhaaaGreatDoor
open Go.RowKit
set_option linter.unusedVariables false

theorem pw_150 : (2 : Int) ^ 150 < pw 300 := by
  have h : (2 : Int) ^ 150 = 2 ^ 0 * pw 10 := pw_two 150
  rw [h, Int.pow_zero, Int.one_mul]
  have h1 := pw_le (show 10 + 1 ≤ 300 by decide)
  have h2 := pw_succ 10
  have h3 := pw_pos 10
  omega

set_option maxRecDepth 100000 in
set_option maxHeartbeats 4000000 in
theorem radd_same (m e k f : Int) (w : World) (h1 : vr m e = true) (h2 : vr k f = true) (hs : decide (m < 0) = decide (k < 0)) :
    Calls Tryz.prog 29 #[realV m e, realV k f] w fun r w' => ∃ rm re ok, r = .returned (.agg #[.int .i64 rm, .int .i64 re, .bool ok]) ∧ RndP (ab (UU m e) + ab (UU k f)) (2 ^ 150) (decide (m < 0)) rm re ok ∧ Below w.heap.size w w' := by
  obtain ⟨n1, l1⟩ := uu_bd h1
  obtain ⟨n2, l2⟩ := uu_bd h2
  have HOX := Lib.hid (fun W : World => of_any m e W h1)
  have HOY := Lib.hid (fun W : World => of_any k f W h2)
  clear h1 h2
  obtain ⟨A, hA⟩ : ∃ A, A = ab (UU m e) := ⟨_, rfl⟩
  obtain ⟨B, hB⟩ : ∃ B, B = ab (UU k f) := ⟨_, rfl⟩
  obtain ⟨s, hs1⟩ : ∃ s, s = decide (m < 0) := ⟨_, rfl⟩
  obtain ⟨t, ht1⟩ : ∃ t, t = decide (k < 0) := ⟨_, rfl⟩
  rw [← hA] at n1 l1 HOX ⊢
  rw [← hB] at n2 l2 HOY ⊢
  rw [← hs1] at hs HOX ⊢
  rw [← ht1] at hs HOY 
  clear hA hB hs1 ht1
  obtain ⟨D, hD⟩ : ∃ D, D = (2 : Int) ^ 150 := ⟨_, rfl⟩
  have HBD := Lib.hid (show D < pw 300 by rw [hD]; exact pw_150)
  rw [← hD] at HOX HOY ⊢
  clear hD
  have HBN := Lib.hid (show A + B < pw 300 by have h1 := pw_le (show 40 + 1 ≤ 300 by decide); have h2 := pw_succ 40; have h3 := pw_pos 40; omega)
  have HPA := Lib.hid (show A < pw 1000 by have h1 := pw_le (show 40 ≤ 1000 by decide); omega)
  have HPB := Lib.hid (show B < pw 1000 by have h1 := pw_le (show 40 ≤ 1000 by decide); omega)
  have hsb : (s == t) = true := by rw [hs]; cases t <;> rfl
  clear hs
  go_enter Tryz.func29, Tryz.ntmps29
  go_wp2_with fail
  refine (HOX.out _).mono ?_
  rintro r wa ⟨o1, k1, c1, o2, k2, c2, rfl, hv1, hd1, hba⟩
  have a0 : wa.cell? ⟨w.heap.size + 1, 0, none⟩ = some (.int .i64 k) := carry hba (by go_simp)
  have a1 : wa.cell? ⟨w.heap.size + 1, 1, none⟩ = some (.int .i64 f) := carry hba (by go_simp)
  have r0 : wa.cell? ⟨w.heap.size + 1 + 1, 0, none⟩ = some (.int .i64 0) := carry hba (by go_simp)
  have r1 : wa.cell? ⟨w.heap.size + 1 + 1, 1, none⟩ = some (.int .i64 0) := carry hba (by go_simp)
  have r2 : wa.cell? ⟨w.heap.size + 1 + 1, 2, none⟩ = some (.bool false) := carry hba (by go_simp)
  have f0 : wa.frozen? ⟨w.heap.size + 1 + 1, 0, none⟩ = false := carryF hba (v := .int .i64 0) (by go_simp) (by go_simp)
  have f1 : wa.frozen? ⟨w.heap.size + 1 + 1, 1, none⟩ = false := carryF hba (v := .int .i64 0) (by go_simp) (by go_simp)
  have f2 : wa.frozen? ⟨w.heap.size + 1 + 1, 2, none⟩ = false := carryF hba (v := .bool false) (by go_simp) (by go_simp)
  have az : w.heap.size + 1 + 1 < wa.heap.size := by have := hba.size; simp at this; omega
  have HBA := Lib.hid (show Below w.heap.size w wa by refine Below.trans ?_ (hba.mono (by simp <;> omega)); repeat (first | exact Below.refl _ _ | refine Below.alloc ?_ (by simp <;> omega) _))
  have az1 : w.heap.size + 1 < wa.heap.size := by omega
  have az0 : w.heap.size < wa.heap.size := by omega
  have ac : (wa.cell? ⟨w.heap.size + 1, 0, none⟩).isSome = true := by rw [a0]; rfl
  clear hba
  go_wp2_with fail
  refine (HOY.out _).mono ?_
  rintro r wb ⟨o3, k3, c3, o4, k4, c4, rfl, hv2, hd2, hbb⟩
  have bz : wa.heap.size < wb.heap.size := by have := hbb.size; simp at this; omega
  have hab : Below wa.heap.size wa wb := by refine Below.trans ?_ (hbb.mono (by simp <;> omega)); repeat (first | exact Below.refl _ _ | refine Below.setCell ?_ (by first | omega | (simp; done) | (simp; omega)) _ | refine Below.alloc ?_ (by simp <;> omega) _)
  have p0 : wb.cell? ⟨wa.heap.size, 0, none⟩ = some (.bool s) := carry hbb (by go_simp)
  have p1 : wb.cell? ⟨wa.heap.size, 1, none⟩ = some (.slice o1 k1 c1) := carry hbb (by go_simp)
  have p2 : wb.cell? ⟨wa.heap.size, 2, none⟩ = some (.slice o2 k2 c2) := carry hbb (by go_simp)
  have HBB := Lib.hid (HBA.out.trans (hab.mono HBA.out.size))
  have hw1 := NatIs.below hv1 hab
  have hw2 := NatIs.below hd1 hab
  have q0 := carry hab r0
  have q1 := carry hab r1
  have q2 := carry hab r2
  have g0 := carryF hab r0 f0
  have g1 := carryF hab r1 f1
  have g2 := carryF hab r2 f2
  have cz : w.heap.size + 1 + 1 < wb.heap.size := by omega
  clear hbb hab hv1 hd1 r0 r1 r2 f0 f1 f2 a0 a1
  go_wp2_with fail
  obtain ⟨wn, hW⟩ : ∃ wn, wn = wb.alloc (.cells #[.bool t, .slice o3 k3 c3, .slice o4 k4 c4] 56) := ⟨_, rfl⟩
  rw [← hW]
  have hbn : Below wb.heap.size wb wn := by rw [hW]; exact Below.alloc (Below.refl _ _) (Nat.le_refl _) _
  have HBN2 := Lib.hid (show Below w.heap.size w wn from HBB.out.trans (hbn.mono HBB.out.size))
  have b0 : wn.cell? ⟨wb.heap.size, 0, none⟩ = some (.bool t) := by rw [hW]; clear hW; go_simp
  have b1 : wn.cell? ⟨wb.heap.size, 1, none⟩ = some (.slice o3 k3 c3) := by rw [hW]; clear hW; go_simp
  have hzb : wb.heap.size < wn.heap.size := by rw [hW]; simp
  clear hW
  have HB0 := Lib.hid (Below.refl wn.heap.size wn)
  have hna : w.heap.size + 1 + 1 ≠ wa.heap.size := by omega
  have hnb : w.heap.size + 1 + 1 ≠ wb.heap.size := by omega
  have hzl : w.heap.size + 1 + 1 ≤ wn.heap.size := by omega
  have HSK := Lib.hid (show ∀ wx, Below wn.heap.size wn wx → wx.cell? ⟨wa.heap.size, 0, none⟩ = some (.bool s) ∧ wx.cell? ⟨wa.heap.size, 1, none⟩ = some (.slice o1 k1 c1) ∧ wx.cell? ⟨wa.heap.size, 2, none⟩ = some (.slice o2 k2 c2) ∧ wx.cell? ⟨wb.heap.size, 1, none⟩ = some (.slice o3 k3 c3) ∧ wx.cell? ⟨wb.heap.size, 0, none⟩ = some (.bool t) ∧ wa.heap.size < wx.heap.size ∧ wb.heap.size < wx.heap.size ∧ w.heap.size + 1 + 1 < wx.heap.size from fun wx h => by
    have hs := h.size
    have hx := hbn.trans (h.mono hbn.size)
    exact ⟨carry hx p0, carry hx p1, carry hx p2, carry h b1, carry h b0, by omega, by omega, by omega⟩)
  have HRB := Lib.hid (show ∀ wx, Below wn.heap.size wn wx → (wx.cell? ⟨w.heap.size + 1 + 1, 0, none⟩ = some (.int .i64 0) ∧ wx.cell? ⟨w.heap.size + 1 + 1, 1, none⟩ = some (.int .i64 0) ∧ wx.cell? ⟨w.heap.size + 1 + 1, 2, none⟩ = some (.bool false)) ∧ (wx.frozen? ⟨w.heap.size + 1 + 1, 0, none⟩ = false ∧ wx.frozen? ⟨w.heap.size + 1 + 1, 1, none⟩ = false ∧ wx.frozen? ⟨w.heap.size + 1 + 1, 2, none⟩ = false) ∧ w.heap.size + 1 + 1 < wx.heap.size from fun wx h => by
    have hs := h.size
    have hx := hbn.trans (h.mono hbn.size)
    exact ⟨⟨carry hx q0, carry hx q1, carry hx q2⟩, ⟨carryF hx q0 g0, carryF hx q1 g1, carryF hx q2 g2⟩, by omega⟩)
  have HN1 := Lib.hid (show ∀ wx, Below wn.heap.size wn wx → NatIs wx (.slice o1 k1 c1) A from fun wx h => hw1.below (hbn.trans (h.mono hbn.size)))
  have HD1 := Lib.hid (show ∀ wx, Below wn.heap.size wn wx → NatIs wx (.slice o2 k2 c2) D from fun wx h => hw2.below (hbn.trans (h.mono hbn.size)))
  have HN3 := Lib.hid (show ∀ wx, Below wn.heap.size wn wx → NatIs wx (.slice o3 k3 c3) B from fun wx h => hv2.below (hbn.trans (h.mono hbn.size)))
  clear q0 q1 q2 g0 g1 g2 hw1 hw2 hv2 hd2 p0 p1 p2 b0 b1 hbn
  go_region_held3 (fun wx => wx.cell? ⟨wa.heap.size, 0, none⟩ = some (.bool s) ∧ wx.cell? ⟨wa.heap.size, 1, none⟩ = some (.slice o1 k1 c1) ∧ wx.cell? ⟨wa.heap.size, 2, none⟩ = some (.slice o2 k2 c2) ∧ wx.cell? ⟨wb.heap.size, 1, none⟩ = some (.slice o3 k3 c3) ∧ wx.cell? ⟨wb.heap.size, 0, none⟩ = some (.bool t) ∧ wa.heap.size < wx.heap.size ∧ wb.heap.size < wx.heap.size ∧ w.heap.size + 1 + 1 < wx.heap.size ∧ Below (w.heap.size + 1 + 1) wn wx) (first | (go_keep; done) | (refine ⟨?_, ?_, ?_, ?_, ?_, ?_, ?_, ?_, ?_⟩ <;> first | with_reducible assumption | exact (HSK.out _ (by first | with_reducible assumption | with_reducible exact HB0.out | with_reducible exact HB0.out.drew | with_reducible exact Below.drew (by with_reducible assumption))).1 | exact (HSK.out _ (by first | with_reducible assumption | with_reducible exact HB0.out | with_reducible exact HB0.out.drew | with_reducible exact Below.drew (by with_reducible assumption))).2.1 | exact (HSK.out _ (by first | with_reducible assumption | with_reducible exact HB0.out | with_reducible exact HB0.out.drew | with_reducible exact Below.drew (by with_reducible assumption))).2.2.1 | exact (HSK.out _ (by first | with_reducible assumption | with_reducible exact HB0.out | with_reducible exact HB0.out.drew | with_reducible exact Below.drew (by with_reducible assumption))).2.2.2.1 | exact (HSK.out _ (by first | with_reducible assumption | with_reducible exact HB0.out | with_reducible exact HB0.out.drew | with_reducible exact Below.drew (by with_reducible assumption))).2.2.2.2.1 | exact (HSK.out _ (by first | with_reducible assumption | with_reducible exact HB0.out | with_reducible exact HB0.out.drew | with_reducible exact Below.drew (by with_reducible assumption))).2.2.2.2.2.1 | exact (HSK.out _ (by first | with_reducible assumption | with_reducible exact HB0.out | with_reducible exact HB0.out.drew | with_reducible exact Below.drew (by with_reducible assumption))).2.2.2.2.2.2.1 | exact (HSK.out _ (by first | with_reducible assumption | with_reducible exact HB0.out | with_reducible exact HB0.out.drew | with_reducible exact Below.drew (by with_reducible assumption))).2.2.2.2.2.2.2 | exact Below.mono (by first | with_reducible assumption | with_reducible exact HB0.out | with_reducible exact HB0.out.drew | with_reducible exact Below.drew (by with_reducible assumption)) hzl | exact (World.cell?_setCell_far _ _ _ _ hna).trans ((World.cell?_setCell_far _ _ _ _ hna).trans ((World.cell?_setCell_far _ _ _ _ hna).trans (HSK.out _ (by first | with_reducible assumption | with_reducible exact HB0.out | with_reducible exact HB0.out.drew | with_reducible exact Below.drew (by with_reducible assumption))).1)) | exact (World.cell?_setCell_far _ _ _ _ hna).trans ((World.cell?_setCell_far _ _ _ _ hna).trans ((World.cell?_setCell_far _ _ _ _ hna).trans (HSK.out _ (by first | with_reducible assumption | with_reducible exact HB0.out | with_reducible exact HB0.out.drew | with_reducible exact Below.drew (by with_reducible assumption))).2.1)) | exact (World.cell?_setCell_far _ _ _ _ hna).trans ((World.cell?_setCell_far _ _ _ _ hna).trans ((World.cell?_setCell_far _ _ _ _ hna).trans (HSK.out _ (by first | with_reducible assumption | with_reducible exact HB0.out | with_reducible exact HB0.out.drew | with_reducible exact Below.drew (by with_reducible assumption))).2.2.1)) | exact (World.cell?_setCell_far _ _ _ _ hnb).trans ((World.cell?_setCell_far _ _ _ _ hnb).trans ((World.cell?_setCell_far _ _ _ _ hnb).trans (HSK.out _ (by first | with_reducible assumption | with_reducible exact HB0.out | with_reducible exact HB0.out.drew | with_reducible exact Below.drew (by with_reducible assumption))).2.2.2.1)) | exact (World.cell?_setCell_far _ _ _ _ hnb).trans ((World.cell?_setCell_far _ _ _ _ hnb).trans ((World.cell?_setCell_far _ _ _ _ hnb).trans (HSK.out _ (by first | with_reducible assumption | with_reducible exact HB0.out | with_reducible exact HB0.out.drew | with_reducible exact Below.drew (by with_reducible assumption))).2.2.2.2.1)) | (simp only [World.size_setCell]; first | exact (HSK.out _ (by first | with_reducible assumption | with_reducible exact HB0.out | with_reducible exact HB0.out.drew | with_reducible exact Below.drew (by with_reducible assumption))).2.2.2.2.2.1 | exact (HSK.out _ (by first | with_reducible assumption | with_reducible exact HB0.out | with_reducible exact HB0.out.drew | with_reducible exact Below.drew (by with_reducible assumption))).2.2.2.2.2.2.1 | exact (HSK.out _ (by first | with_reducible assumption | with_reducible exact HB0.out | with_reducible exact HB0.out.drew | with_reducible exact Below.drew (by with_reducible assumption))).2.2.2.2.2.2.2) | exact Below.setCell (p := ⟨w.heap.size + 1 + 1, 2, none⟩) (Below.setCell (p := ⟨w.heap.size + 1 + 1, 1, none⟩) (Below.setCell (p := ⟨w.heap.size + 1 + 1, 0, none⟩) (Below.mono (by first | with_reducible assumption | with_reducible exact HB0.out | with_reducible exact HB0.out.drew | with_reducible exact Below.drew (by with_reducible assumption)) hzl) (Nat.le_refl _) _) (Nat.le_refl _) _) (Nat.le_refl _) _))
    (first
      | (go_at_call 45; ((refine (add_nat (.slice o1 k1 c1) (.slice o3 k3 c3) A B _ (HN1.out _ (by first | with_reducible assumption | with_reducible exact HB0.out | with_reducible exact HB0.out.drew | with_reducible exact Below.drew (by with_reducible assumption))) (HN3.out _ (by first | with_reducible assumption | with_reducible exact HB0.out | with_reducible exact HB0.out.drew | with_reducible exact Below.drew (by with_reducible assumption))) HPA.out HPB.out).mono ?_); rintro r wq ⟨vp, rfl, hvp, hbq⟩; obtain ⟨pO, pK, pC, rfl⟩ := NatIs.form hvp; have qb : Below wn.heap.size wn wq := Below.trans (by first | with_reducible assumption | with_reducible exact HB0.out | with_reducible exact HB0.out.drew | with_reducible exact Below.drew (by with_reducible assumption)) (hbq.mono (Below.size (by first | with_reducible assumption | with_reducible exact HB0.out | with_reducible exact HB0.out.drew | with_reducible exact Below.drew (by with_reducible assumption))))))
      | (go_at_call 44; ((refine (round_any s (.slice pO pK pC) (.slice o2 k2 c2) (A + B) D _ (by with_reducible assumption) (HD1.out _ (by first | with_reducible assumption | with_reducible exact HB0.out | with_reducible exact HB0.out.drew | with_reducible exact Below.drew (by with_reducible assumption))) HBN.out HBD.out rfl rfl).mono ?_); rintro r wq ⟨rm, re, ok, rfl, hR, hbq⟩; have qb : Below wn.heap.size wn wq := Below.trans (by first | with_reducible assumption | with_reducible exact HB0.out | with_reducible exact HB0.out.drew | with_reducible exact Below.drew (by with_reducible assumption)) (hbq.mono (Below.size (by first | with_reducible assumption | with_reducible exact HB0.out | with_reducible exact HB0.out.drew | with_reducible exact Below.drew (by with_reducible assumption)))); obtain ⟨⟨q0, q1, q2⟩, ⟨g0, g1, g2⟩, qz⟩ := HRB.out _ qb)))
  go_wp2_with fail
  refine bodyPost_ret (v := .agg #[.int .i64 rm, .int .i64 re, .bool ok]) ?_ rfl ?_
  · simp [results, Tryz.results29, go_sem, q0, q1, q2]
  · exact ⟨_, _, _, rfl, hR, HBN2.out.trans (Below.mono (Below.setCell (p := ⟨w.heap.size + 1 + 1, 2, none⟩) (Below.setCell (p := ⟨w.heap.size + 1 + 1, 1, none⟩) (Below.setCell (p := ⟨w.heap.size + 1 + 1, 0, none⟩) (Below.mono qb hzl) (Nat.le_refl _) _) (Nat.le_refl _) _) (Nat.le_refl _) _) (by omega))⟩

set_option maxRecDepth 100000 in
set_option maxHeartbeats 4000000 in
theorem radd_ge (m e k f : Int) (w : World) (h1 : vr m e = true) (h2 : vr k f = true) (hs : decide (m < 0) ≠ decide (k < 0)) (hg : ab (UU k f) ≤ ab (UU m e)) :
    Calls Tryz.prog 29 #[realV m e, realV k f] w fun r w' => ∃ rm re ok, r = .returned (.agg #[.int .i64 rm, .int .i64 re, .bool ok]) ∧ RndP (ab (UU m e) - ab (UU k f)) (2 ^ 150) (decide (m < 0)) rm re ok ∧ Below w.heap.size w w' := by
  obtain ⟨n1, l1⟩ := uu_bd h1
  obtain ⟨n2, l2⟩ := uu_bd h2
  have HOX := Lib.hid (fun W : World => of_any m e W h1)
  have HOY := Lib.hid (fun W : World => of_any k f W h2)
  clear h1 h2
  obtain ⟨A, hA⟩ : ∃ A, A = ab (UU m e) := ⟨_, rfl⟩
  obtain ⟨B, hB⟩ : ∃ B, B = ab (UU k f) := ⟨_, rfl⟩
  obtain ⟨s, hs1⟩ : ∃ s, s = decide (m < 0) := ⟨_, rfl⟩
  obtain ⟨t, ht1⟩ : ∃ t, t = decide (k < 0) := ⟨_, rfl⟩
  rw [← hA] at n1 l1 HOX hg ⊢
  rw [← hB] at n2 l2 HOY hg ⊢
  rw [← hs1] at hs HOX ⊢
  rw [← ht1] at hs HOY 
  clear hA hB hs1 ht1
  obtain ⟨D, hD⟩ : ∃ D, D = (2 : Int) ^ 150 := ⟨_, rfl⟩
  have HBD := Lib.hid (show D < pw 300 by rw [hD]; exact pw_150)
  rw [← hD] at HOX HOY ⊢
  clear hD
  have HBN := Lib.hid (show A - B < pw 300 by have h1 := pw_le (show 40 + 1 ≤ 300 by decide); have h2 := pw_succ 40; have h3 := pw_pos 40; omega)
  have HPA := Lib.hid (show A < pw 1000 by have h1 := pw_le (show 40 ≤ 1000 by decide); omega)
  have HPB := Lib.hid (show B < pw 1000 by have h1 := pw_le (show 40 ≤ 1000 by decide); omega)
  have hsb : (s == t) = false := by cases s <;> cases t <;> simp_all
  clear hs
  go_enter Tryz.func29, Tryz.ntmps29
  go_wp2_with fail
  refine (HOX.out _).mono ?_
  rintro r wa ⟨o1, k1, c1, o2, k2, c2, rfl, hv1, hd1, hba⟩
  have a0 : wa.cell? ⟨w.heap.size + 1, 0, none⟩ = some (.int .i64 k) := carry hba (by go_simp)
  have a1 : wa.cell? ⟨w.heap.size + 1, 1, none⟩ = some (.int .i64 f) := carry hba (by go_simp)
  have r0 : wa.cell? ⟨w.heap.size + 1 + 1, 0, none⟩ = some (.int .i64 0) := carry hba (by go_simp)
  have r1 : wa.cell? ⟨w.heap.size + 1 + 1, 1, none⟩ = some (.int .i64 0) := carry hba (by go_simp)
  have r2 : wa.cell? ⟨w.heap.size + 1 + 1, 2, none⟩ = some (.bool false) := carry hba (by go_simp)
  have f0 : wa.frozen? ⟨w.heap.size + 1 + 1, 0, none⟩ = false := carryF hba (v := .int .i64 0) (by go_simp) (by go_simp)
  have f1 : wa.frozen? ⟨w.heap.size + 1 + 1, 1, none⟩ = false := carryF hba (v := .int .i64 0) (by go_simp) (by go_simp)
  have f2 : wa.frozen? ⟨w.heap.size + 1 + 1, 2, none⟩ = false := carryF hba (v := .bool false) (by go_simp) (by go_simp)
  have az : w.heap.size + 1 + 1 < wa.heap.size := by have := hba.size; simp at this; omega
  have HBA := Lib.hid (show Below w.heap.size w wa by refine Below.trans ?_ (hba.mono (by simp <;> omega)); repeat (first | exact Below.refl _ _ | refine Below.alloc ?_ (by simp <;> omega) _))
  have az1 : w.heap.size + 1 < wa.heap.size := by omega
  have az0 : w.heap.size < wa.heap.size := by omega
  have ac : (wa.cell? ⟨w.heap.size + 1, 0, none⟩).isSome = true := by rw [a0]; rfl
  clear hba
  go_wp2_with fail
  refine (HOY.out _).mono ?_
  rintro r wb ⟨o3, k3, c3, o4, k4, c4, rfl, hv2, hd2, hbb⟩
  have bz : wa.heap.size < wb.heap.size := by have := hbb.size; simp at this; omega
  have hab : Below wa.heap.size wa wb := by refine Below.trans ?_ (hbb.mono (by simp <;> omega)); repeat (first | exact Below.refl _ _ | refine Below.setCell ?_ (by first | omega | (simp; done) | (simp; omega)) _ | refine Below.alloc ?_ (by simp <;> omega) _)
  have p0 : wb.cell? ⟨wa.heap.size, 0, none⟩ = some (.bool s) := carry hbb (by go_simp)
  have p1 : wb.cell? ⟨wa.heap.size, 1, none⟩ = some (.slice o1 k1 c1) := carry hbb (by go_simp)
  have p2 : wb.cell? ⟨wa.heap.size, 2, none⟩ = some (.slice o2 k2 c2) := carry hbb (by go_simp)
  have HBB := Lib.hid (HBA.out.trans (hab.mono HBA.out.size))
  have hw1 := NatIs.below hv1 hab
  have hw2 := NatIs.below hd1 hab
  have q0 := carry hab r0
  have q1 := carry hab r1
  have q2 := carry hab r2
  have g0 := carryF hab r0 f0
  have g1 := carryF hab r1 f1
  have g2 := carryF hab r2 f2
  have cz : w.heap.size + 1 + 1 < wb.heap.size := by omega
  clear hbb hab hv1 hd1 r0 r1 r2 f0 f1 f2 a0 a1
  go_wp2_with fail
  obtain ⟨wn, hW⟩ : ∃ wn, wn = wb.alloc (.cells #[.bool t, .slice o3 k3 c3, .slice o4 k4 c4] 56) := ⟨_, rfl⟩
  rw [← hW]
  have hbn : Below wb.heap.size wb wn := by rw [hW]; exact Below.alloc (Below.refl _ _) (Nat.le_refl _) _
  have HBN2 := Lib.hid (show Below w.heap.size w wn from HBB.out.trans (hbn.mono HBB.out.size))
  have b0 : wn.cell? ⟨wb.heap.size, 0, none⟩ = some (.bool t) := by rw [hW]; clear hW; go_simp
  have b1 : wn.cell? ⟨wb.heap.size, 1, none⟩ = some (.slice o3 k3 c3) := by rw [hW]; clear hW; go_simp
  have hzb : wb.heap.size < wn.heap.size := by rw [hW]; simp
  clear hW
  have HB0 := Lib.hid (Below.refl wn.heap.size wn)
  have hna : w.heap.size + 1 + 1 ≠ wa.heap.size := by omega
  have hnb : w.heap.size + 1 + 1 ≠ wb.heap.size := by omega
  have hzl : w.heap.size + 1 + 1 ≤ wn.heap.size := by omega
  have HSK := Lib.hid (show ∀ wx, Below wn.heap.size wn wx → wx.cell? ⟨wa.heap.size, 0, none⟩ = some (.bool s) ∧ wx.cell? ⟨wa.heap.size, 1, none⟩ = some (.slice o1 k1 c1) ∧ wx.cell? ⟨wa.heap.size, 2, none⟩ = some (.slice o2 k2 c2) ∧ wx.cell? ⟨wb.heap.size, 1, none⟩ = some (.slice o3 k3 c3) ∧ wx.cell? ⟨wb.heap.size, 0, none⟩ = some (.bool t) ∧ wa.heap.size < wx.heap.size ∧ wb.heap.size < wx.heap.size ∧ w.heap.size + 1 + 1 < wx.heap.size from fun wx h => by
    have hs := h.size
    have hx := hbn.trans (h.mono hbn.size)
    exact ⟨carry hx p0, carry hx p1, carry hx p2, carry h b1, carry h b0, by omega, by omega, by omega⟩)
  have HRB := Lib.hid (show ∀ wx, Below wn.heap.size wn wx → (wx.cell? ⟨w.heap.size + 1 + 1, 0, none⟩ = some (.int .i64 0) ∧ wx.cell? ⟨w.heap.size + 1 + 1, 1, none⟩ = some (.int .i64 0) ∧ wx.cell? ⟨w.heap.size + 1 + 1, 2, none⟩ = some (.bool false)) ∧ (wx.frozen? ⟨w.heap.size + 1 + 1, 0, none⟩ = false ∧ wx.frozen? ⟨w.heap.size + 1 + 1, 1, none⟩ = false ∧ wx.frozen? ⟨w.heap.size + 1 + 1, 2, none⟩ = false) ∧ w.heap.size + 1 + 1 < wx.heap.size from fun wx h => by
    have hs := h.size
    have hx := hbn.trans (h.mono hbn.size)
    exact ⟨⟨carry hx q0, carry hx q1, carry hx q2⟩, ⟨carryF hx q0 g0, carryF hx q1 g1, carryF hx q2 g2⟩, by omega⟩)
  have HN1 := Lib.hid (show ∀ wx, Below wn.heap.size wn wx → NatIs wx (.slice o1 k1 c1) A from fun wx h => hw1.below (hbn.trans (h.mono hbn.size)))
  have HD1 := Lib.hid (show ∀ wx, Below wn.heap.size wn wx → NatIs wx (.slice o2 k2 c2) D from fun wx h => hw2.below (hbn.trans (h.mono hbn.size)))
  have HN3 := Lib.hid (show ∀ wx, Below wn.heap.size wn wx → NatIs wx (.slice o3 k3 c3) B from fun wx h => hv2.below (hbn.trans (h.mono hbn.size)))
  clear q0 q1 q2 g0 g1 g2 hw1 hw2 hv2 hd2 p0 p1 p2 b0 b1 hbn
  have HLE := Lib.hid (show B ≤ A by omega)
  obtain ⟨G, hG⟩ : ∃ G, G = sg A B := ⟨_, rfl⟩
  have hG2 : 0 ≤ G := by rw [hG]; unfold sg; (repeat' split) <;> omega
  have hG3 := Lib.hid hG
  clear hG hg
  refine (cmp_nat (.slice o1 k1 c1) (.slice o3 k3 c3) A B _ (HN1.out _ HB0.out) (HN3.out _ HB0.out) HPA.out HPB.out).mono ?_
  rw [← hG3.out]
  rintro r wc ⟨rfl, hbc⟩
  clear HB0
  have HB0 := Lib.hid hbc
  obtain ⟨c0, c1', c2', c3', c4', c5, c6, c7⟩ := HSK.out _ hbc
  clear hbc
  go_wp2_with fail
  go_region_held3 (fun wx => wx.cell? ⟨wa.heap.size, 0, none⟩ = some (.bool s) ∧ wx.cell? ⟨wa.heap.size, 1, none⟩ = some (.slice o1 k1 c1) ∧ wx.cell? ⟨wa.heap.size, 2, none⟩ = some (.slice o2 k2 c2) ∧ wx.cell? ⟨wb.heap.size, 1, none⟩ = some (.slice o3 k3 c3) ∧ wx.cell? ⟨wb.heap.size, 0, none⟩ = some (.bool t) ∧ wa.heap.size < wx.heap.size ∧ wb.heap.size < wx.heap.size ∧ w.heap.size + 1 + 1 < wx.heap.size ∧ Below (w.heap.size + 1 + 1) wn wx) (first | (go_keep; done) | (refine ⟨?_, ?_, ?_, ?_, ?_, ?_, ?_, ?_, ?_⟩ <;> first | with_reducible assumption | exact (HSK.out _ (by first | with_reducible assumption | with_reducible exact HB0.out | with_reducible exact HB0.out.drew | with_reducible exact Below.drew (by with_reducible assumption))).1 | exact (HSK.out _ (by first | with_reducible assumption | with_reducible exact HB0.out | with_reducible exact HB0.out.drew | with_reducible exact Below.drew (by with_reducible assumption))).2.1 | exact (HSK.out _ (by first | with_reducible assumption | with_reducible exact HB0.out | with_reducible exact HB0.out.drew | with_reducible exact Below.drew (by with_reducible assumption))).2.2.1 | exact (HSK.out _ (by first | with_reducible assumption | with_reducible exact HB0.out | with_reducible exact HB0.out.drew | with_reducible exact Below.drew (by with_reducible assumption))).2.2.2.1 | exact (HSK.out _ (by first | with_reducible assumption | with_reducible exact HB0.out | with_reducible exact HB0.out.drew | with_reducible exact Below.drew (by with_reducible assumption))).2.2.2.2.1 | exact (HSK.out _ (by first | with_reducible assumption | with_reducible exact HB0.out | with_reducible exact HB0.out.drew | with_reducible exact Below.drew (by with_reducible assumption))).2.2.2.2.2.1 | exact (HSK.out _ (by first | with_reducible assumption | with_reducible exact HB0.out | with_reducible exact HB0.out.drew | with_reducible exact Below.drew (by with_reducible assumption))).2.2.2.2.2.2.1 | exact (HSK.out _ (by first | with_reducible assumption | with_reducible exact HB0.out | with_reducible exact HB0.out.drew | with_reducible exact Below.drew (by with_reducible assumption))).2.2.2.2.2.2.2 | exact Below.mono (by first | with_reducible assumption | with_reducible exact HB0.out | with_reducible exact HB0.out.drew | with_reducible exact Below.drew (by with_reducible assumption)) hzl | exact (World.cell?_setCell_far _ _ _ _ hna).trans ((World.cell?_setCell_far _ _ _ _ hna).trans ((World.cell?_setCell_far _ _ _ _ hna).trans (HSK.out _ (by first | with_reducible assumption | with_reducible exact HB0.out | with_reducible exact HB0.out.drew | with_reducible exact Below.drew (by with_reducible assumption))).1)) | exact (World.cell?_setCell_far _ _ _ _ hna).trans ((World.cell?_setCell_far _ _ _ _ hna).trans ((World.cell?_setCell_far _ _ _ _ hna).trans (HSK.out _ (by first | with_reducible assumption | with_reducible exact HB0.out | with_reducible exact HB0.out.drew | with_reducible exact Below.drew (by with_reducible assumption))).2.1)) | exact (World.cell?_setCell_far _ _ _ _ hna).trans ((World.cell?_setCell_far _ _ _ _ hna).trans ((World.cell?_setCell_far _ _ _ _ hna).trans (HSK.out _ (by first | with_reducible assumption | with_reducible exact HB0.out | with_reducible exact HB0.out.drew | with_reducible exact Below.drew (by with_reducible assumption))).2.2.1)) | exact (World.cell?_setCell_far _ _ _ _ hnb).trans ((World.cell?_setCell_far _ _ _ _ hnb).trans ((World.cell?_setCell_far _ _ _ _ hnb).trans (HSK.out _ (by first | with_reducible assumption | with_reducible exact HB0.out | with_reducible exact HB0.out.drew | with_reducible exact Below.drew (by with_reducible assumption))).2.2.2.1)) | exact (World.cell?_setCell_far _ _ _ _ hnb).trans ((World.cell?_setCell_far _ _ _ _ hnb).trans ((World.cell?_setCell_far _ _ _ _ hnb).trans (HSK.out _ (by first | with_reducible assumption | with_reducible exact HB0.out | with_reducible exact HB0.out.drew | with_reducible exact Below.drew (by with_reducible assumption))).2.2.2.2.1)) | (simp only [World.size_setCell]; first | exact (HSK.out _ (by first | with_reducible assumption | with_reducible exact HB0.out | with_reducible exact HB0.out.drew | with_reducible exact Below.drew (by with_reducible assumption))).2.2.2.2.2.1 | exact (HSK.out _ (by first | with_reducible assumption | with_reducible exact HB0.out | with_reducible exact HB0.out.drew | with_reducible exact Below.drew (by with_reducible assumption))).2.2.2.2.2.2.1 | exact (HSK.out _ (by first | with_reducible assumption | with_reducible exact HB0.out | with_reducible exact HB0.out.drew | with_reducible exact Below.drew (by with_reducible assumption))).2.2.2.2.2.2.2) | exact Below.setCell (p := ⟨w.heap.size + 1 + 1, 2, none⟩) (Below.setCell (p := ⟨w.heap.size + 1 + 1, 1, none⟩) (Below.setCell (p := ⟨w.heap.size + 1 + 1, 0, none⟩) (Below.mono (by first | with_reducible assumption | with_reducible exact HB0.out | with_reducible exact HB0.out.drew | with_reducible exact Below.drew (by with_reducible assumption)) hzl) (Nat.le_refl _) _) (Nat.le_refl _) _) (Nat.le_refl _) _))
    (first
      | (go_at_call 61; ((refine (sub_nat (.slice o1 k1 c1) (.slice o3 k3 c3) A B _ (HN1.out _ (by first | with_reducible assumption | with_reducible exact HB0.out | with_reducible exact HB0.out.drew | with_reducible exact Below.drew (by with_reducible assumption))) (HN3.out _ (by first | with_reducible assumption | with_reducible exact HB0.out | with_reducible exact HB0.out.drew | with_reducible exact Below.drew (by with_reducible assumption))) HPA.out HPB.out HLE.out).mono ?_); rintro r wq ⟨vp, rfl, hvp, hbq⟩; obtain ⟨pO, pK, pC, rfl⟩ := NatIs.form hvp; have qb : Below wn.heap.size wn wq := Below.trans (by first | with_reducible assumption | with_reducible exact HB0.out | with_reducible exact HB0.out.drew | with_reducible exact Below.drew (by with_reducible assumption)) (hbq.mono (Below.size (by first | with_reducible assumption | with_reducible exact HB0.out | with_reducible exact HB0.out.drew | with_reducible exact Below.drew (by with_reducible assumption))))))
      | (go_at_call 44; ((refine (round_any s (.slice pO pK pC) (.slice o2 k2 c2) (A - B) D _ (by with_reducible assumption) (HD1.out _ (by first | with_reducible assumption | with_reducible exact HB0.out | with_reducible exact HB0.out.drew | with_reducible exact Below.drew (by with_reducible assumption))) HBN.out HBD.out rfl rfl).mono ?_); rintro r wq ⟨rm, re, ok, rfl, hR, hbq⟩; have qb : Below wn.heap.size wn wq := Below.trans (by first | with_reducible assumption | with_reducible exact HB0.out | with_reducible exact HB0.out.drew | with_reducible exact Below.drew (by with_reducible assumption)) (hbq.mono (Below.size (by first | with_reducible assumption | with_reducible exact HB0.out | with_reducible exact HB0.out.drew | with_reducible exact Below.drew (by with_reducible assumption)))); obtain ⟨⟨q0, q1, q2⟩, ⟨g0, g1, g2⟩, qz⟩ := HRB.out _ qb)))
  go_wp2_with fail
  refine bodyPost_ret (v := .agg #[.int .i64 rm, .int .i64 re, .bool ok]) ?_ rfl ?_
  · simp [results, Tryz.results29, go_sem, q0, q1, q2]
  · exact ⟨_, _, _, rfl, hR, HBN2.out.trans (Below.mono (Below.setCell (p := ⟨w.heap.size + 1 + 1, 2, none⟩) (Below.setCell (p := ⟨w.heap.size + 1 + 1, 1, none⟩) (Below.setCell (p := ⟨w.heap.size + 1 + 1, 0, none⟩) (Below.mono qb hzl) (Nat.le_refl _) _) (Nat.le_refl _) _) (Nat.le_refl _) _) (by omega))⟩

set_option maxRecDepth 100000 in
set_option maxHeartbeats 4000000 in
theorem radd_lt (m e k f : Int) (w : World) (h1 : vr m e = true) (h2 : vr k f = true) (hs : decide (m < 0) ≠ decide (k < 0)) (hg : ab (UU m e) < ab (UU k f)) :
    Calls Tryz.prog 29 #[realV m e, realV k f] w fun r w' => ∃ rm re ok, r = .returned (.agg #[.int .i64 rm, .int .i64 re, .bool ok]) ∧ RndP (ab (UU k f) - ab (UU m e)) (2 ^ 150) (decide (k < 0)) rm re ok ∧ Below w.heap.size w w' := by
  obtain ⟨n1, l1⟩ := uu_bd h1
  obtain ⟨n2, l2⟩ := uu_bd h2
  have HOX := Lib.hid (fun W : World => of_any m e W h1)
  have HOY := Lib.hid (fun W : World => of_any k f W h2)
  clear h1 h2
  obtain ⟨A, hA⟩ : ∃ A, A = ab (UU m e) := ⟨_, rfl⟩
  obtain ⟨B, hB⟩ : ∃ B, B = ab (UU k f) := ⟨_, rfl⟩
  obtain ⟨s, hs1⟩ : ∃ s, s = decide (m < 0) := ⟨_, rfl⟩
  obtain ⟨t, ht1⟩ : ∃ t, t = decide (k < 0) := ⟨_, rfl⟩
  rw [← hA] at n1 l1 HOX hg ⊢
  rw [← hB] at n2 l2 HOY hg ⊢
  rw [← hs1] at hs HOX 
  rw [← ht1] at hs HOY ⊢
  clear hA hB hs1 ht1
  obtain ⟨D, hD⟩ : ∃ D, D = (2 : Int) ^ 150 := ⟨_, rfl⟩
  have HBD := Lib.hid (show D < pw 300 by rw [hD]; exact pw_150)
  rw [← hD] at HOX HOY ⊢
  clear hD
  have HBN := Lib.hid (show B - A < pw 300 by have h1 := pw_le (show 40 + 1 ≤ 300 by decide); have h2 := pw_succ 40; have h3 := pw_pos 40; omega)
  have HPA := Lib.hid (show A < pw 1000 by have h1 := pw_le (show 40 ≤ 1000 by decide); omega)
  have HPB := Lib.hid (show B < pw 1000 by have h1 := pw_le (show 40 ≤ 1000 by decide); omega)
  have hsb : (s == t) = false := by cases s <;> cases t <;> simp_all
  clear hs
  go_enter Tryz.func29, Tryz.ntmps29
  go_wp2_with fail
  refine (HOX.out _).mono ?_
  rintro r wa ⟨o1, k1, c1, o2, k2, c2, rfl, hv1, hd1, hba⟩
  have a0 : wa.cell? ⟨w.heap.size + 1, 0, none⟩ = some (.int .i64 k) := carry hba (by go_simp)
  have a1 : wa.cell? ⟨w.heap.size + 1, 1, none⟩ = some (.int .i64 f) := carry hba (by go_simp)
  have r0 : wa.cell? ⟨w.heap.size + 1 + 1, 0, none⟩ = some (.int .i64 0) := carry hba (by go_simp)
  have r1 : wa.cell? ⟨w.heap.size + 1 + 1, 1, none⟩ = some (.int .i64 0) := carry hba (by go_simp)
  have r2 : wa.cell? ⟨w.heap.size + 1 + 1, 2, none⟩ = some (.bool false) := carry hba (by go_simp)
  have f0 : wa.frozen? ⟨w.heap.size + 1 + 1, 0, none⟩ = false := carryF hba (v := .int .i64 0) (by go_simp) (by go_simp)
  have f1 : wa.frozen? ⟨w.heap.size + 1 + 1, 1, none⟩ = false := carryF hba (v := .int .i64 0) (by go_simp) (by go_simp)
  have f2 : wa.frozen? ⟨w.heap.size + 1 + 1, 2, none⟩ = false := carryF hba (v := .bool false) (by go_simp) (by go_simp)
  have az : w.heap.size + 1 + 1 < wa.heap.size := by have := hba.size; simp at this; omega
  have HBA := Lib.hid (show Below w.heap.size w wa by refine Below.trans ?_ (hba.mono (by simp <;> omega)); repeat (first | exact Below.refl _ _ | refine Below.alloc ?_ (by simp <;> omega) _))
  have az1 : w.heap.size + 1 < wa.heap.size := by omega
  have az0 : w.heap.size < wa.heap.size := by omega
  have ac : (wa.cell? ⟨w.heap.size + 1, 0, none⟩).isSome = true := by rw [a0]; rfl
  clear hba
  go_wp2_with fail
  refine (HOY.out _).mono ?_
  rintro r wb ⟨o3, k3, c3, o4, k4, c4, rfl, hv2, hd2, hbb⟩
  have bz : wa.heap.size < wb.heap.size := by have := hbb.size; simp at this; omega
  have hab : Below wa.heap.size wa wb := by refine Below.trans ?_ (hbb.mono (by simp <;> omega)); repeat (first | exact Below.refl _ _ | refine Below.setCell ?_ (by first | omega | (simp; done) | (simp; omega)) _ | refine Below.alloc ?_ (by simp <;> omega) _)
  have p0 : wb.cell? ⟨wa.heap.size, 0, none⟩ = some (.bool s) := carry hbb (by go_simp)
  have p1 : wb.cell? ⟨wa.heap.size, 1, none⟩ = some (.slice o1 k1 c1) := carry hbb (by go_simp)
  have p2 : wb.cell? ⟨wa.heap.size, 2, none⟩ = some (.slice o2 k2 c2) := carry hbb (by go_simp)
  have HBB := Lib.hid (HBA.out.trans (hab.mono HBA.out.size))
  have hw1 := NatIs.below hv1 hab
  have hw2 := NatIs.below hd1 hab
  have q0 := carry hab r0
  have q1 := carry hab r1
  have q2 := carry hab r2
  have g0 := carryF hab r0 f0
  have g1 := carryF hab r1 f1
  have g2 := carryF hab r2 f2
  have cz : w.heap.size + 1 + 1 < wb.heap.size := by omega
  clear hbb hab hv1 hd1 r0 r1 r2 f0 f1 f2 a0 a1
  go_wp2_with fail
  obtain ⟨wn, hW⟩ : ∃ wn, wn = wb.alloc (.cells #[.bool t, .slice o3 k3 c3, .slice o4 k4 c4] 56) := ⟨_, rfl⟩
  rw [← hW]
  have hbn : Below wb.heap.size wb wn := by rw [hW]; exact Below.alloc (Below.refl _ _) (Nat.le_refl _) _
  have HBN2 := Lib.hid (show Below w.heap.size w wn from HBB.out.trans (hbn.mono HBB.out.size))
  have b0 : wn.cell? ⟨wb.heap.size, 0, none⟩ = some (.bool t) := by rw [hW]; clear hW; go_simp
  have b1 : wn.cell? ⟨wb.heap.size, 1, none⟩ = some (.slice o3 k3 c3) := by rw [hW]; clear hW; go_simp
  have hzb : wb.heap.size < wn.heap.size := by rw [hW]; simp
  clear hW
  have HB0 := Lib.hid (Below.refl wn.heap.size wn)
  have hna : w.heap.size + 1 + 1 ≠ wa.heap.size := by omega
  have hnb : w.heap.size + 1 + 1 ≠ wb.heap.size := by omega
  have hzl : w.heap.size + 1 + 1 ≤ wn.heap.size := by omega
  have HSK := Lib.hid (show ∀ wx, Below wn.heap.size wn wx → wx.cell? ⟨wa.heap.size, 0, none⟩ = some (.bool s) ∧ wx.cell? ⟨wa.heap.size, 1, none⟩ = some (.slice o1 k1 c1) ∧ wx.cell? ⟨wa.heap.size, 2, none⟩ = some (.slice o2 k2 c2) ∧ wx.cell? ⟨wb.heap.size, 1, none⟩ = some (.slice o3 k3 c3) ∧ wx.cell? ⟨wb.heap.size, 0, none⟩ = some (.bool t) ∧ wa.heap.size < wx.heap.size ∧ wb.heap.size < wx.heap.size ∧ w.heap.size + 1 + 1 < wx.heap.size from fun wx h => by
    have hs := h.size
    have hx := hbn.trans (h.mono hbn.size)
    exact ⟨carry hx p0, carry hx p1, carry hx p2, carry h b1, carry h b0, by omega, by omega, by omega⟩)
  have HRB := Lib.hid (show ∀ wx, Below wn.heap.size wn wx → (wx.cell? ⟨w.heap.size + 1 + 1, 0, none⟩ = some (.int .i64 0) ∧ wx.cell? ⟨w.heap.size + 1 + 1, 1, none⟩ = some (.int .i64 0) ∧ wx.cell? ⟨w.heap.size + 1 + 1, 2, none⟩ = some (.bool false)) ∧ (wx.frozen? ⟨w.heap.size + 1 + 1, 0, none⟩ = false ∧ wx.frozen? ⟨w.heap.size + 1 + 1, 1, none⟩ = false ∧ wx.frozen? ⟨w.heap.size + 1 + 1, 2, none⟩ = false) ∧ w.heap.size + 1 + 1 < wx.heap.size from fun wx h => by
    have hs := h.size
    have hx := hbn.trans (h.mono hbn.size)
    exact ⟨⟨carry hx q0, carry hx q1, carry hx q2⟩, ⟨carryF hx q0 g0, carryF hx q1 g1, carryF hx q2 g2⟩, by omega⟩)
  have HN1 := Lib.hid (show ∀ wx, Below wn.heap.size wn wx → NatIs wx (.slice o1 k1 c1) A from fun wx h => hw1.below (hbn.trans (h.mono hbn.size)))
  have HD1 := Lib.hid (show ∀ wx, Below wn.heap.size wn wx → NatIs wx (.slice o2 k2 c2) D from fun wx h => hw2.below (hbn.trans (h.mono hbn.size)))
  have HN3 := Lib.hid (show ∀ wx, Below wn.heap.size wn wx → NatIs wx (.slice o3 k3 c3) B from fun wx h => hv2.below (hbn.trans (h.mono hbn.size)))
  clear q0 q1 q2 g0 g1 g2 hw1 hw2 hv2 hd2 p0 p1 p2 b0 b1 hbn
  have HLE := Lib.hid (show A ≤ B by omega)
  obtain ⟨G, hG⟩ : ∃ G, G = sg A B := ⟨_, rfl⟩
  have hG2 : ¬ 0 ≤ G := by rw [hG]; unfold sg; (repeat' split) <;> omega
  have hG3 := Lib.hid hG
  clear hG hg
  refine (cmp_nat (.slice o1 k1 c1) (.slice o3 k3 c3) A B _ (HN1.out _ HB0.out) (HN3.out _ HB0.out) HPA.out HPB.out).mono ?_
  rw [← hG3.out]
  rintro r wc ⟨rfl, hbc⟩
  clear HB0
  have HB0 := Lib.hid hbc
  obtain ⟨c0, c1', c2', c3', c4', c5, c6, c7⟩ := HSK.out _ hbc
  clear hbc
  go_wp2_with fail
  go_region_held3 (fun wx => wx.cell? ⟨wa.heap.size, 0, none⟩ = some (.bool s) ∧ wx.cell? ⟨wa.heap.size, 1, none⟩ = some (.slice o1 k1 c1) ∧ wx.cell? ⟨wa.heap.size, 2, none⟩ = some (.slice o2 k2 c2) ∧ wx.cell? ⟨wb.heap.size, 1, none⟩ = some (.slice o3 k3 c3) ∧ wx.cell? ⟨wb.heap.size, 0, none⟩ = some (.bool t) ∧ wa.heap.size < wx.heap.size ∧ wb.heap.size < wx.heap.size ∧ w.heap.size + 1 + 1 < wx.heap.size ∧ Below (w.heap.size + 1 + 1) wn wx) (first | (go_keep; done) | (refine ⟨?_, ?_, ?_, ?_, ?_, ?_, ?_, ?_, ?_⟩ <;> first | with_reducible assumption | exact (HSK.out _ (by first | with_reducible assumption | with_reducible exact HB0.out | with_reducible exact HB0.out.drew | with_reducible exact Below.drew (by with_reducible assumption))).1 | exact (HSK.out _ (by first | with_reducible assumption | with_reducible exact HB0.out | with_reducible exact HB0.out.drew | with_reducible exact Below.drew (by with_reducible assumption))).2.1 | exact (HSK.out _ (by first | with_reducible assumption | with_reducible exact HB0.out | with_reducible exact HB0.out.drew | with_reducible exact Below.drew (by with_reducible assumption))).2.2.1 | exact (HSK.out _ (by first | with_reducible assumption | with_reducible exact HB0.out | with_reducible exact HB0.out.drew | with_reducible exact Below.drew (by with_reducible assumption))).2.2.2.1 | exact (HSK.out _ (by first | with_reducible assumption | with_reducible exact HB0.out | with_reducible exact HB0.out.drew | with_reducible exact Below.drew (by with_reducible assumption))).2.2.2.2.1 | exact (HSK.out _ (by first | with_reducible assumption | with_reducible exact HB0.out | with_reducible exact HB0.out.drew | with_reducible exact Below.drew (by with_reducible assumption))).2.2.2.2.2.1 | exact (HSK.out _ (by first | with_reducible assumption | with_reducible exact HB0.out | with_reducible exact HB0.out.drew | with_reducible exact Below.drew (by with_reducible assumption))).2.2.2.2.2.2.1 | exact (HSK.out _ (by first | with_reducible assumption | with_reducible exact HB0.out | with_reducible exact HB0.out.drew | with_reducible exact Below.drew (by with_reducible assumption))).2.2.2.2.2.2.2 | exact Below.mono (by first | with_reducible assumption | with_reducible exact HB0.out | with_reducible exact HB0.out.drew | with_reducible exact Below.drew (by with_reducible assumption)) hzl | exact (World.cell?_setCell_far _ _ _ _ hna).trans ((World.cell?_setCell_far _ _ _ _ hna).trans ((World.cell?_setCell_far _ _ _ _ hna).trans (HSK.out _ (by first | with_reducible assumption | with_reducible exact HB0.out | with_reducible exact HB0.out.drew | with_reducible exact Below.drew (by with_reducible assumption))).1)) | exact (World.cell?_setCell_far _ _ _ _ hna).trans ((World.cell?_setCell_far _ _ _ _ hna).trans ((World.cell?_setCell_far _ _ _ _ hna).trans (HSK.out _ (by first | with_reducible assumption | with_reducible exact HB0.out | with_reducible exact HB0.out.drew | with_reducible exact Below.drew (by with_reducible assumption))).2.1)) | exact (World.cell?_setCell_far _ _ _ _ hna).trans ((World.cell?_setCell_far _ _ _ _ hna).trans ((World.cell?_setCell_far _ _ _ _ hna).trans (HSK.out _ (by first | with_reducible assumption | with_reducible exact HB0.out | with_reducible exact HB0.out.drew | with_reducible exact Below.drew (by with_reducible assumption))).2.2.1)) | exact (World.cell?_setCell_far _ _ _ _ hnb).trans ((World.cell?_setCell_far _ _ _ _ hnb).trans ((World.cell?_setCell_far _ _ _ _ hnb).trans (HSK.out _ (by first | with_reducible assumption | with_reducible exact HB0.out | with_reducible exact HB0.out.drew | with_reducible exact Below.drew (by with_reducible assumption))).2.2.2.1)) | exact (World.cell?_setCell_far _ _ _ _ hnb).trans ((World.cell?_setCell_far _ _ _ _ hnb).trans ((World.cell?_setCell_far _ _ _ _ hnb).trans (HSK.out _ (by first | with_reducible assumption | with_reducible exact HB0.out | with_reducible exact HB0.out.drew | with_reducible exact Below.drew (by with_reducible assumption))).2.2.2.2.1)) | (simp only [World.size_setCell]; first | exact (HSK.out _ (by first | with_reducible assumption | with_reducible exact HB0.out | with_reducible exact HB0.out.drew | with_reducible exact Below.drew (by with_reducible assumption))).2.2.2.2.2.1 | exact (HSK.out _ (by first | with_reducible assumption | with_reducible exact HB0.out | with_reducible exact HB0.out.drew | with_reducible exact Below.drew (by with_reducible assumption))).2.2.2.2.2.2.1 | exact (HSK.out _ (by first | with_reducible assumption | with_reducible exact HB0.out | with_reducible exact HB0.out.drew | with_reducible exact Below.drew (by with_reducible assumption))).2.2.2.2.2.2.2) | exact Below.setCell (p := ⟨w.heap.size + 1 + 1, 2, none⟩) (Below.setCell (p := ⟨w.heap.size + 1 + 1, 1, none⟩) (Below.setCell (p := ⟨w.heap.size + 1 + 1, 0, none⟩) (Below.mono (by first | with_reducible assumption | with_reducible exact HB0.out | with_reducible exact HB0.out.drew | with_reducible exact Below.drew (by with_reducible assumption)) hzl) (Nat.le_refl _) _) (Nat.le_refl _) _) (Nat.le_refl _) _))
    (first
      | (go_at_call 61; ((refine (sub_nat (.slice o3 k3 c3) (.slice o1 k1 c1) B A _ (HN3.out _ (by first | with_reducible assumption | with_reducible exact HB0.out | with_reducible exact HB0.out.drew | with_reducible exact Below.drew (by with_reducible assumption))) (HN1.out _ (by first | with_reducible assumption | with_reducible exact HB0.out | with_reducible exact HB0.out.drew | with_reducible exact Below.drew (by with_reducible assumption))) HPB.out HPA.out HLE.out).mono ?_); rintro r wq ⟨vp, rfl, hvp, hbq⟩; obtain ⟨pO, pK, pC, rfl⟩ := NatIs.form hvp; have qb : Below wn.heap.size wn wq := Below.trans (by first | with_reducible assumption | with_reducible exact HB0.out | with_reducible exact HB0.out.drew | with_reducible exact Below.drew (by with_reducible assumption)) (hbq.mono (Below.size (by first | with_reducible assumption | with_reducible exact HB0.out | with_reducible exact HB0.out.drew | with_reducible exact Below.drew (by with_reducible assumption))))))
      | (go_at_call 44; ((refine (round_any t (.slice pO pK pC) (.slice o2 k2 c2) (B - A) D _ (by with_reducible assumption) (HD1.out _ (by first | with_reducible assumption | with_reducible exact HB0.out | with_reducible exact HB0.out.drew | with_reducible exact Below.drew (by with_reducible assumption))) HBN.out HBD.out rfl rfl).mono ?_); rintro r wq ⟨rm, re, ok, rfl, hR, hbq⟩; have qb : Below wn.heap.size wn wq := Below.trans (by first | with_reducible assumption | with_reducible exact HB0.out | with_reducible exact HB0.out.drew | with_reducible exact Below.drew (by with_reducible assumption)) (hbq.mono (Below.size (by first | with_reducible assumption | with_reducible exact HB0.out | with_reducible exact HB0.out.drew | with_reducible exact Below.drew (by with_reducible assumption)))); obtain ⟨⟨q0, q1, q2⟩, ⟨g0, g1, g2⟩, qz⟩ := HRB.out _ qb)))
  go_wp2_with fail
  refine bodyPost_ret (v := .agg #[.int .i64 rm, .int .i64 re, .bool ok]) ?_ rfl ?_
  · simp [results, Tryz.results29, go_sem, q0, q1, q2]
  · exact ⟨_, _, _, rfl, hR, HBN2.out.trans (Below.mono (Below.setCell (p := ⟨w.heap.size + 1 + 1, 2, none⟩) (Below.setCell (p := ⟨w.heap.size + 1 + 1, 1, none⟩) (Below.setCell (p := ⟨w.heap.size + 1 + 1, 0, none⟩) (Below.mono qb hzl) (Nat.le_refl _) _) (Nat.le_refl _) _) (Nat.le_refl _) _) (by omega))⟩

end Go.Proofs.YtidgcibclbkhaaaGreatDoor

namespace Go.Proofs.YtidgcibclbkhaaaGreatDoor
open Go.RowKit
set_option linter.unusedVariables false

/-- what the reference returns for an index -/
abbrev rrV (I : Int) : Value := .agg #[.int .i64 (oM I), .int .i64 (oE I), .bool (decide (-2533359615 ≤ I ∧ I ≤ 2533359615))]

theorem uu_sg (m e : Int) : (m < 0 ↔ UU m e < 0) := by
  have hp : (0 : Int) < 2 ^ (e + 150).toNat := Int.pow_pos (by decide)
  unfold UU
  constructor
  · exact fun h => Int.mul_neg_of_neg_of_pos h hp
  · intro h
    by_cases hm : m < 0
    · exact hm
    · have := Int.mul_nonneg (show 0 ≤ m by omega) (Int.le_of_lt hp)
      omega

theorem p150 : (0 : Int) < 2 ^ 150 := Int.pow_pos (by decide)

theorem radd_any (m e k f : Int) (w : World) (h1 : vr m e = true) (h2 : vr k f = true) :
    Calls Tryz.prog 29 #[realV m e, realV k f] w fun r w' => r = .returned (rrV (RI (UU m e + UU k f) 0)) ∧ Below w.heap.size w w' := by
  have u1 := uu_sg m e
  have u2 := uu_sg k f
  have T : ∀ (num : Int) (mi : Bool), num = ((UU m e + UU k f).natAbs : Int) → ((mi = true ∧ UU m e + UU k f ≤ 0) ∨ (mi = false ∧ 0 ≤ UU m e + UU k f)) → ∀ r (w' : World), (∃ rm re ok, r = Ending.returned (.agg #[.int .i64 rm, .int .i64 re, .bool ok]) ∧ RndP num (2 ^ 150) mi rm re ok ∧ Below w.heap.size w w') → r = Ending.returned (rrV (RI (UU m e + UU k f) 0)) ∧ Below w.heap.size w w' := by
    rintro num mi e1 e2 r w' ⟨rm, re, ok, rfl, hR, hb⟩
    obtain ⟨rfl, rfl, rfl⟩ := rnd_is (q := 0) hR p150 e2 (hs_150 e1)
    exact ⟨rfl, hb⟩
  by_cases hs : decide (m < 0) = decide (k < 0)
  · refine (radd_same m e k f w h1 h2 hs).mono (T _ _ ?_ ?_)
    · unfold ab
      have : (m < 0 ↔ k < 0) := by simpa using hs
      split <;> split <;> omega
    · have : (m < 0 ↔ k < 0) := by simpa using hs
      by_cases hm : m < 0
      · exact .inl ⟨by simpa using hm, by omega⟩
      · exact .inr ⟨by simpa using hm, by omega⟩
  · have hd : ¬ (m < 0 ↔ k < 0) := by simpa using hs
    by_cases hg : ab (UU k f) ≤ ab (UU m e)
    · refine (radd_ge m e k f w h1 h2 hs hg).mono (T _ _ ?_ ?_)
      · unfold ab at hg ⊢
        split at hg <;> split at hg <;> (repeat' split) <;> omega
      · by_cases hm : m < 0
        · exact .inl ⟨by simpa using hm, by unfold ab at hg; split at hg <;> split at hg <;> omega⟩
        · exact .inr ⟨by simpa using hm, by unfold ab at hg; split at hg <;> split at hg <;> omega⟩
    · refine (radd_lt m e k f w h1 h2 hs (by omega)).mono (T _ _ ?_ ?_)
      · unfold ab at hg ⊢
        split at hg <;> split at hg <;> (repeat' split) <;> omega
      · by_cases hm : k < 0
        · exact .inl ⟨by simpa using hm, by unfold ab at hg; split at hg <;> split at hg <;> omega⟩
        · exact .inr ⟨by simpa using hm, by unfold ab at hg; split at hg <;> split at hg <;> omega⟩

set_option maxRecDepth 100000 in
set_option maxHeartbeats 1600000 in
theorem rneg_any (m e : Int) (w : World) (h1 : -16777216 ≤ m) (h2 : m ≤ 16777216) :
    Calls Tryz.prog 23 #[realV m e] w fun r w' => r = .returned (realV (-m) e) ∧ Below w.heap.size w w' := by
  have hw : IntKind.i64.wrap (-m) = -m := wrap64' _ (by omega) (by omega)
  have hw2 : IntKind.i64.wrap (0 - m) = -m := by rw [wrap64' _ (by omega) (by omega)]; omega
  go_enter Tryz.func23, Tryz.ntmps23
  go_wp2_with fail
  refine bodyPost_ret (v := realV (-m) e) (by simp [results, Tryz.results23, go_sem]) rfl ⟨rfl, by repeat (first | with_reducible exact HBB.out | with_reducible exact Below.refl _ _ | with_reducible refine Below.drew ?_ | with_reducible refine belowN ?_ _ | with_reducible refine Below.setCell ?_ (by first | omega | (simp; done) | (simp; omega)) _ | with_reducible refine Below.alloc ?_ (by first | omega | (simp; done) | (simp; omega)) _)⟩

set_option maxRecDepth 100000 in
set_option maxHeartbeats 1600000 in
theorem rsub_any (m e k f : Int) (w : World) (h1 : vr m e = true) (h2 : vr k f = true) :
    Calls Tryz.prog 30 #[realV m e, realV k f] w fun r w' => r = .returned (rrV (RI (UU m e - UU k f) 0)) ∧ Below w.heap.size w w' := by
  obtain ⟨b1, b2, b3, b4⟩ := vr_bd h2
  have h3 : vr (-k) f = true := by rw [vr_neg]; exact h2
  have HAD := Lib.hid (fun W : World => radd_any m e (-k) f W h1 h3)
  rw [UU_neg, ← Int.sub_eq_add_neg] at HAD
  have HNG := Lib.hid (fun W : World => rneg_any k f W (by omega) (by omega))
  obtain ⟨I, hI⟩ : ∃ I, I = RI (UU m e - UU k f) 0 := ⟨_, rfl⟩
  rw [← hI] at HAD ⊢
  obtain ⟨xm, hxm⟩ : ∃ xm, xm = oM I := ⟨_, rfl⟩
  obtain ⟨xe, hxe⟩ : ∃ xe, xe = oE I := ⟨_, rfl⟩
  obtain ⟨xo, hxo⟩ : ∃ xo, xo = decide (-2533359615 ≤ I ∧ I ≤ 2533359615) := ⟨_, rfl⟩
  simp only [rrV] at HAD ⊢
  rw [← hxm, ← hxe, ← hxo] at HAD ⊢
  obtain ⟨nk, hnk⟩ : ∃ nk, nk = -k := ⟨_, rfl⟩
  rw [← hnk] at HAD HNG
  clear hI hxm hxe hxo hnk h1 h2 h3
  go_enter Tryz.func30, Tryz.ntmps30
  go_wp2_with fail
  obtain ⟨wn, hW⟩ : ∃ wn, wn = ((w.alloc (.cells #[.int .i64 m, .int .i64 e] 23)).alloc (.cells #[.int .i64 k, .int .i64 f] 23)).alloc (.cells #[.int .i64 0, .int .i64 0, .bool false] 43) := ⟨_, rfl⟩
  rw [← hW]
  have HBN2 := Lib.hid (show Below w.heap.size w wn by rw [hW]; repeat (first | exact Below.refl _ _ | refine Below.alloc ?_ (by simp <;> omega) _))
  have p0 : wn.cell? ⟨w.heap.size, 0, none⟩ = some (.int .i64 m) := by rw [hW]; clear hW; go_simp
  have p1 : wn.cell? ⟨w.heap.size, 1, none⟩ = some (.int .i64 e) := by rw [hW]; clear hW; go_simp
  have p2 : wn.cell? ⟨w.heap.size + 1, 0, none⟩ = some (.int .i64 k) := by rw [hW]; clear hW; go_simp
  have p3 : wn.cell? ⟨w.heap.size + 1, 1, none⟩ = some (.int .i64 f) := by rw [hW]; clear hW; go_simp
  have q0 : wn.cell? ⟨w.heap.size + 1 + 1, 0, none⟩ = some (.int .i64 0) := by rw [hW]; clear hW; go_simp
  have q1 : wn.cell? ⟨w.heap.size + 1 + 1, 1, none⟩ = some (.int .i64 0) := by rw [hW]; clear hW; go_simp
  have q2 : wn.cell? ⟨w.heap.size + 1 + 1, 2, none⟩ = some (.bool false) := by rw [hW]; clear hW; go_simp
  have g0 : wn.frozen? ⟨w.heap.size + 1 + 1, 0, none⟩ = false := by rw [hW]; clear hW; go_simp
  have g1 : wn.frozen? ⟨w.heap.size + 1 + 1, 1, none⟩ = false := by rw [hW]; clear hW; go_simp
  have g2 : wn.frozen? ⟨w.heap.size + 1 + 1, 2, none⟩ = false := by rw [hW]; clear hW; go_simp
  have hzn : w.heap.size + 1 + 1 < wn.heap.size := by rw [hW]; simp
  clear hW
  have HB0 := Lib.hid (Below.refl wn.heap.size wn)
  have hna : w.heap.size + 1 + 1 ≠ w.heap.size := by omega
  have hnb : w.heap.size + 1 + 1 ≠ w.heap.size + 1 := by omega
  have hzl : w.heap.size + 1 + 1 ≤ wn.heap.size := by omega
  have HSK := Lib.hid (show ∀ wx, Below wn.heap.size wn wx → wx.cell? ⟨w.heap.size, 0, none⟩ = some (.int .i64 m) ∧ wx.cell? ⟨w.heap.size, 1, none⟩ = some (.int .i64 e) ∧ wx.cell? ⟨w.heap.size + 1, 0, none⟩ = some (.int .i64 k) ∧ wx.cell? ⟨w.heap.size + 1, 1, none⟩ = some (.int .i64 f) ∧ w.heap.size < wx.heap.size ∧ w.heap.size + 1 < wx.heap.size ∧ w.heap.size + 1 + 1 < wx.heap.size from fun wx h => by
    have hs := h.size
    exact ⟨carry h p0, carry h p1, carry h p2, carry h p3, by omega, by omega, by omega⟩)
  have HRB := Lib.hid (show ∀ wx, Below wn.heap.size wn wx → (wx.cell? ⟨w.heap.size + 1 + 1, 0, none⟩ = some (.int .i64 0) ∧ wx.cell? ⟨w.heap.size + 1 + 1, 1, none⟩ = some (.int .i64 0) ∧ wx.cell? ⟨w.heap.size + 1 + 1, 2, none⟩ = some (.bool false)) ∧ (wx.frozen? ⟨w.heap.size + 1 + 1, 0, none⟩ = false ∧ wx.frozen? ⟨w.heap.size + 1 + 1, 1, none⟩ = false ∧ wx.frozen? ⟨w.heap.size + 1 + 1, 2, none⟩ = false) ∧ w.heap.size + 1 + 1 < wx.heap.size from fun wx h => by
    have hs := h.size
    exact ⟨⟨carry h q0, carry h q1, carry h q2⟩, ⟨carryF h q0 g0, carryF h q1 g1, carryF h q2 g2⟩, by omega⟩)
  obtain ⟨a0, a1, a2, a3, a4, a5, a6⟩ := HSK.out _ HB0.out
  clear q0 q1 q2 g0 g1 g2 p0 p1 p2 p3
  go_region_held3 (fun wx => wx.cell? ⟨w.heap.size, 0, none⟩ = some (.int .i64 m) ∧ wx.cell? ⟨w.heap.size, 1, none⟩ = some (.int .i64 e) ∧ wx.cell? ⟨w.heap.size + 1, 0, none⟩ = some (.int .i64 k) ∧ wx.cell? ⟨w.heap.size + 1, 1, none⟩ = some (.int .i64 f) ∧ w.heap.size < wx.heap.size ∧ w.heap.size + 1 < wx.heap.size ∧ w.heap.size + 1 + 1 < wx.heap.size ∧ Below (w.heap.size + 1 + 1) wn wx) (first | (go_keep; done) | (refine ⟨?_, ?_, ?_, ?_, ?_, ?_, ?_, ?_⟩ <;> first | with_reducible assumption | exact (HSK.out _ (by first | with_reducible assumption | with_reducible exact HB0.out | with_reducible exact HB0.out.drew | with_reducible exact Below.drew (by with_reducible assumption))).1 | exact (HSK.out _ (by first | with_reducible assumption | with_reducible exact HB0.out | with_reducible exact HB0.out.drew | with_reducible exact Below.drew (by with_reducible assumption))).2.1 | exact (HSK.out _ (by first | with_reducible assumption | with_reducible exact HB0.out | with_reducible exact HB0.out.drew | with_reducible exact Below.drew (by with_reducible assumption))).2.2.1 | exact (HSK.out _ (by first | with_reducible assumption | with_reducible exact HB0.out | with_reducible exact HB0.out.drew | with_reducible exact Below.drew (by with_reducible assumption))).2.2.2.1 | exact (HSK.out _ (by first | with_reducible assumption | with_reducible exact HB0.out | with_reducible exact HB0.out.drew | with_reducible exact Below.drew (by with_reducible assumption))).2.2.2.2.1 | exact (HSK.out _ (by first | with_reducible assumption | with_reducible exact HB0.out | with_reducible exact HB0.out.drew | with_reducible exact Below.drew (by with_reducible assumption))).2.2.2.2.2.1 | exact (HSK.out _ (by first | with_reducible assumption | with_reducible exact HB0.out | with_reducible exact HB0.out.drew | with_reducible exact Below.drew (by with_reducible assumption))).2.2.2.2.2.2 | exact Below.mono (by first | with_reducible assumption | with_reducible exact HB0.out | with_reducible exact HB0.out.drew | with_reducible exact Below.drew (by with_reducible assumption)) hzl | exact (World.cell?_setCell_far _ _ _ _ hna).trans ((World.cell?_setCell_far _ _ _ _ hna).trans ((World.cell?_setCell_far _ _ _ _ hna).trans (HSK.out _ (by first | with_reducible assumption | with_reducible exact HB0.out | with_reducible exact HB0.out.drew | with_reducible exact Below.drew (by with_reducible assumption))).1)) | exact (World.cell?_setCell_far _ _ _ _ hna).trans ((World.cell?_setCell_far _ _ _ _ hna).trans ((World.cell?_setCell_far _ _ _ _ hna).trans (HSK.out _ (by first | with_reducible assumption | with_reducible exact HB0.out | with_reducible exact HB0.out.drew | with_reducible exact Below.drew (by with_reducible assumption))).2.1)) | exact (World.cell?_setCell_far _ _ _ _ hnb).trans ((World.cell?_setCell_far _ _ _ _ hnb).trans ((World.cell?_setCell_far _ _ _ _ hnb).trans (HSK.out _ (by first | with_reducible assumption | with_reducible exact HB0.out | with_reducible exact HB0.out.drew | with_reducible exact Below.drew (by with_reducible assumption))).2.2.1)) | exact (World.cell?_setCell_far _ _ _ _ hnb).trans ((World.cell?_setCell_far _ _ _ _ hnb).trans ((World.cell?_setCell_far _ _ _ _ hnb).trans (HSK.out _ (by first | with_reducible assumption | with_reducible exact HB0.out | with_reducible exact HB0.out.drew | with_reducible exact Below.drew (by with_reducible assumption))).2.2.2.1)) | (simp only [World.size_setCell]; first | exact (HSK.out _ (by first | with_reducible assumption | with_reducible exact HB0.out | with_reducible exact HB0.out.drew | with_reducible exact Below.drew (by with_reducible assumption))).2.2.2.2.1 | exact (HSK.out _ (by first | with_reducible assumption | with_reducible exact HB0.out | with_reducible exact HB0.out.drew | with_reducible exact Below.drew (by with_reducible assumption))).2.2.2.2.2.1 | exact (HSK.out _ (by first | with_reducible assumption | with_reducible exact HB0.out | with_reducible exact HB0.out.drew | with_reducible exact Below.drew (by with_reducible assumption))).2.2.2.2.2.2) | exact Below.setCell (p := ⟨w.heap.size + 1 + 1, 2, none⟩) (Below.setCell (p := ⟨w.heap.size + 1 + 1, 1, none⟩) (Below.setCell (p := ⟨w.heap.size + 1 + 1, 0, none⟩) (Below.mono (by first | with_reducible assumption | with_reducible exact HB0.out | with_reducible exact HB0.out.drew | with_reducible exact Below.drew (by with_reducible assumption)) hzl) (Nat.le_refl _) _) (Nat.le_refl _) _) (Nat.le_refl _) _))
    (first
      | (go_at_call 23; ((with_reducible refine (HNG.out _).mono ?_); rintro r wq ⟨rfl, hbq⟩; have qb : Below wn.heap.size wn wq := Below.trans (by first | with_reducible assumption | with_reducible exact HB0.out | with_reducible exact HB0.out.drew | with_reducible exact Below.drew (by with_reducible assumption)) (hbq.mono (Below.size (by first | with_reducible assumption | with_reducible exact HB0.out | with_reducible exact HB0.out.drew | with_reducible exact Below.drew (by with_reducible assumption))))))
      | (go_at_call 29; ((with_reducible refine (HAD.out _).mono ?_); rintro r wq ⟨rfl, hbq⟩; have qb : Below wn.heap.size wn wq := Below.trans (by first | with_reducible assumption | with_reducible exact HB0.out | with_reducible exact HB0.out.drew | with_reducible exact Below.drew (by with_reducible assumption)) (hbq.mono (Below.size (by first | with_reducible assumption | with_reducible exact HB0.out | with_reducible exact HB0.out.drew | with_reducible exact Below.drew (by with_reducible assumption)))); obtain ⟨⟨q0, q1, q2⟩, ⟨g0, g1, g2⟩, qz⟩ := HRB.out _ qb)))
  go_wp2_with fail
  refine bodyPost_ret (v := .agg #[.int .i64 xm, .int .i64 xe, .bool xo]) ?_ rfl ?_
  · simp [results, Tryz.results30, go_sem, q0, q1, q2]
  · exact ⟨rfl, HBN2.out.trans (Below.mono (Below.setCell (p := ⟨w.heap.size + 1 + 1, 2, none⟩) (Below.setCell (p := ⟨w.heap.size + 1 + 1, 1, none⟩) (Below.setCell (p := ⟨w.heap.size + 1 + 1, 0, none⟩) (Below.mono qb hzl) (Nat.le_refl _) _) (Nat.le_refl _) _) (Nat.le_refl _) _) (by omega))⟩

set_option maxRecDepth 100000 in
set_option maxHeartbeats 1600000 in
theorem rnd_no (w : World) :
    Calls Tryz.prog 28 #[realV 0 0, .int .i64 3, .agg #[.int .i64 0, .int .i64 0, .bool false]] w fun r w' => r = .returned (.bool true) ∧ Below w.heap.size w w' := by
  go_enter Tryz.func28, Tryz.ntmps28
  go_wp2_with fail
  go_ret
  exact ⟨rfl, by repeat (first | with_reducible exact HBB.out | with_reducible exact Below.refl _ _ | with_reducible refine Below.drew ?_ | with_reducible refine belowN ?_ _ | with_reducible refine Below.setCell ?_ (by first | omega | (simp; done) | (simp; omega)) _ | with_reducible refine Below.alloc ?_ (by first | omega | (simp; done) | (simp; omega)) _)⟩

set_option maxRecDepth 100000 in
set_option maxHeartbeats 1600000 in
theorem rnd_yes (m e : Int) (w : World) :
    Calls Tryz.prog 28 #[realV m e, .int .i64 0, .agg #[.int .i64 m, .int .i64 e, .bool true]] w fun r w' => r = .returned (.bool true) ∧ Below w.heap.size w w' := by
  go_enter Tryz.func28, Tryz.ntmps28
  go_wp2_with fail
  refine (is_yes m e _).mono ?_
  rintro r wa ⟨rfl, hba⟩
  have HBB := Lib.hid (show Below w.heap.size w wa by refine Below.trans ?_ (hba.mono (by simp <;> omega)); repeat (first | exact Below.refl _ _ | refine Below.alloc ?_ (by simp <;> omega) _))
  clear hba
  go_wp2_with fail
  go_ret
  exact ⟨rfl, by repeat (first | with_reducible exact HBB.out | with_reducible exact Below.refl _ _ | with_reducible refine Below.drew ?_ | with_reducible refine belowN ?_ _ | with_reducible refine Below.setCell ?_ (by first | omega | (simp; done) | (simp; omega)) _ | with_reducible refine Below.alloc ?_ (by first | omega | (simp; done) | (simp; omega)) _)⟩

end Go.Proofs.YtidgcibclbkhaaaGreatDoor
