/-
  PACKAGE lex: readNumber, for every number, from what numberOf returns.
-/
import Derived.Test.YtnmifeiokhpcfaaDoorLexNumA
import Derived.Deep.RegionHeld3
import Derived.Outline
import Derived.WalkSpells
import Derived.WalkLawsBesides
import Derived.OwnWalk
import Derived.Deep.DeepCutAuto

namespace Go.Proofs.YtnmifeiokhpcfaaDoor
open Go.RowKit
set_option linter.unusedVariables false

set_option maxRecDepth 100000 in
set_option maxHeartbeats 1600000 in
theorem carry_new {wa wq : World} {T : TypeId} (h : Below (wa.alloc (.cells #[.int .i64 0, .string ⟨#[]⟩, .int .i64 0, .int .i64 0, .int .i64 0, .int .i64 0, .int .i64 0] T)).drew.heap.size (wa.alloc (.cells #[.int .i64 0, .string ⟨#[]⟩, .int .i64 0, .int .i64 0, .int .i64 0, .int .i64 0, .int .i64 0] T)).drew wq) :
    wq.cell? ⟨wa.heap.size, 0, none⟩ = some (.int .i64 0) ∧ wq.cell? ⟨wa.heap.size, 1, none⟩ = some (.string ⟨#[]⟩) ∧ wq.cell? ⟨wa.heap.size, 2, none⟩ = some (.int .i64 0) ∧ wq.cell? ⟨wa.heap.size, 3, none⟩ = some (.int .i64 0) ∧ wq.cell? ⟨wa.heap.size, 4, none⟩ = some (.int .i64 0) ∧ wq.cell? ⟨wa.heap.size, 5, none⟩ = some (.int .i64 0) ∧ wq.cell? ⟨wa.heap.size, 6, none⟩ = some (.int .i64 0) ∧ wq.frozen? ⟨wa.heap.size, 0, none⟩ = false ∧ wq.frozen? ⟨wa.heap.size, 1, none⟩ = false ∧ wq.frozen? ⟨wa.heap.size, 2, none⟩ = false ∧ wq.frozen? ⟨wa.heap.size, 3, none⟩ = false ∧ wq.frozen? ⟨wa.heap.size, 4, none⟩ = false ∧ wq.frozen? ⟨wa.heap.size, 5, none⟩ = false ∧ wq.frozen? ⟨wa.heap.size, 6, none⟩ = false ∧ wa.heap.size < wq.heap.size := by
  refine ⟨carry h (by go_simp), carry h (by go_simp), carry h (by go_simp), carry h (by go_simp), carry h (by go_simp), carry h (by go_simp), carry h (by go_simp), carryF h (v := .int .i64 0) (by go_simp) (by go_simp), carryF h (v := .string ⟨#[]⟩) (by go_simp) (by go_simp), carryF h (v := .int .i64 0) (by go_simp) (by go_simp), carryF h (v := .int .i64 0) (by go_simp) (by go_simp), carryF h (v := .int .i64 0) (by go_simp) (by go_simp), carryF h (v := .int .i64 0) (by go_simp) (by go_simp), carryF h (v := .int .i64 0) (by go_simp) (by go_simp), Nat.lt_of_lt_of_le (by simp) h.size⟩

set_option maxRecDepth 100000 in
set_option maxHeartbeats 1600000 in
theorem num_err {w : World} {B : Nat} {s : ByteArray} {a st : Nat} {l : List Tk} (k n m x e : Int) (h : Sc w B s a st l) (ha : a ≤ s.size) (hst : st ≤ numEnd s a) (hs : s.size < 4611686018427387904) (hx1 : seesV 4 s (numEnd s a) = false) (hx2 : (byt s (numEnd s a) == 46) = false) (HNb : Hid (∀ w', Below B w w' → Calls Tryd.prog 51 #[.string (s.extract a (upTo isDig s a)), .string (s.extract st (numEnd s a))] w' fun r w'' => r = .returned (.tuple #[.agg #[.int .i64 k, .string ⟨#[]⟩, .int .i64 n, .int .i64 m, .int .i64 x, .int .i64 0, .int .i64 0], .int .i64 e]) ∧ Below w'.heap.size w' w'')) (he : (e == 0) = false) :
    Calls Tryd.prog 40 #[.pointer (some ⟨B, 0, none⟩)] w fun r w' => r = .panicked (failP e st) ∧ Below B w w' := by
  obtain ⟨v, hp, ho⟩ := h
  have hB := hp.lt
  have HP := Lib.hid hp
  have HO := Lib.hid ho
  have HX1 := Lib.hid hx1
  have HX2 := Lib.hid hx2
  clear hp ho hx1 hx2
  go_enter Tryd.func40, Tryd.ntmps40
  go_wp2_with fail
  refine (take_any 2 (by unfold okCls; simp) HP.out ha hs).mono ?_
  rintro r w1 ⟨rfl, hg1, hp1⟩
  rw [show inCls 2 = isDig from rfl] at hp1 ⊢
  have G1 := Lib.hid hg1
  have P1 := Lib.hid hp1
  clear hg1 hp1
  go_wp2_with fail
  refine (passFraction_any P1.out (upTo_le ha) hs).mono ?_
  rintro r w2 ⟨rfl, hg2, hp2⟩
  have G2 := Lib.hid (grown_and G1.out hg2 (fun j e => .inr e))
  have P2 := Lib.hid hp2
  clear hg2 hp2
  go_wp2_with fail
  refine (passExponent_any P2.out (fracEnd_le (upTo_le ha)) hs).mono ?_
  rintro r w3 ⟨rfl, hg3, hp3⟩
  have G3 := Lib.hid (grown_and G2.out hg3 (fun j e => .inr e))
  have P3 := Lib.hid (show Pos w3 B 49 s (numEnd s a) [.int .i64 st, v] from hp3)
  clear hg3 hp3
  have hle := numEnd_le ha
  obtain ⟨z, hz⟩ : ∃ z, numEnd s a = z := ⟨_, rfl⟩
  obtain ⟨wh, hwh⟩ : ∃ y, s.extract a (upTo isDig s a) = y := ⟨_, rfl⟩
  rw [hz] at P3 HX1 HX2 HNb hle hst
  rw [hwh] at HNb ⊢
  have HZ := Lib.hid hz
  have HWH := Lib.hid hwh
  clear hz hwh
  go_wp2_with fail
  refine (sees_any 4 (by unfold okCls; simp) P3.out hle).mono ?_
  rintro r w4 ⟨rfl, i1, rfl⟩
  rw [HX1.out]
  go_wp2_with fail
  refine (has_any 46 (by decide) (P3.out.drewN i1) hle).mono ?_
  rintro r w5 ⟨rfl, i2, rfl⟩
  rw [HX2.out]
  have H1 := Lib.hid (Sc.moved (grown_drewN (grown_drewN G3.out i1) i2) HO.out ((P3.out.drewN i1).drewN i2))
  have HB := Lib.hid (below_grown (Nat.le_of_lt hB) (grown_drewN (grown_drewN G3.out i1) i2))
  generalize (w3.drewN i1).drewN i2 = W5 at *
  obtain ⟨c0, c1, c2, f2, hB5, _, _⟩ := H1.out.facts
  have hst2 : (st : Int) ≤ (z : Int) := by omega
  have hz2 : (z : Int) ≤ (s.size : Int) := by omega
  clear P1 P2 P3 G1 G2 G3 HP HO
  have hBI : B ≤ W5.heap.size := Nat.le_of_lt hB5
  have K0 := Lib.hid (Below.refl W5.heap.size W5)
  have SK := Lib.hid (show ∀ wx, Below W5.heap.size W5 wx → wx.cell? ⟨B, 0, none⟩ = some (.string s) ∧ wx.cell? ⟨B, 1, none⟩ = some (.int .i64 z) ∧ wx.cell? ⟨B, 2, none⟩ = some (.int .i64 st) ∧ W5.heap.size ≤ wx.heap.size ∧ Below W5.heap.size W5 wx from fun wx h => ⟨carry h c0, carry h c1, carry h c2, h.size, h⟩)
  go_upto_region 5 with fail
  go_region_held3 (fun wx => wx.cell? ⟨B, 0, none⟩ = some (.string s) ∧ wx.cell? ⟨B, 1, none⟩ = some (.int .i64 z) ∧ wx.cell? ⟨B, 2, none⟩ = some (.int .i64 st) ∧ W5.heap.size ≤ wx.heap.size ∧ Below W5.heap.size W5 wx) (((try go_split_ands); exact SK.out _ (by repeat (first | with_reducible assumption | with_reducible exact K0.out | with_reducible refine Below.drew ?_ | with_reducible refine Below.setCell ?_ (by first | with_reducible exact Nat.le_refl _ | with_reducible assumption | (simp; done) | (simp <;> omega) | (have := hbq.size; simp at this ⊢; omega)) _ | with_reducible refine Below.alloc ?_ (by first | with_reducible exact Nat.le_refl _ | with_reducible assumption | (simp; done) | (simp <;> omega) | (have := hbq.size; simp at this ⊢; omega)) _))))
    ((go_at_call 51; ((with_reducible refine (HNb.out _ (HB.out.trans (Below.mono (by first | with_reducible assumption | (rename _ ∧ _ ∧ _ ∧ _ ∧ Below W5.heap.size W5 _ => hS9; exact hS9.2.2.2.2) | with_reducible exact K0.out.drew) hBI))).mono ?_); rintro r wq ⟨rfl, hbq⟩; have hbw : Below W5.heap.size W5 wq := (by first | exact K0.out.drew.trans hbq | exact (K0.out.alloc (Nat.le_refl _) _).drew.trans (hbq.mono (by simp))); have hzw : W5.heap.size ≤ wq.heap.size := hbw.size; try (have qq := carry_new hbq; obtain ⟨q0, q1, q2, q3, q4, q5, q6, t0, t1, t2, t3, t4, t5, t6, t7⟩ := qq))))
  all_goals (rename _ ∧ _ ∧ _ ∧ _ ∧ Below W5.heap.size W5 _ => hS; have HBL := Lib.hid hS.2.2.2.2; clear hS)
  all_goals go_wp2_with fail
  all_goals (refine (fail_any e (H1.out.kept HBL.out)).mono ?_; rintro r w' ⟨rfl, rfl⟩)
  all_goals have HF := Lib.hid (HB.out.trans (HBL.out.mono hBI))
  all_goals go_wp2_with fail
  all_goals first | exact ⟨rfl, HF.out⟩ | exact ⟨rfl, rfl, HF.out⟩ | (simp [bodyPost]; exact HF.out) | trace_state

set_option maxRecDepth 100000 in
set_option maxHeartbeats 1600000 in
theorem num_ok {w : World} {B : Nat} {s : ByteArray} {a st : Nat} {l : List Tk} (k n m x e : Int) (h : Sc w B s a st l) (ha : a ≤ s.size) (hst : st ≤ numEnd s a) (hs : s.size < 4611686018427387904) (hx1 : seesV 4 s (numEnd s a) = false) (hx2 : (byt s (numEnd s a) == 46) = false) (HNb : Hid (∀ w', Below B w w' → Calls Tryd.prog 51 #[.string (s.extract a (upTo isDig s a)), .string (s.extract st (numEnd s a))] w' fun r w'' => r = .returned (.tuple #[.agg #[.int .i64 k, .string ⟨#[]⟩, .int .i64 n, .int .i64 m, .int .i64 x, .int .i64 0, .int .i64 0], .int .i64 e]) ∧ Below w'.heap.size w' w'')) (he : e = 0) (hl : l.length < 131072) :
    Calls Tryd.prog 40 #[.pointer (some ⟨B, 0, none⟩)] w fun r w' => r = .returned (.tuple #[]) ∧ Below B w w' ∧ Sc w' B s (numEnd s a) st (l ++ [(⟨k, ⟨#[]⟩, n, m, x, st, numEnd s a⟩ : Tk)]) := by
  obtain ⟨v, hp, ho⟩ := h
  have hB := hp.lt
  have HP := Lib.hid hp
  have HO := Lib.hid ho
  have HX1 := Lib.hid hx1
  have HX2 := Lib.hid hx2
  clear hp ho hx1 hx2
  go_enter Tryd.func40, Tryd.ntmps40
  go_wp2_with fail
  refine (take_any 2 (by unfold okCls; simp) HP.out ha hs).mono ?_
  rintro r w1 ⟨rfl, hg1, hp1⟩
  rw [show inCls 2 = isDig from rfl] at hp1 ⊢
  have G1 := Lib.hid hg1
  have P1 := Lib.hid hp1
  clear hg1 hp1
  go_wp2_with fail
  refine (passFraction_any P1.out (upTo_le ha) hs).mono ?_
  rintro r w2 ⟨rfl, hg2, hp2⟩
  have G2 := Lib.hid (grown_and G1.out hg2 (fun j e => .inr e))
  have P2 := Lib.hid hp2
  clear hg2 hp2
  go_wp2_with fail
  refine (passExponent_any P2.out (fracEnd_le (upTo_le ha)) hs).mono ?_
  rintro r w3 ⟨rfl, hg3, hp3⟩
  have G3 := Lib.hid (grown_and G2.out hg3 (fun j e => .inr e))
  have P3 := Lib.hid (show Pos w3 B 49 s (numEnd s a) [.int .i64 st, v] from hp3)
  clear hg3 hp3
  have hle := numEnd_le ha
  obtain ⟨z, hz⟩ : ∃ z, numEnd s a = z := ⟨_, rfl⟩
  obtain ⟨wh, hwh⟩ : ∃ y, s.extract a (upTo isDig s a) = y := ⟨_, rfl⟩
  rw [hz] at P3 HX1 HX2 HNb hle hst
  rw [hwh] at HNb ⊢
  have HZ := Lib.hid hz
  have HWH := Lib.hid hwh
  clear hz hwh
  go_wp2_with fail
  refine (sees_any 4 (by unfold okCls; simp) P3.out hle).mono ?_
  rintro r w4 ⟨rfl, i1, rfl⟩
  rw [HX1.out]
  go_wp2_with fail
  refine (has_any 46 (by decide) (P3.out.drewN i1) hle).mono ?_
  rintro r w5 ⟨rfl, i2, rfl⟩
  rw [HX2.out]
  have H1 := Lib.hid (Sc.moved (grown_drewN (grown_drewN G3.out i1) i2) HO.out ((P3.out.drewN i1).drewN i2))
  have HB := Lib.hid (below_grown (Nat.le_of_lt hB) (grown_drewN (grown_drewN G3.out i1) i2))
  generalize (w3.drewN i1).drewN i2 = W5 at *
  obtain ⟨c0, c1, c2, f2, hB5, _, _⟩ := H1.out.facts
  have hst2 : (st : Int) ≤ (z : Int) := by omega
  have hz2 : (z : Int) ≤ (s.size : Int) := by omega
  clear P1 P2 P3 G1 G2 G3 HP HO
  have hBI : B ≤ W5.heap.size := Nat.le_of_lt hB5
  have K0 := Lib.hid (Below.refl W5.heap.size W5)
  have SK := Lib.hid (show ∀ wx, Below W5.heap.size W5 wx → wx.cell? ⟨B, 0, none⟩ = some (.string s) ∧ wx.cell? ⟨B, 1, none⟩ = some (.int .i64 z) ∧ wx.cell? ⟨B, 2, none⟩ = some (.int .i64 st) ∧ W5.heap.size ≤ wx.heap.size ∧ Below W5.heap.size W5 wx from fun wx h => ⟨carry h c0, carry h c1, carry h c2, h.size, h⟩)
  go_upto_region 5 with fail
  go_region_held3 (fun wx => wx.cell? ⟨B, 0, none⟩ = some (.string s) ∧ wx.cell? ⟨B, 1, none⟩ = some (.int .i64 z) ∧ wx.cell? ⟨B, 2, none⟩ = some (.int .i64 st) ∧ W5.heap.size ≤ wx.heap.size ∧ Below W5.heap.size W5 wx) (((try go_split_ands); exact SK.out _ (by repeat (first | with_reducible assumption | with_reducible exact K0.out | with_reducible refine Below.drew ?_ | with_reducible refine Below.setCell ?_ (by first | with_reducible exact Nat.le_refl _ | with_reducible assumption | (simp; done) | (simp <;> omega) | (have := hbq.size; simp at this ⊢; omega)) _ | with_reducible refine Below.alloc ?_ (by first | with_reducible exact Nat.le_refl _ | with_reducible assumption | (simp; done) | (simp <;> omega) | (have := hbq.size; simp at this ⊢; omega)) _))))
    ((go_at_call 51; ((with_reducible refine (HNb.out _ (HB.out.trans (Below.mono (by first | with_reducible assumption | (rename _ ∧ _ ∧ _ ∧ _ ∧ Below W5.heap.size W5 _ => hS9; exact hS9.2.2.2.2) | with_reducible exact K0.out.drew) hBI))).mono ?_); rintro r wq ⟨rfl, hbq⟩; have hbw : Below W5.heap.size W5 wq := (by first | exact K0.out.drew.trans hbq | exact (K0.out.alloc (Nat.le_refl _) _).drew.trans (hbq.mono (by simp))); have hzw : W5.heap.size ≤ wq.heap.size := hbw.size; try (have qq := carry_new hbq; obtain ⟨q0, q1, q2, q3, q4, q5, q6, t0, t1, t2, t3, t4, t5, t6, t7⟩ := qq))))
  all_goals (rename _ ∧ _ ∧ _ ∧ _ ∧ Below W5.heap.size W5 _ => hS; have HBL := Lib.hid hS.2.2.2.2; clear hS)
  all_goals subst he
  all_goals go_wp2_with fail
  all_goals (refine (add_any (⟨k, ⟨#[]⟩, n, m, x, 0, 0⟩ : Tk) (H1.out.kept HBL.out) hl).mono ?_; rintro r w7 ⟨rfl, hb7, hs7⟩)
  all_goals have HF := Lib.hid ((HB.out.trans (HBL.out.mono hBI)).trans hb7)
  all_goals have HS := Lib.hid hs7
  all_goals clear hb7 hs7
  all_goals go_wp2_with fail
  all_goals go_end0
  all_goals exact ⟨rfl, HF.out, by rw [HZ.out]; exact HS.out⟩

end Go.Proofs.YtnmifeiokhpcfaaDoor
