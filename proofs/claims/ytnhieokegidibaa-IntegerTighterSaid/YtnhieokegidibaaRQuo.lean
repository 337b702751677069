/-
  THE DOCUMENT'S OWN ANSWER ON SPANS OF QUOTIENTS: the walk.
-/
import Derived.Test.YtnhieokegidibaaRQuoM
import Derived.Outline
import Derived.LoopTactic

namespace Go.Proofs.Ytnhieokegidibaa
open Go.RowKit

theorem rin_is {n l u : Int} {b : Bool} (h : (decide (l ≤ n) && decide (n ≤ u)) = b) (w : World) :
    Calls Try.prog 23 #[.int .i64 n, spanV l u] w fun e w' => e = .returned (.bool b) ∧ Below w.heap.size w w' := by
  subst h
  exact rin_any n l u w

/-- what lies in memory after k divisors -/
def QSt (B : Nat) (la ua lb ub : Int) (w : World) (k : Nat) (wr : World) : Prop :=
  wr.cell? ⟨w.heap.size, 0, none⟩ = some (.int .i64 la) ∧ wr.cell? ⟨w.heap.size, 1, none⟩ = some (.int .i64 ua) ∧ wr.cell? ⟨w.heap.size + 1, 0, none⟩ = some (.int .i64 lb) ∧ wr.cell? ⟨w.heap.size + 1, 1, none⟩ = some (.int .i64 ub) ∧ wr.cell? ⟨w.heap.size + 1 + 1, 0, none⟩ = some (.int .i64 0) ∧ wr.cell? ⟨w.heap.size + 1 + 1, 1, none⟩ = some (.int .i64 0) ∧ wr.cell? ⟨B + 1, 0, none⟩ = some (.int .i64 lb) ∧ wr.cell? ⟨B + 1, 1, none⟩ = some (.int .i64 ub) ∧ wr.cell? ⟨B + 1, 2, none⟩ = some (.int .i64 1) ∧ wr.cell? ⟨B + 1, 3, none⟩ = some (.int .i64 (-1)) ∧ wr.cell? ⟨B, 0, none⟩ = some (.int .i64 (qLo la ua lb ub k)) ∧ wr.cell? ⟨B, 1, none⟩ = some (.int .i64 (qHi la ua lb ub k)) ∧ wr.frozen? ⟨w.heap.size + 1 + 1, 0, none⟩ = false ∧ wr.frozen? ⟨w.heap.size + 1 + 1, 1, none⟩ = false ∧ wr.frozen? ⟨B, 0, none⟩ = false ∧ wr.frozen? ⟨B, 1, none⟩ = false ∧ w.heap.size < wr.heap.size ∧ w.heap.size + 1 < wr.heap.size ∧ w.heap.size + 1 + 1 < wr.heap.size ∧ B < wr.heap.size ∧ B + 1 < wr.heap.size ∧ Below w.heap.size w wr

theorem rvspan_is {l u : Int} {b : Bool} (h : vsp l u = b) (w : World) :
    Calls Try.prog 10 #[spanV l u] w fun e w' => e = .returned (.bool b) ∧ Below w.heap.size w w' := by
  subst h
  exact rvspan_any l u w

set_option maxRecDepth 100000 in
set_option maxHeartbeats 8000000 in
theorem rsquo_bad1 (la ua lb ub : Int) (w : World) (HVA : Hid (vsp la ua = false)) (H : Hid (qL la ua lb ub = 0 ∧ qH la ua lb ub = 0 ∧ qM la ua lb ub = false ∧ qE la ua lb ub = 1)) :
    Calls Try.prog 18 #[spanV la ua, spanV lb ub] w fun e w' => e = .returned (opV (qL la ua lb ub) (qH la ua lb ub) (qM la ua lb ub) (qE la ua lb ub)) ∧ Below w.heap.size w w' := by
  go_enter Try.func18, Try.ntmps18
  go_wp2_with fail
  refine (rvspan_is HVA.out _).mono ?_
  rintro e w1 ⟨rfl, hb1⟩
  have a0 : w1.cell? ⟨w.heap.size, 0, none⟩ = some (.int .i64 la) := carry hb1 (by go_simp)
  have a1 : w1.cell? ⟨w.heap.size, 1, none⟩ = some (.int .i64 ua) := carry hb1 (by go_simp)
  have b0 : w1.cell? ⟨w.heap.size + 1, 0, none⟩ = some (.int .i64 lb) := carry hb1 (by go_simp)
  have b1 : w1.cell? ⟨w.heap.size + 1, 1, none⟩ = some (.int .i64 ub) := carry hb1 (by go_simp)
  have r0 : w1.cell? ⟨w.heap.size + 1 + 1, 0, none⟩ = some (.int .i64 0) := carry hb1 (by go_simp)
  have r1 : w1.cell? ⟨w.heap.size + 1 + 1, 1, none⟩ = some (.int .i64 0) := carry hb1 (by go_simp)
  have f0 : w1.frozen? ⟨w.heap.size + 1 + 1, 0, none⟩ = false := carryF hb1 (v := .int .i64 0) (by go_simp) (by go_simp)
  have f1 : w1.frozen? ⟨w.heap.size + 1 + 1, 1, none⟩ = false := carryF hb1 (v := .int .i64 0) (by go_simp) (by go_simp)
  have hz10 : w.heap.size < w1.heap.size := by have := hb1.size; simp at this; omega
  have hz11 : w.heap.size + 1 < w1.heap.size := by have := hb1.size; simp at this; omega
  have hz1 : w.heap.size + 1 + 1 < w1.heap.size := by have := hb1.size; simp at this; omega
  have HBB := Lib.hid ((by repeat (first | exact Below.refl _ _ | refine Below.alloc ?_ (by simp <;> omega) _) : Below w.heap.size w _).trans (hb1.mono (by simp <;> omega)))
  clear hb1
  go_wp2_with fail
  refine bodyPost_ret (v := opV 0 0 false 1) ?_ rfl ⟨by rw [H.out.1, H.out.2.1, H.out.2.2.1, H.out.2.2.2], ?_⟩
  · simp [results, Try.results18, go_sem, r0, r1]
  · exact (HBB.out.setCell (p := ⟨w.heap.size + 1 + 1, 0, none⟩) (by show w.heap.size ≤ w.heap.size + 1 + 1; omega) _).setCell (p := ⟨w.heap.size + 1 + 1, 1, none⟩) (by show w.heap.size ≤ w.heap.size + 1 + 1; omega) _

set_option maxRecDepth 100000 in
set_option maxHeartbeats 8000000 in
theorem rsquo_bad2 (la ua lb ub : Int) (w : World) (HVA : Hid (vsp la ua = true)) (HVB : Hid (vsp lb ub = false)) (H : Hid (qL la ua lb ub = 0 ∧ qH la ua lb ub = 0 ∧ qM la ua lb ub = false ∧ qE la ua lb ub = 1)) :
    Calls Try.prog 18 #[spanV la ua, spanV lb ub] w fun e w' => e = .returned (opV (qL la ua lb ub) (qH la ua lb ub) (qM la ua lb ub) (qE la ua lb ub)) ∧ Below w.heap.size w w' := by
  go_enter Try.func18, Try.ntmps18
  go_wp2_with fail
  refine (rvspan_is HVA.out _).mono ?_
  rintro e w1 ⟨rfl, hb1⟩
  have a0 : w1.cell? ⟨w.heap.size, 0, none⟩ = some (.int .i64 la) := carry hb1 (by go_simp)
  have a1 : w1.cell? ⟨w.heap.size, 1, none⟩ = some (.int .i64 ua) := carry hb1 (by go_simp)
  have b0 : w1.cell? ⟨w.heap.size + 1, 0, none⟩ = some (.int .i64 lb) := carry hb1 (by go_simp)
  have b1 : w1.cell? ⟨w.heap.size + 1, 1, none⟩ = some (.int .i64 ub) := carry hb1 (by go_simp)
  have r0 : w1.cell? ⟨w.heap.size + 1 + 1, 0, none⟩ = some (.int .i64 0) := carry hb1 (by go_simp)
  have r1 : w1.cell? ⟨w.heap.size + 1 + 1, 1, none⟩ = some (.int .i64 0) := carry hb1 (by go_simp)
  have f0 : w1.frozen? ⟨w.heap.size + 1 + 1, 0, none⟩ = false := carryF hb1 (v := .int .i64 0) (by go_simp) (by go_simp)
  have f1 : w1.frozen? ⟨w.heap.size + 1 + 1, 1, none⟩ = false := carryF hb1 (v := .int .i64 0) (by go_simp) (by go_simp)
  have hz10 : w.heap.size < w1.heap.size := by have := hb1.size; simp at this; omega
  have hz11 : w.heap.size + 1 < w1.heap.size := by have := hb1.size; simp at this; omega
  have hz1 : w.heap.size + 1 + 1 < w1.heap.size := by have := hb1.size; simp at this; omega
  have HBB := Lib.hid ((by repeat (first | exact Below.refl _ _ | refine Below.alloc ?_ (by simp <;> omega) _) : Below w.heap.size w _).trans (hb1.mono (by simp <;> omega)))
  clear hb1
  go_wp2_with fail
  refine (rvspan_is HVB.out _).mono ?_
  rintro e w2 ⟨rfl, hb2⟩
  have a0 : w2.cell? ⟨w.heap.size, 0, none⟩ = some (.int .i64 la) := carry hb2 a0
  have a1 : w2.cell? ⟨w.heap.size, 1, none⟩ = some (.int .i64 ua) := carry hb2 a1
  have b0 : w2.cell? ⟨w.heap.size + 1, 0, none⟩ = some (.int .i64 lb) := carry hb2 b0
  have b1 : w2.cell? ⟨w.heap.size + 1, 1, none⟩ = some (.int .i64 ub) := carry hb2 b1
  have f0 : w2.frozen? ⟨w.heap.size + 1 + 1, 0, none⟩ = false := carryF hb2 r0 f0
  have f1 : w2.frozen? ⟨w.heap.size + 1 + 1, 1, none⟩ = false := carryF hb2 r1 f1
  have r0 : w2.cell? ⟨w.heap.size + 1 + 1, 0, none⟩ = some (.int .i64 0) := carry hb2 r0
  have r1 : w2.cell? ⟨w.heap.size + 1 + 1, 1, none⟩ = some (.int .i64 0) := carry hb2 r1
  have hz20 : w.heap.size < w2.heap.size := by have := hb2.size; omega
  have hz21 : w.heap.size + 1 < w2.heap.size := by have := hb2.size; omega
  have hz2 : w.heap.size + 1 + 1 < w2.heap.size := by have := hb2.size; omega
  have HBB := Lib.hid (HBB.out.trans (hb2.mono (by omega)))
  clear hb2
  go_wp2_with fail
  refine bodyPost_ret (v := opV 0 0 false 1) ?_ rfl ⟨by rw [H.out.1, H.out.2.1, H.out.2.2.1, H.out.2.2.2], ?_⟩
  · simp [results, Try.results18, go_sem, r0, r1]
  · exact (HBB.out.setCell (p := ⟨w.heap.size + 1 + 1, 0, none⟩) (by show w.heap.size ≤ w.heap.size + 1 + 1; omega) _).setCell (p := ⟨w.heap.size + 1 + 1, 1, none⟩) (by show w.heap.size ≤ w.heap.size + 1 + 1; omega) _

set_option maxRecDepth 100000 in
set_option maxHeartbeats 8000000 in
theorem rsquo_zero (la ua lb ub : Int) (w : World) (HVA : Hid (vsp la ua = true)) (HVB : Hid (vsp lb ub = true)) (h1 : (lb == 0) = true) (h2 : (ub == 0) = true) (H : Hid (qL la ua lb ub = 0 ∧ qH la ua lb ub = 0 ∧ qM la ua lb ub = false ∧ qE la ua lb ub = 5)) :
    Calls Try.prog 18 #[spanV la ua, spanV lb ub] w fun e w' => e = .returned (opV (qL la ua lb ub) (qH la ua lb ub) (qM la ua lb ub) (qE la ua lb ub)) ∧ Below w.heap.size w w' := by
  go_enter Try.func18, Try.ntmps18
  go_wp2_with fail
  refine (rvspan_is HVA.out _).mono ?_
  rintro e w1 ⟨rfl, hb1⟩
  have a0 : w1.cell? ⟨w.heap.size, 0, none⟩ = some (.int .i64 la) := carry hb1 (by go_simp)
  have a1 : w1.cell? ⟨w.heap.size, 1, none⟩ = some (.int .i64 ua) := carry hb1 (by go_simp)
  have b0 : w1.cell? ⟨w.heap.size + 1, 0, none⟩ = some (.int .i64 lb) := carry hb1 (by go_simp)
  have b1 : w1.cell? ⟨w.heap.size + 1, 1, none⟩ = some (.int .i64 ub) := carry hb1 (by go_simp)
  have r0 : w1.cell? ⟨w.heap.size + 1 + 1, 0, none⟩ = some (.int .i64 0) := carry hb1 (by go_simp)
  have r1 : w1.cell? ⟨w.heap.size + 1 + 1, 1, none⟩ = some (.int .i64 0) := carry hb1 (by go_simp)
  have f0 : w1.frozen? ⟨w.heap.size + 1 + 1, 0, none⟩ = false := carryF hb1 (v := .int .i64 0) (by go_simp) (by go_simp)
  have f1 : w1.frozen? ⟨w.heap.size + 1 + 1, 1, none⟩ = false := carryF hb1 (v := .int .i64 0) (by go_simp) (by go_simp)
  have hz10 : w.heap.size < w1.heap.size := by have := hb1.size; simp at this; omega
  have hz11 : w.heap.size + 1 < w1.heap.size := by have := hb1.size; simp at this; omega
  have hz1 : w.heap.size + 1 + 1 < w1.heap.size := by have := hb1.size; simp at this; omega
  have HBB := Lib.hid ((by repeat (first | exact Below.refl _ _ | refine Below.alloc ?_ (by simp <;> omega) _) : Below w.heap.size w _).trans (hb1.mono (by simp <;> omega)))
  clear hb1
  go_wp2_with fail
  refine (rvspan_is HVB.out _).mono ?_
  rintro e w2 ⟨rfl, hb2⟩
  have a0 : w2.cell? ⟨w.heap.size, 0, none⟩ = some (.int .i64 la) := carry hb2 a0
  have a1 : w2.cell? ⟨w.heap.size, 1, none⟩ = some (.int .i64 ua) := carry hb2 a1
  have b0 : w2.cell? ⟨w.heap.size + 1, 0, none⟩ = some (.int .i64 lb) := carry hb2 b0
  have b1 : w2.cell? ⟨w.heap.size + 1, 1, none⟩ = some (.int .i64 ub) := carry hb2 b1
  have f0 : w2.frozen? ⟨w.heap.size + 1 + 1, 0, none⟩ = false := carryF hb2 r0 f0
  have f1 : w2.frozen? ⟨w.heap.size + 1 + 1, 1, none⟩ = false := carryF hb2 r1 f1
  have r0 : w2.cell? ⟨w.heap.size + 1 + 1, 0, none⟩ = some (.int .i64 0) := carry hb2 r0
  have r1 : w2.cell? ⟨w.heap.size + 1 + 1, 1, none⟩ = some (.int .i64 0) := carry hb2 r1
  have hz20 : w.heap.size < w2.heap.size := by have := hb2.size; omega
  have hz21 : w.heap.size + 1 < w2.heap.size := by have := hb2.size; omega
  have hz2 : w.heap.size + 1 + 1 < w2.heap.size := by have := hb2.size; omega
  have HBB := Lib.hid (HBB.out.trans (hb2.mono (by omega)))
  clear hb2
  go_wp2_with fail
  refine bodyPost_ret (v := opV 0 0 false 5) ?_ rfl ⟨by rw [H.out.1, H.out.2.1, H.out.2.2.1, H.out.2.2.2], ?_⟩
  · simp [results, Try.results18, go_sem, r0, r1]
  · exact (HBB.out.setCell (p := ⟨w.heap.size + 1 + 1, 0, none⟩) (by show w.heap.size ≤ w.heap.size + 1 + 1; omega) _).setCell (p := ⟨w.heap.size + 1 + 1, 1, none⟩) (by show w.heap.size ≤ w.heap.size + 1 + 1; omega) _

set_option maxRecDepth 100000 in
set_option maxHeartbeats 8000000 in
theorem rsquo_go1 (la ua lb ub : Int) (w : World) (HVA : Hid (vsp la ua = true)) (HVB : Hid (vsp lb ub = true)) (h1 : (lb == 0) = false) (H : Hid (qL la ua lb ub = qLo la ua lb ub 4 ∧ qH la ua lb ub = qHi la ua lb ub 4 ∧ qM la ua lb ub = (decide (lb ≤ 0) && decide (0 ≤ ub)) ∧ qE la ua lb ub = 0)) :
    Calls Try.prog 18 #[spanV la ua, spanV lb ub] w fun e w' => e = .returned (opV (qL la ua lb ub) (qH la ua lb ub) (qM la ua lb ub) (qE la ua lb ub)) ∧ Below w.heap.size w w' := by
  have hmn : ∀ a b c w, Sem.run Try.prog (Builtin.min_ #[3, 3, 3] 3 #[.int .i64 a, .int .i64 b, .int .i64 c]) w = .ok (.int .i64 (mn (mn a b) c)) w := fun a b c w => by kernel_rfl
  have hmx : ∀ a b c w, Sem.run Try.prog (Builtin.max_ #[3, 3, 3] 3 #[.int .i64 a, .int .i64 b, .int .i64 c]) w = .ok (.int .i64 (mx (mx a b) c)) w := fun a b c w => by kernel_rfl
  have ⟨⟨v1, v2⟩, ⟨v3, v4⟩, v5⟩ := vsp_iff.1 HVA.out
  have ⟨⟨v6, v7⟩, ⟨v8, v9⟩, v10⟩ := vsp_iff.1 HVB.out
  go_enter Try.func18, Try.ntmps18
  go_wp2_with fail
  refine (rvspan_is HVA.out _).mono ?_
  rintro e w1 ⟨rfl, hb1⟩
  have a0 : w1.cell? ⟨w.heap.size, 0, none⟩ = some (.int .i64 la) := carry hb1 (by go_simp)
  have a1 : w1.cell? ⟨w.heap.size, 1, none⟩ = some (.int .i64 ua) := carry hb1 (by go_simp)
  have b0 : w1.cell? ⟨w.heap.size + 1, 0, none⟩ = some (.int .i64 lb) := carry hb1 (by go_simp)
  have b1 : w1.cell? ⟨w.heap.size + 1, 1, none⟩ = some (.int .i64 ub) := carry hb1 (by go_simp)
  have r0 : w1.cell? ⟨w.heap.size + 1 + 1, 0, none⟩ = some (.int .i64 0) := carry hb1 (by go_simp)
  have r1 : w1.cell? ⟨w.heap.size + 1 + 1, 1, none⟩ = some (.int .i64 0) := carry hb1 (by go_simp)
  have f0 : w1.frozen? ⟨w.heap.size + 1 + 1, 0, none⟩ = false := carryF hb1 (v := .int .i64 0) (by go_simp) (by go_simp)
  have f1 : w1.frozen? ⟨w.heap.size + 1 + 1, 1, none⟩ = false := carryF hb1 (v := .int .i64 0) (by go_simp) (by go_simp)
  have hz10 : w.heap.size < w1.heap.size := by have := hb1.size; simp at this; omega
  have hz11 : w.heap.size + 1 < w1.heap.size := by have := hb1.size; simp at this; omega
  have hz1 : w.heap.size + 1 + 1 < w1.heap.size := by have := hb1.size; simp at this; omega
  have HBB := Lib.hid ((by repeat (first | exact Below.refl _ _ | refine Below.alloc ?_ (by simp <;> omega) _) : Below w.heap.size w _).trans (hb1.mono (by simp <;> omega)))
  clear hb1
  go_wp2_with fail
  refine (rvspan_is HVB.out _).mono ?_
  rintro e w2 ⟨rfl, hb2⟩
  have a0 : w2.cell? ⟨w.heap.size, 0, none⟩ = some (.int .i64 la) := carry hb2 a0
  have a1 : w2.cell? ⟨w.heap.size, 1, none⟩ = some (.int .i64 ua) := carry hb2 a1
  have b0 : w2.cell? ⟨w.heap.size + 1, 0, none⟩ = some (.int .i64 lb) := carry hb2 b0
  have b1 : w2.cell? ⟨w.heap.size + 1, 1, none⟩ = some (.int .i64 ub) := carry hb2 b1
  have f0 : w2.frozen? ⟨w.heap.size + 1 + 1, 0, none⟩ = false := carryF hb2 r0 f0
  have f1 : w2.frozen? ⟨w.heap.size + 1 + 1, 1, none⟩ = false := carryF hb2 r1 f1
  have r0 : w2.cell? ⟨w.heap.size + 1 + 1, 0, none⟩ = some (.int .i64 0) := carry hb2 r0
  have r1 : w2.cell? ⟨w.heap.size + 1 + 1, 1, none⟩ = some (.int .i64 0) := carry hb2 r1
  have hz20 : w.heap.size < w2.heap.size := by have := hb2.size; omega
  have hz21 : w.heap.size + 1 < w2.heap.size := by have := hb2.size; omega
  have hz2 : w.heap.size + 1 + 1 < w2.heap.size := by have := hb2.size; omega
  have HBB := Lib.hid (HBB.out.trans (hb2.mono (by omega)))
  clear hb2
  go_upto_region 7 with fail
  go_wp2_with fail
  clear h1
  go_loopw [9] (fun i wr => ∃ k : Nat, k ≤ 4 ∧ i = .int .i64 k ∧ QSt w2.heap.size la ua lb ub w k wr) (fun i _ => 4 - (intOf i).toNat)
  case atStart =>
    refine ⟨0, by omega, rfl, ?_⟩
    unfold QSt
    exact ⟨by first | assumption | (go_simp; done) | (go_simp; rfl), by first | assumption | (go_simp; done) | (go_simp; rfl), by first | assumption | (go_simp; done) | (go_simp; rfl), by first | assumption | (go_simp; done) | (go_simp; rfl), by first | assumption | (go_simp; done) | (go_simp; rfl), by first | assumption | (go_simp; done) | (go_simp; rfl), by first | assumption | (go_simp; done) | (go_simp; rfl), by first | assumption | (go_simp; done) | (go_simp; rfl), by first | assumption | (go_simp; done) | (go_simp; rfl), by first | assumption | (go_simp; done) | (go_simp; rfl), by first | assumption | (go_simp; done) | (go_simp; rfl), by first | assumption | (go_simp; done) | (go_simp; rfl), by first | assumption | (go_simp; done) | (go_simp; rfl), by first | assumption | (go_simp; done) | (go_simp; rfl), by first | assumption | (go_simp; done) | (go_simp; rfl), by first | assumption | (go_simp; done) | (go_simp; rfl), by first | assumption | (simp; done) | (simp; assumption) | (simp; omega), by first | assumption | (simp; done) | (simp; assumption) | (simp; omega), by first | assumption | (simp; done) | (simp; assumption) | (simp; omega), by first | assumption | (simp; done) | (simp; assumption) | (simp; omega), by first | assumption | (simp; done) | (simp; assumption) | (simp; omega), by repeat (first | assumption | refine Below.trans ?_ (Go.Joins.below_draws _ _ _) | exact HBB.out | refine Below.alloc ?_ (by first | omega | (simp; done) | (simp; omega)) _ | refine Below.drew ?_ | refine Below.setCell ?_ (by first | omega | (simp; done) | (simp; omega)) _)⟩
  case round =>
    obtain ⟨k, hk, rfl, hS⟩ := hrel
    obtain ⟨a0, a1, b0, b1, r0, r1, y0, y1, y2, y3, o0, o1, f0, f1, o0f, o1f, z0, z1, z2, z3, z4, hBq⟩ := hS
    by_cases hlt : k < 4
    · obtain ⟨D, hD, yk⟩ : ∃ D, D = dv lb ub k ∧ wr.cell? ⟨w2.heap.size + 1, k, none⟩ = some (.int .i64 D) := by
        rcases (show k = 0 ∨ k = 1 ∨ k = 2 ∨ k = 3 by omega) with rfl | rfl | rfl | rfl
        · exact ⟨lb, rfl, y0⟩
        · exact ⟨ub, rfl, y1⟩
        · exact ⟨1, rfl, y2⟩
        · exact ⟨-1, rfl, y3⟩
      have HD := Lib.hid hD
      clear hD
      generalize hL : qLo la ua lb ub k = L at *
      generalize hH : qHi la ua lb ub k = Hh at *
      have HLH := Lib.hid (And.intro hL hH)
      clear hL hH
      by_cases h0 : D = 0
      · have HT := Lib.hid (show tkn lb ub (dv lb ub k) = false from by rw [← HD.out, h0]; rfl)
        have h1 : (D == 0) = true := beq_iff_eq.2 h0
        clear h0
        have HK := Lib.hid (show qLo la ua lb ub (k + 1) = L ∧ qHi la ua lb ub (k + 1) = Hh from by
          rw [qLo, qHi, HT.out, HLH.out.1, HLH.out.2]; exact ⟨rfl, rfl⟩)
        go_wp2_with fail
        go_quiet (fail)
        go_wp2_with fail
        go_roundw
        case rel =>
          refine ⟨k + 1, by omega, by go_num, ?_⟩
          unfold QSt
          rw [HK.out.1, HK.out.2]
          exact ⟨by first | assumption | (go_simp; done) | (go_simp; rfl), by first | assumption | (go_simp; done) | (go_simp; rfl), by first | assumption | (go_simp; done) | (go_simp; rfl), by first | assumption | (go_simp; done) | (go_simp; rfl), by first | assumption | (go_simp; done) | (go_simp; rfl), by first | assumption | (go_simp; done) | (go_simp; rfl), by first | assumption | (go_simp; done) | (go_simp; rfl), by first | assumption | (go_simp; done) | (go_simp; rfl), by first | assumption | (go_simp; done) | (go_simp; rfl), by first | assumption | (go_simp; done) | (go_simp; rfl), by first | assumption | (go_simp; done) | (go_simp; rfl), by first | assumption | (go_simp; done) | (go_simp; rfl), by first | assumption | (go_simp; done) | (go_simp; rfl), by first | assumption | (go_simp; done) | (go_simp; rfl), by first | assumption | (go_simp; done) | (go_simp; rfl), by first | assumption | (go_simp; done) | (go_simp; rfl), by first | assumption | (simp; done) | (simp; assumption) | (simp; omega), by first | assumption | (simp; done) | (simp; assumption) | (simp; omega), by first | assumption | (simp; done) | (simp; assumption) | (simp; omega), by first | assumption | (simp; done) | (simp; assumption) | (simp; omega), by first | assumption | (simp; done) | (simp; assumption) | (simp; omega), by repeat (first | assumption | refine Below.trans ?_ (Go.Joins.below_draws _ _ _) | exact HBB.out | refine Below.alloc ?_ (by first | omega | (simp; done) | (simp; omega)) _ | refine Below.drew ?_ | refine Below.setCell ?_ (by first | omega | (simp; done) | (simp; omega)) _)⟩
        case measure => simp [intOf]; omega
      · have h1 : (D == 0) = false := beq_eq_false_iff_ne.2 h0
        cases hin : (decide (lb ≤ D) && decide (D ≤ ub))
        · have HT := Lib.hid (show tkn lb ub (dv lb ub k) = false from by rw [← HD.out]; simp [tkn, hin])
          have hB0 := hBq
          go_upto_region 10 with fail
          go_region_held3 (fun wx => wx.cell? ⟨w.heap.size, 0, none⟩ = some (.int .i64 la) ∧ wx.cell? ⟨w.heap.size, 1, none⟩ = some (.int .i64 ua) ∧ wx.cell? ⟨w.heap.size + 1, 0, none⟩ = some (.int .i64 lb) ∧ wx.cell? ⟨w.heap.size + 1, 1, none⟩ = some (.int .i64 ub) ∧ wx.cell? ⟨w.heap.size + 1 + 1, 0, none⟩ = some (.int .i64 0) ∧ wx.cell? ⟨w.heap.size + 1 + 1, 1, none⟩ = some (.int .i64 0) ∧ wx.cell? ⟨w2.heap.size + 1, 0, none⟩ = some (.int .i64 lb) ∧ wx.cell? ⟨w2.heap.size + 1, 1, none⟩ = some (.int .i64 ub) ∧ wx.cell? ⟨w2.heap.size + 1, 2, none⟩ = some (.int .i64 1) ∧ wx.cell? ⟨w2.heap.size + 1, 3, none⟩ = some (.int .i64 (-1)) ∧ wx.cell? ⟨w2.heap.size, 0, none⟩ = some (.int .i64 L) ∧ wx.cell? ⟨w2.heap.size, 1, none⟩ = some (.int .i64 Hh) ∧ wx.cell? ⟨w2.heap.size + 1, k, none⟩ = some (.int .i64 D) ∧ wx.frozen? ⟨w.heap.size + 1 + 1, 0, none⟩ = false ∧ wx.frozen? ⟨w.heap.size + 1 + 1, 1, none⟩ = false ∧ wx.frozen? ⟨w2.heap.size, 0, none⟩ = false ∧ wx.frozen? ⟨w2.heap.size, 1, none⟩ = false ∧ w.heap.size < wx.heap.size ∧ w.heap.size + 1 < wx.heap.size ∧ w.heap.size + 1 + 1 < wx.heap.size ∧ w2.heap.size < wx.heap.size ∧ w2.heap.size + 1 < wx.heap.size ∧ Below w.heap.size w wx) (first | (go_keep; done) | ((try go_split_ands); (repeat' apply And.intro) <;> first | assumption | (go_simp; done) | (simp only [World.size_alloc, World.size_drew]; omega) | (go_keep; done) | (exact hB0.drew) | (exact (hB0.alloc (by first | omega | (simp <;> omega)) _).drew) | (exact carry hbq (by first | assumption | go_simp)) | (exact carryF hbq (by first | assumption | go_simp) (by first | assumption | go_simp)) | (exact Nat.lt_of_lt_of_le (by first | assumption | (simp <;> omega)) hbq.size) | (simp <;> omega) | (exact Below.trans (by assumption) (hbq.mono (by first | omega | (simp <;> omega))))))
            (first
              | (go_at_call 23; ((with_reducible refine (rin_is hin _).mono ?_); rintro e wq ⟨rfl, hbq⟩)))
          have hS : wq.cell? ⟨w.heap.size, 0, none⟩ = some (.int .i64 la) ∧ wq.cell? ⟨w.heap.size, 1, none⟩ = some (.int .i64 ua) ∧ wq.cell? ⟨w.heap.size + 1, 0, none⟩ = some (.int .i64 lb) ∧ wq.cell? ⟨w.heap.size + 1, 1, none⟩ = some (.int .i64 ub) ∧ wq.cell? ⟨w.heap.size + 1 + 1, 0, none⟩ = some (.int .i64 0) ∧ wq.cell? ⟨w.heap.size + 1 + 1, 1, none⟩ = some (.int .i64 0) ∧ wq.cell? ⟨w2.heap.size + 1, 0, none⟩ = some (.int .i64 lb) ∧ wq.cell? ⟨w2.heap.size + 1, 1, none⟩ = some (.int .i64 ub) ∧ wq.cell? ⟨w2.heap.size + 1, 2, none⟩ = some (.int .i64 1) ∧ wq.cell? ⟨w2.heap.size + 1, 3, none⟩ = some (.int .i64 (-1)) ∧ wq.cell? ⟨w2.heap.size, 0, none⟩ = some (.int .i64 L) ∧ wq.cell? ⟨w2.heap.size, 1, none⟩ = some (.int .i64 Hh) ∧ wq.cell? ⟨w2.heap.size + 1, k, none⟩ = some (.int .i64 D) ∧ wq.frozen? ⟨w.heap.size + 1 + 1, 0, none⟩ = false ∧ wq.frozen? ⟨w.heap.size + 1 + 1, 1, none⟩ = false ∧ wq.frozen? ⟨w2.heap.size, 0, none⟩ = false ∧ wq.frozen? ⟨w2.heap.size, 1, none⟩ = false ∧ w.heap.size < wq.heap.size ∧ w.heap.size + 1 < wq.heap.size ∧ w.heap.size + 1 + 1 < wq.heap.size ∧ w2.heap.size < wq.heap.size ∧ w2.heap.size + 1 < wq.heap.size ∧ Below w.heap.size w wq := by assumption
          clear hB0 a0 a1 b0 b1 r0 r1 y0 y1 y2 y3 o0 o1 yk f0 f1 o0f o1f z0 z1 z2 z3 z4 hBq
          obtain ⟨a0, a1, b0, b1, r0, r1, y0, y1, y2, y3, o0, o1, yk, f0, f1, o0f, o1f, z0, z1, z2, z3, z4, hBq⟩ := hS
          clear hin
          have HK := Lib.hid (show qLo la ua lb ub (k + 1) = L ∧ qHi la ua lb ub (k + 1) = Hh from by
            rw [qLo, qHi, HT.out, HLH.out.1, HLH.out.2]; exact ⟨rfl, rfl⟩)
          go_wp2_with fail
          go_roundw
          case rel =>
            refine ⟨k + 1, by omega, by go_num, ?_⟩
            unfold QSt
            rw [HK.out.1, HK.out.2]
            exact ⟨by first | assumption | (go_simp; done) | (go_simp; rfl), by first | assumption | (go_simp; done) | (go_simp; rfl), by first | assumption | (go_simp; done) | (go_simp; rfl), by first | assumption | (go_simp; done) | (go_simp; rfl), by first | assumption | (go_simp; done) | (go_simp; rfl), by first | assumption | (go_simp; done) | (go_simp; rfl), by first | assumption | (go_simp; done) | (go_simp; rfl), by first | assumption | (go_simp; done) | (go_simp; rfl), by first | assumption | (go_simp; done) | (go_simp; rfl), by first | assumption | (go_simp; done) | (go_simp; rfl), by first | assumption | (go_simp; done) | (go_simp; rfl), by first | assumption | (go_simp; done) | (go_simp; rfl), by first | assumption | (go_simp; done) | (go_simp; rfl), by first | assumption | (go_simp; done) | (go_simp; rfl), by first | assumption | (go_simp; done) | (go_simp; rfl), by first | assumption | (go_simp; done) | (go_simp; rfl), by first | assumption | (simp; done) | (simp; assumption) | (simp; omega), by first | assumption | (simp; done) | (simp; assumption) | (simp; omega), by first | assumption | (simp; done) | (simp; assumption) | (simp; omega), by first | assumption | (simp; done) | (simp; assumption) | (simp; omega), by first | assumption | (simp; done) | (simp; assumption) | (simp; omega), by repeat (first | assumption | refine Below.trans ?_ (Go.Joins.below_draws _ _ _) | exact HBB.out | refine Below.alloc ?_ (by first | omega | (simp; done) | (simp; omega)) _ | refine Below.drew ?_ | refine Below.setCell ?_ (by first | omega | (simp; done) | (simp; omega)) _)⟩
          case measure => simp [intOf]; omega
        · have tb1 := (tdiv_bd (d := D) ⟨v1, v2⟩).1
          have tb2 := (tdiv_bd (d := D) ⟨v1, v2⟩).2
          have tb3 := (tdiv_bd (d := D) ⟨v3, v4⟩).1
          have tb4 := (tdiv_bd (d := D) ⟨v3, v4⟩).2
          have HT := Lib.hid (show tkn lb ub (dv lb ub k) = true from by rw [← HD.out]; simp [tkn, hin, h0])
          have hB0 := hBq
          go_upto_region 10 with fail
          go_region_held3 (fun wx => wx.cell? ⟨w.heap.size, 0, none⟩ = some (.int .i64 la) ∧ wx.cell? ⟨w.heap.size, 1, none⟩ = some (.int .i64 ua) ∧ wx.cell? ⟨w.heap.size + 1, 0, none⟩ = some (.int .i64 lb) ∧ wx.cell? ⟨w.heap.size + 1, 1, none⟩ = some (.int .i64 ub) ∧ wx.cell? ⟨w.heap.size + 1 + 1, 0, none⟩ = some (.int .i64 0) ∧ wx.cell? ⟨w.heap.size + 1 + 1, 1, none⟩ = some (.int .i64 0) ∧ wx.cell? ⟨w2.heap.size + 1, 0, none⟩ = some (.int .i64 lb) ∧ wx.cell? ⟨w2.heap.size + 1, 1, none⟩ = some (.int .i64 ub) ∧ wx.cell? ⟨w2.heap.size + 1, 2, none⟩ = some (.int .i64 1) ∧ wx.cell? ⟨w2.heap.size + 1, 3, none⟩ = some (.int .i64 (-1)) ∧ wx.cell? ⟨w2.heap.size, 0, none⟩ = some (.int .i64 L) ∧ wx.cell? ⟨w2.heap.size, 1, none⟩ = some (.int .i64 Hh) ∧ wx.cell? ⟨w2.heap.size + 1, k, none⟩ = some (.int .i64 D) ∧ wx.frozen? ⟨w.heap.size + 1 + 1, 0, none⟩ = false ∧ wx.frozen? ⟨w.heap.size + 1 + 1, 1, none⟩ = false ∧ wx.frozen? ⟨w2.heap.size, 0, none⟩ = false ∧ wx.frozen? ⟨w2.heap.size, 1, none⟩ = false ∧ w.heap.size < wx.heap.size ∧ w.heap.size + 1 < wx.heap.size ∧ w.heap.size + 1 + 1 < wx.heap.size ∧ w2.heap.size < wx.heap.size ∧ w2.heap.size + 1 < wx.heap.size ∧ Below w.heap.size w wx) (first | (go_keep; done) | ((try go_split_ands); (repeat' apply And.intro) <;> first | assumption | (go_simp; done) | (simp only [World.size_alloc, World.size_drew]; omega) | (go_keep; done) | (exact hB0.drew) | (exact (hB0.alloc (by first | omega | (simp <;> omega)) _).drew) | (exact carry hbq (by first | assumption | go_simp)) | (exact carryF hbq (by first | assumption | go_simp) (by first | assumption | go_simp)) | (exact Nat.lt_of_lt_of_le (by first | assumption | (simp <;> omega)) hbq.size) | (simp <;> omega) | (exact Below.trans (by assumption) (hbq.mono (by first | omega | (simp <;> omega))))))
            (first
              | (go_at_call 23; ((with_reducible refine (rin_is hin _).mono ?_); rintro e wq ⟨rfl, hbq⟩)))
          have hS : wq.cell? ⟨w.heap.size, 0, none⟩ = some (.int .i64 la) ∧ wq.cell? ⟨w.heap.size, 1, none⟩ = some (.int .i64 ua) ∧ wq.cell? ⟨w.heap.size + 1, 0, none⟩ = some (.int .i64 lb) ∧ wq.cell? ⟨w.heap.size + 1, 1, none⟩ = some (.int .i64 ub) ∧ wq.cell? ⟨w.heap.size + 1 + 1, 0, none⟩ = some (.int .i64 0) ∧ wq.cell? ⟨w.heap.size + 1 + 1, 1, none⟩ = some (.int .i64 0) ∧ wq.cell? ⟨w2.heap.size + 1, 0, none⟩ = some (.int .i64 lb) ∧ wq.cell? ⟨w2.heap.size + 1, 1, none⟩ = some (.int .i64 ub) ∧ wq.cell? ⟨w2.heap.size + 1, 2, none⟩ = some (.int .i64 1) ∧ wq.cell? ⟨w2.heap.size + 1, 3, none⟩ = some (.int .i64 (-1)) ∧ wq.cell? ⟨w2.heap.size, 0, none⟩ = some (.int .i64 L) ∧ wq.cell? ⟨w2.heap.size, 1, none⟩ = some (.int .i64 Hh) ∧ wq.cell? ⟨w2.heap.size + 1, k, none⟩ = some (.int .i64 D) ∧ wq.frozen? ⟨w.heap.size + 1 + 1, 0, none⟩ = false ∧ wq.frozen? ⟨w.heap.size + 1 + 1, 1, none⟩ = false ∧ wq.frozen? ⟨w2.heap.size, 0, none⟩ = false ∧ wq.frozen? ⟨w2.heap.size, 1, none⟩ = false ∧ w.heap.size < wq.heap.size ∧ w.heap.size + 1 < wq.heap.size ∧ w.heap.size + 1 + 1 < wq.heap.size ∧ w2.heap.size < wq.heap.size ∧ w2.heap.size + 1 < wq.heap.size ∧ Below w.heap.size w wq := by assumption
          clear hB0 a0 a1 b0 b1 r0 r1 y0 y1 y2 y3 o0 o1 yk f0 f1 o0f o1f z0 z1 z2 z3 z4 hBq
          obtain ⟨a0, a1, b0, b1, r0, r1, y0, y1, y2, y3, o0, o1, yk, f0, f1, o0f, o1f, z0, z1, z2, z3, z4, hBq⟩ := hS
          clear hin
          have HK := Lib.hid (show qLo la ua lb ub (k + 1) = mn (mn L (la.tdiv D)) (ua.tdiv D) ∧ qHi la ua lb ub (k + 1) = mx (mx Hh (la.tdiv D)) (ua.tdiv D) from by
            rw [qLo, qHi, HT.out, HLH.out.1, HLH.out.2, ← HD.out]; exact ⟨rfl, rfl⟩)
          go_wp2_with fail
          go_quiet (fail)
          go_wp2_with fail
          go_roundw
          case rel =>
            refine ⟨k + 1, by omega, by go_num, ?_⟩
            unfold QSt
            rw [HK.out.1, HK.out.2]
            exact ⟨by first | assumption | (go_simp; done) | (go_simp; rfl), by first | assumption | (go_simp; done) | (go_simp; rfl), by first | assumption | (go_simp; done) | (go_simp; rfl), by first | assumption | (go_simp; done) | (go_simp; rfl), by first | assumption | (go_simp; done) | (go_simp; rfl), by first | assumption | (go_simp; done) | (go_simp; rfl), by first | assumption | (go_simp; done) | (go_simp; rfl), by first | assumption | (go_simp; done) | (go_simp; rfl), by first | assumption | (go_simp; done) | (go_simp; rfl), by first | assumption | (go_simp; done) | (go_simp; rfl), by first | assumption | (go_simp; done) | (go_simp; rfl), by first | assumption | (go_simp; done) | (go_simp; rfl), by first | assumption | (go_simp; done) | (go_simp; rfl), by first | assumption | (go_simp; done) | (go_simp; rfl), by first | assumption | (go_simp; done) | (go_simp; rfl), by first | assumption | (go_simp; done) | (go_simp; rfl), by first | assumption | (simp; done) | (simp; assumption) | (simp; omega), by first | assumption | (simp; done) | (simp; assumption) | (simp; omega), by first | assumption | (simp; done) | (simp; assumption) | (simp; omega), by first | assumption | (simp; done) | (simp; assumption) | (simp; omega), by first | assumption | (simp; done) | (simp; assumption) | (simp; omega), by repeat (first | assumption | refine Below.trans ?_ (Go.Joins.below_draws _ _ _) | exact HBB.out | refine Below.alloc ?_ (by first | omega | (simp; done) | (simp; omega)) _ | refine Below.drew ?_ | refine Below.setCell ?_ (by first | omega | (simp; done) | (simp; omega)) _)⟩
          case measure => simp [intOf]; omega
    · obtain rfl : k = 4 := by omega
      generalize hL : qLo la ua lb ub 4 = L at *
      generalize hH : qHi la ua lb ub 4 = Hh at *
      clear hL hH
      have hB0 := hBq
      go_upto_region 13 with fail
      go_region_held3 (fun wx => wx.cell? ⟨w2.heap.size, 0, none⟩ = some (.int .i64 L) ∧ wx.cell? ⟨w2.heap.size, 1, none⟩ = some (.int .i64 Hh) ∧ wx.cell? ⟨w.heap.size + 1, 0, none⟩ = some (.int .i64 lb) ∧ wx.cell? ⟨w.heap.size + 1, 1, none⟩ = some (.int .i64 ub)) (first | (go_keep; done) | ((try go_split_ands); (repeat' apply And.intro) <;> first | assumption | (go_keep; done) | (go_simp; done) | (exact carry hbq (by first | assumption | go_simp)) | (rw [World.cell?_setCell_other _ _ _ _ (fun k => by have e := congrArg Addr.block k; simp at e <;> omega), World.cell?_setCell_other _ _ _ _ (fun k => by have e := congrArg Addr.block k; simp at e <;> omega)]; assumption)))
        (first
          | (go_at_call 23; ((with_reducible refine (rin_any _ _ _ _).mono ?_); rintro e wq ⟨rfl, hbq⟩; have : wq.cell? ⟨w.heap.size + 1 + 1, 0, none⟩ = some (.int .i64 0) := carry hbq (by first | assumption | go_simp); have : wq.cell? ⟨w.heap.size + 1 + 1, 1, none⟩ = some (.int .i64 0) := carry hbq (by first | assumption | go_simp); have : wq.frozen? ⟨w.heap.size + 1 + 1, 0, none⟩ = false := carryF hbq (v := .int .i64 0) (by first | assumption | go_simp) (by first | assumption | go_simp); have : wq.frozen? ⟨w.heap.size + 1 + 1, 1, none⟩ = false := carryF hbq (v := .int .i64 0) (by first | assumption | go_simp) (by first | assumption | go_simp); have : w.heap.size + 1 + 1 < wq.heap.size := Nat.lt_of_lt_of_le (by first | assumption | (simp <;> omega)) hbq.size; have : w2.heap.size < wq.heap.size := Nat.lt_of_lt_of_le (by first | assumption | (simp <;> omega)) hbq.size; have : Below w.heap.size w wq := Below.trans (by first | assumption | exact hB0.drew) (hbq.mono (by first | omega | (simp <;> omega))))))
      have r0q : wq.cell? ⟨w.heap.size + 1 + 1, 0, none⟩ = some (.int .i64 0) := by assumption
      have r1q : wq.cell? ⟨w.heap.size + 1 + 1, 1, none⟩ = some (.int .i64 0) := by assumption
      have hBq2 : Below w.heap.size w wq := by assumption
      go_wp2_with fail
      refine bodyPost_ret (v := opV L Hh (decide (lb ≤ 0) && decide (0 ≤ ub)) 0) ?_ rfl ⟨by rw [H.out.1, H.out.2.1, H.out.2.2.1, H.out.2.2.2], ?_⟩
      · simp [results, Try.results18, go_sem, r0q, r1q]
      · repeat (first | assumption | refine Below.trans ?_ (Go.Joins.below_draws _ _ _) | refine Below.drew ?_ | refine Below.setCell ?_ (by first | omega | (simp; done) | (simp; omega)) _)

set_option maxRecDepth 100000 in
set_option maxHeartbeats 8000000 in
theorem rsquo_go2 (la ua lb ub : Int) (w : World) (HVA : Hid (vsp la ua = true)) (HVB : Hid (vsp lb ub = true)) (h1 : (lb == 0) = true) (h2 : (ub == 0) = false) (H : Hid (qL la ua lb ub = qLo la ua lb ub 4 ∧ qH la ua lb ub = qHi la ua lb ub 4 ∧ qM la ua lb ub = (decide (lb ≤ 0) && decide (0 ≤ ub)) ∧ qE la ua lb ub = 0)) :
    Calls Try.prog 18 #[spanV la ua, spanV lb ub] w fun e w' => e = .returned (opV (qL la ua lb ub) (qH la ua lb ub) (qM la ua lb ub) (qE la ua lb ub)) ∧ Below w.heap.size w w' := by
  have hmn : ∀ a b c w, Sem.run Try.prog (Builtin.min_ #[3, 3, 3] 3 #[.int .i64 a, .int .i64 b, .int .i64 c]) w = .ok (.int .i64 (mn (mn a b) c)) w := fun a b c w => by kernel_rfl
  have hmx : ∀ a b c w, Sem.run Try.prog (Builtin.max_ #[3, 3, 3] 3 #[.int .i64 a, .int .i64 b, .int .i64 c]) w = .ok (.int .i64 (mx (mx a b) c)) w := fun a b c w => by kernel_rfl
  have ⟨⟨v1, v2⟩, ⟨v3, v4⟩, v5⟩ := vsp_iff.1 HVA.out
  have ⟨⟨v6, v7⟩, ⟨v8, v9⟩, v10⟩ := vsp_iff.1 HVB.out
  go_enter Try.func18, Try.ntmps18
  go_wp2_with fail
  refine (rvspan_is HVA.out _).mono ?_
  rintro e w1 ⟨rfl, hb1⟩
  have a0 : w1.cell? ⟨w.heap.size, 0, none⟩ = some (.int .i64 la) := carry hb1 (by go_simp)
  have a1 : w1.cell? ⟨w.heap.size, 1, none⟩ = some (.int .i64 ua) := carry hb1 (by go_simp)
  have b0 : w1.cell? ⟨w.heap.size + 1, 0, none⟩ = some (.int .i64 lb) := carry hb1 (by go_simp)
  have b1 : w1.cell? ⟨w.heap.size + 1, 1, none⟩ = some (.int .i64 ub) := carry hb1 (by go_simp)
  have r0 : w1.cell? ⟨w.heap.size + 1 + 1, 0, none⟩ = some (.int .i64 0) := carry hb1 (by go_simp)
  have r1 : w1.cell? ⟨w.heap.size + 1 + 1, 1, none⟩ = some (.int .i64 0) := carry hb1 (by go_simp)
  have f0 : w1.frozen? ⟨w.heap.size + 1 + 1, 0, none⟩ = false := carryF hb1 (v := .int .i64 0) (by go_simp) (by go_simp)
  have f1 : w1.frozen? ⟨w.heap.size + 1 + 1, 1, none⟩ = false := carryF hb1 (v := .int .i64 0) (by go_simp) (by go_simp)
  have hz10 : w.heap.size < w1.heap.size := by have := hb1.size; simp at this; omega
  have hz11 : w.heap.size + 1 < w1.heap.size := by have := hb1.size; simp at this; omega
  have hz1 : w.heap.size + 1 + 1 < w1.heap.size := by have := hb1.size; simp at this; omega
  have HBB := Lib.hid ((by repeat (first | exact Below.refl _ _ | refine Below.alloc ?_ (by simp <;> omega) _) : Below w.heap.size w _).trans (hb1.mono (by simp <;> omega)))
  clear hb1
  go_wp2_with fail
  refine (rvspan_is HVB.out _).mono ?_
  rintro e w2 ⟨rfl, hb2⟩
  have a0 : w2.cell? ⟨w.heap.size, 0, none⟩ = some (.int .i64 la) := carry hb2 a0
  have a1 : w2.cell? ⟨w.heap.size, 1, none⟩ = some (.int .i64 ua) := carry hb2 a1
  have b0 : w2.cell? ⟨w.heap.size + 1, 0, none⟩ = some (.int .i64 lb) := carry hb2 b0
  have b1 : w2.cell? ⟨w.heap.size + 1, 1, none⟩ = some (.int .i64 ub) := carry hb2 b1
  have f0 : w2.frozen? ⟨w.heap.size + 1 + 1, 0, none⟩ = false := carryF hb2 r0 f0
  have f1 : w2.frozen? ⟨w.heap.size + 1 + 1, 1, none⟩ = false := carryF hb2 r1 f1
  have r0 : w2.cell? ⟨w.heap.size + 1 + 1, 0, none⟩ = some (.int .i64 0) := carry hb2 r0
  have r1 : w2.cell? ⟨w.heap.size + 1 + 1, 1, none⟩ = some (.int .i64 0) := carry hb2 r1
  have hz20 : w.heap.size < w2.heap.size := by have := hb2.size; omega
  have hz21 : w.heap.size + 1 < w2.heap.size := by have := hb2.size; omega
  have hz2 : w.heap.size + 1 + 1 < w2.heap.size := by have := hb2.size; omega
  have HBB := Lib.hid (HBB.out.trans (hb2.mono (by omega)))
  clear hb2
  go_upto_region 7 with fail
  go_wp2_with fail
  clear h1 h2
  go_loopw [9] (fun i wr => ∃ k : Nat, k ≤ 4 ∧ i = .int .i64 k ∧ QSt w2.heap.size la ua lb ub w k wr) (fun i _ => 4 - (intOf i).toNat)
  case atStart =>
    refine ⟨0, by omega, rfl, ?_⟩
    unfold QSt
    exact ⟨by first | assumption | (go_simp; done) | (go_simp; rfl), by first | assumption | (go_simp; done) | (go_simp; rfl), by first | assumption | (go_simp; done) | (go_simp; rfl), by first | assumption | (go_simp; done) | (go_simp; rfl), by first | assumption | (go_simp; done) | (go_simp; rfl), by first | assumption | (go_simp; done) | (go_simp; rfl), by first | assumption | (go_simp; done) | (go_simp; rfl), by first | assumption | (go_simp; done) | (go_simp; rfl), by first | assumption | (go_simp; done) | (go_simp; rfl), by first | assumption | (go_simp; done) | (go_simp; rfl), by first | assumption | (go_simp; done) | (go_simp; rfl), by first | assumption | (go_simp; done) | (go_simp; rfl), by first | assumption | (go_simp; done) | (go_simp; rfl), by first | assumption | (go_simp; done) | (go_simp; rfl), by first | assumption | (go_simp; done) | (go_simp; rfl), by first | assumption | (go_simp; done) | (go_simp; rfl), by first | assumption | (simp; done) | (simp; assumption) | (simp; omega), by first | assumption | (simp; done) | (simp; assumption) | (simp; omega), by first | assumption | (simp; done) | (simp; assumption) | (simp; omega), by first | assumption | (simp; done) | (simp; assumption) | (simp; omega), by first | assumption | (simp; done) | (simp; assumption) | (simp; omega), by repeat (first | assumption | refine Below.trans ?_ (Go.Joins.below_draws _ _ _) | exact HBB.out | refine Below.alloc ?_ (by first | omega | (simp; done) | (simp; omega)) _ | refine Below.drew ?_ | refine Below.setCell ?_ (by first | omega | (simp; done) | (simp; omega)) _)⟩
  case round =>
    obtain ⟨k, hk, rfl, hS⟩ := hrel
    obtain ⟨a0, a1, b0, b1, r0, r1, y0, y1, y2, y3, o0, o1, f0, f1, o0f, o1f, z0, z1, z2, z3, z4, hBq⟩ := hS
    by_cases hlt : k < 4
    · obtain ⟨D, hD, yk⟩ : ∃ D, D = dv lb ub k ∧ wr.cell? ⟨w2.heap.size + 1, k, none⟩ = some (.int .i64 D) := by
        rcases (show k = 0 ∨ k = 1 ∨ k = 2 ∨ k = 3 by omega) with rfl | rfl | rfl | rfl
        · exact ⟨lb, rfl, y0⟩
        · exact ⟨ub, rfl, y1⟩
        · exact ⟨1, rfl, y2⟩
        · exact ⟨-1, rfl, y3⟩
      have HD := Lib.hid hD
      clear hD
      generalize hL : qLo la ua lb ub k = L at *
      generalize hH : qHi la ua lb ub k = Hh at *
      have HLH := Lib.hid (And.intro hL hH)
      clear hL hH
      by_cases h0 : D = 0
      · have HT := Lib.hid (show tkn lb ub (dv lb ub k) = false from by rw [← HD.out, h0]; rfl)
        have h1 : (D == 0) = true := beq_iff_eq.2 h0
        clear h0
        have HK := Lib.hid (show qLo la ua lb ub (k + 1) = L ∧ qHi la ua lb ub (k + 1) = Hh from by
          rw [qLo, qHi, HT.out, HLH.out.1, HLH.out.2]; exact ⟨rfl, rfl⟩)
        go_wp2_with fail
        go_quiet (fail)
        go_wp2_with fail
        go_roundw
        case rel =>
          refine ⟨k + 1, by omega, by go_num, ?_⟩
          unfold QSt
          rw [HK.out.1, HK.out.2]
          exact ⟨by first | assumption | (go_simp; done) | (go_simp; rfl), by first | assumption | (go_simp; done) | (go_simp; rfl), by first | assumption | (go_simp; done) | (go_simp; rfl), by first | assumption | (go_simp; done) | (go_simp; rfl), by first | assumption | (go_simp; done) | (go_simp; rfl), by first | assumption | (go_simp; done) | (go_simp; rfl), by first | assumption | (go_simp; done) | (go_simp; rfl), by first | assumption | (go_simp; done) | (go_simp; rfl), by first | assumption | (go_simp; done) | (go_simp; rfl), by first | assumption | (go_simp; done) | (go_simp; rfl), by first | assumption | (go_simp; done) | (go_simp; rfl), by first | assumption | (go_simp; done) | (go_simp; rfl), by first | assumption | (go_simp; done) | (go_simp; rfl), by first | assumption | (go_simp; done) | (go_simp; rfl), by first | assumption | (go_simp; done) | (go_simp; rfl), by first | assumption | (go_simp; done) | (go_simp; rfl), by first | assumption | (simp; done) | (simp; assumption) | (simp; omega), by first | assumption | (simp; done) | (simp; assumption) | (simp; omega), by first | assumption | (simp; done) | (simp; assumption) | (simp; omega), by first | assumption | (simp; done) | (simp; assumption) | (simp; omega), by first | assumption | (simp; done) | (simp; assumption) | (simp; omega), by repeat (first | assumption | refine Below.trans ?_ (Go.Joins.below_draws _ _ _) | exact HBB.out | refine Below.alloc ?_ (by first | omega | (simp; done) | (simp; omega)) _ | refine Below.drew ?_ | refine Below.setCell ?_ (by first | omega | (simp; done) | (simp; omega)) _)⟩
        case measure => simp [intOf]; omega
      · have h1 : (D == 0) = false := beq_eq_false_iff_ne.2 h0
        cases hin : (decide (lb ≤ D) && decide (D ≤ ub))
        · have HT := Lib.hid (show tkn lb ub (dv lb ub k) = false from by rw [← HD.out]; simp [tkn, hin])
          have hB0 := hBq
          go_upto_region 10 with fail
          go_region_held3 (fun wx => wx.cell? ⟨w.heap.size, 0, none⟩ = some (.int .i64 la) ∧ wx.cell? ⟨w.heap.size, 1, none⟩ = some (.int .i64 ua) ∧ wx.cell? ⟨w.heap.size + 1, 0, none⟩ = some (.int .i64 lb) ∧ wx.cell? ⟨w.heap.size + 1, 1, none⟩ = some (.int .i64 ub) ∧ wx.cell? ⟨w.heap.size + 1 + 1, 0, none⟩ = some (.int .i64 0) ∧ wx.cell? ⟨w.heap.size + 1 + 1, 1, none⟩ = some (.int .i64 0) ∧ wx.cell? ⟨w2.heap.size + 1, 0, none⟩ = some (.int .i64 lb) ∧ wx.cell? ⟨w2.heap.size + 1, 1, none⟩ = some (.int .i64 ub) ∧ wx.cell? ⟨w2.heap.size + 1, 2, none⟩ = some (.int .i64 1) ∧ wx.cell? ⟨w2.heap.size + 1, 3, none⟩ = some (.int .i64 (-1)) ∧ wx.cell? ⟨w2.heap.size, 0, none⟩ = some (.int .i64 L) ∧ wx.cell? ⟨w2.heap.size, 1, none⟩ = some (.int .i64 Hh) ∧ wx.cell? ⟨w2.heap.size + 1, k, none⟩ = some (.int .i64 D) ∧ wx.frozen? ⟨w.heap.size + 1 + 1, 0, none⟩ = false ∧ wx.frozen? ⟨w.heap.size + 1 + 1, 1, none⟩ = false ∧ wx.frozen? ⟨w2.heap.size, 0, none⟩ = false ∧ wx.frozen? ⟨w2.heap.size, 1, none⟩ = false ∧ w.heap.size < wx.heap.size ∧ w.heap.size + 1 < wx.heap.size ∧ w.heap.size + 1 + 1 < wx.heap.size ∧ w2.heap.size < wx.heap.size ∧ w2.heap.size + 1 < wx.heap.size ∧ Below w.heap.size w wx) (first | (go_keep; done) | ((try go_split_ands); (repeat' apply And.intro) <;> first | assumption | (go_simp; done) | (simp only [World.size_alloc, World.size_drew]; omega) | (go_keep; done) | (exact hB0.drew) | (exact (hB0.alloc (by first | omega | (simp <;> omega)) _).drew) | (exact carry hbq (by first | assumption | go_simp)) | (exact carryF hbq (by first | assumption | go_simp) (by first | assumption | go_simp)) | (exact Nat.lt_of_lt_of_le (by first | assumption | (simp <;> omega)) hbq.size) | (simp <;> omega) | (exact Below.trans (by assumption) (hbq.mono (by first | omega | (simp <;> omega))))))
            (first
              | (go_at_call 23; ((with_reducible refine (rin_is hin _).mono ?_); rintro e wq ⟨rfl, hbq⟩)))
          have hS : wq.cell? ⟨w.heap.size, 0, none⟩ = some (.int .i64 la) ∧ wq.cell? ⟨w.heap.size, 1, none⟩ = some (.int .i64 ua) ∧ wq.cell? ⟨w.heap.size + 1, 0, none⟩ = some (.int .i64 lb) ∧ wq.cell? ⟨w.heap.size + 1, 1, none⟩ = some (.int .i64 ub) ∧ wq.cell? ⟨w.heap.size + 1 + 1, 0, none⟩ = some (.int .i64 0) ∧ wq.cell? ⟨w.heap.size + 1 + 1, 1, none⟩ = some (.int .i64 0) ∧ wq.cell? ⟨w2.heap.size + 1, 0, none⟩ = some (.int .i64 lb) ∧ wq.cell? ⟨w2.heap.size + 1, 1, none⟩ = some (.int .i64 ub) ∧ wq.cell? ⟨w2.heap.size + 1, 2, none⟩ = some (.int .i64 1) ∧ wq.cell? ⟨w2.heap.size + 1, 3, none⟩ = some (.int .i64 (-1)) ∧ wq.cell? ⟨w2.heap.size, 0, none⟩ = some (.int .i64 L) ∧ wq.cell? ⟨w2.heap.size, 1, none⟩ = some (.int .i64 Hh) ∧ wq.cell? ⟨w2.heap.size + 1, k, none⟩ = some (.int .i64 D) ∧ wq.frozen? ⟨w.heap.size + 1 + 1, 0, none⟩ = false ∧ wq.frozen? ⟨w.heap.size + 1 + 1, 1, none⟩ = false ∧ wq.frozen? ⟨w2.heap.size, 0, none⟩ = false ∧ wq.frozen? ⟨w2.heap.size, 1, none⟩ = false ∧ w.heap.size < wq.heap.size ∧ w.heap.size + 1 < wq.heap.size ∧ w.heap.size + 1 + 1 < wq.heap.size ∧ w2.heap.size < wq.heap.size ∧ w2.heap.size + 1 < wq.heap.size ∧ Below w.heap.size w wq := by assumption
          clear hB0 a0 a1 b0 b1 r0 r1 y0 y1 y2 y3 o0 o1 yk f0 f1 o0f o1f z0 z1 z2 z3 z4 hBq
          obtain ⟨a0, a1, b0, b1, r0, r1, y0, y1, y2, y3, o0, o1, yk, f0, f1, o0f, o1f, z0, z1, z2, z3, z4, hBq⟩ := hS
          clear hin
          have HK := Lib.hid (show qLo la ua lb ub (k + 1) = L ∧ qHi la ua lb ub (k + 1) = Hh from by
            rw [qLo, qHi, HT.out, HLH.out.1, HLH.out.2]; exact ⟨rfl, rfl⟩)
          go_wp2_with fail
          go_roundw
          case rel =>
            refine ⟨k + 1, by omega, by go_num, ?_⟩
            unfold QSt
            rw [HK.out.1, HK.out.2]
            exact ⟨by first | assumption | (go_simp; done) | (go_simp; rfl), by first | assumption | (go_simp; done) | (go_simp; rfl), by first | assumption | (go_simp; done) | (go_simp; rfl), by first | assumption | (go_simp; done) | (go_simp; rfl), by first | assumption | (go_simp; done) | (go_simp; rfl), by first | assumption | (go_simp; done) | (go_simp; rfl), by first | assumption | (go_simp; done) | (go_simp; rfl), by first | assumption | (go_simp; done) | (go_simp; rfl), by first | assumption | (go_simp; done) | (go_simp; rfl), by first | assumption | (go_simp; done) | (go_simp; rfl), by first | assumption | (go_simp; done) | (go_simp; rfl), by first | assumption | (go_simp; done) | (go_simp; rfl), by first | assumption | (go_simp; done) | (go_simp; rfl), by first | assumption | (go_simp; done) | (go_simp; rfl), by first | assumption | (go_simp; done) | (go_simp; rfl), by first | assumption | (go_simp; done) | (go_simp; rfl), by first | assumption | (simp; done) | (simp; assumption) | (simp; omega), by first | assumption | (simp; done) | (simp; assumption) | (simp; omega), by first | assumption | (simp; done) | (simp; assumption) | (simp; omega), by first | assumption | (simp; done) | (simp; assumption) | (simp; omega), by first | assumption | (simp; done) | (simp; assumption) | (simp; omega), by repeat (first | assumption | refine Below.trans ?_ (Go.Joins.below_draws _ _ _) | exact HBB.out | refine Below.alloc ?_ (by first | omega | (simp; done) | (simp; omega)) _ | refine Below.drew ?_ | refine Below.setCell ?_ (by first | omega | (simp; done) | (simp; omega)) _)⟩
          case measure => simp [intOf]; omega
        · have tb1 := (tdiv_bd (d := D) ⟨v1, v2⟩).1
          have tb2 := (tdiv_bd (d := D) ⟨v1, v2⟩).2
          have tb3 := (tdiv_bd (d := D) ⟨v3, v4⟩).1
          have tb4 := (tdiv_bd (d := D) ⟨v3, v4⟩).2
          have HT := Lib.hid (show tkn lb ub (dv lb ub k) = true from by rw [← HD.out]; simp [tkn, hin, h0])
          have hB0 := hBq
          go_upto_region 10 with fail
          go_region_held3 (fun wx => wx.cell? ⟨w.heap.size, 0, none⟩ = some (.int .i64 la) ∧ wx.cell? ⟨w.heap.size, 1, none⟩ = some (.int .i64 ua) ∧ wx.cell? ⟨w.heap.size + 1, 0, none⟩ = some (.int .i64 lb) ∧ wx.cell? ⟨w.heap.size + 1, 1, none⟩ = some (.int .i64 ub) ∧ wx.cell? ⟨w.heap.size + 1 + 1, 0, none⟩ = some (.int .i64 0) ∧ wx.cell? ⟨w.heap.size + 1 + 1, 1, none⟩ = some (.int .i64 0) ∧ wx.cell? ⟨w2.heap.size + 1, 0, none⟩ = some (.int .i64 lb) ∧ wx.cell? ⟨w2.heap.size + 1, 1, none⟩ = some (.int .i64 ub) ∧ wx.cell? ⟨w2.heap.size + 1, 2, none⟩ = some (.int .i64 1) ∧ wx.cell? ⟨w2.heap.size + 1, 3, none⟩ = some (.int .i64 (-1)) ∧ wx.cell? ⟨w2.heap.size, 0, none⟩ = some (.int .i64 L) ∧ wx.cell? ⟨w2.heap.size, 1, none⟩ = some (.int .i64 Hh) ∧ wx.cell? ⟨w2.heap.size + 1, k, none⟩ = some (.int .i64 D) ∧ wx.frozen? ⟨w.heap.size + 1 + 1, 0, none⟩ = false ∧ wx.frozen? ⟨w.heap.size + 1 + 1, 1, none⟩ = false ∧ wx.frozen? ⟨w2.heap.size, 0, none⟩ = false ∧ wx.frozen? ⟨w2.heap.size, 1, none⟩ = false ∧ w.heap.size < wx.heap.size ∧ w.heap.size + 1 < wx.heap.size ∧ w.heap.size + 1 + 1 < wx.heap.size ∧ w2.heap.size < wx.heap.size ∧ w2.heap.size + 1 < wx.heap.size ∧ Below w.heap.size w wx) (first | (go_keep; done) | ((try go_split_ands); (repeat' apply And.intro) <;> first | assumption | (go_simp; done) | (simp only [World.size_alloc, World.size_drew]; omega) | (go_keep; done) | (exact hB0.drew) | (exact (hB0.alloc (by first | omega | (simp <;> omega)) _).drew) | (exact carry hbq (by first | assumption | go_simp)) | (exact carryF hbq (by first | assumption | go_simp) (by first | assumption | go_simp)) | (exact Nat.lt_of_lt_of_le (by first | assumption | (simp <;> omega)) hbq.size) | (simp <;> omega) | (exact Below.trans (by assumption) (hbq.mono (by first | omega | (simp <;> omega))))))
            (first
              | (go_at_call 23; ((with_reducible refine (rin_is hin _).mono ?_); rintro e wq ⟨rfl, hbq⟩)))
          have hS : wq.cell? ⟨w.heap.size, 0, none⟩ = some (.int .i64 la) ∧ wq.cell? ⟨w.heap.size, 1, none⟩ = some (.int .i64 ua) ∧ wq.cell? ⟨w.heap.size + 1, 0, none⟩ = some (.int .i64 lb) ∧ wq.cell? ⟨w.heap.size + 1, 1, none⟩ = some (.int .i64 ub) ∧ wq.cell? ⟨w.heap.size + 1 + 1, 0, none⟩ = some (.int .i64 0) ∧ wq.cell? ⟨w.heap.size + 1 + 1, 1, none⟩ = some (.int .i64 0) ∧ wq.cell? ⟨w2.heap.size + 1, 0, none⟩ = some (.int .i64 lb) ∧ wq.cell? ⟨w2.heap.size + 1, 1, none⟩ = some (.int .i64 ub) ∧ wq.cell? ⟨w2.heap.size + 1, 2, none⟩ = some (.int .i64 1) ∧ wq.cell? ⟨w2.heap.size + 1, 3, none⟩ = some (.int .i64 (-1)) ∧ wq.cell? ⟨w2.heap.size, 0, none⟩ = some (.int .i64 L) ∧ wq.cell? ⟨w2.heap.size, 1, none⟩ = some (.int .i64 Hh) ∧ wq.cell? ⟨w2.heap.size + 1, k, none⟩ = some (.int .i64 D) ∧ wq.frozen? ⟨w.heap.size + 1 + 1, 0, none⟩ = false ∧ wq.frozen? ⟨w.heap.size + 1 + 1, 1, none⟩ = false ∧ wq.frozen? ⟨w2.heap.size, 0, none⟩ = false ∧ wq.frozen? ⟨w2.heap.size, 1, none⟩ = false ∧ w.heap.size < wq.heap.size ∧ w.heap.size + 1 < wq.heap.size ∧ w.heap.size + 1 + 1 < wq.heap.size ∧ w2.heap.size < wq.heap.size ∧ w2.heap.size + 1 < wq.heap.size ∧ Below w.heap.size w wq := by assumption
          clear hB0 a0 a1 b0 b1 r0 r1 y0 y1 y2 y3 o0 o1 yk f0 f1 o0f o1f z0 z1 z2 z3 z4 hBq
          obtain ⟨a0, a1, b0, b1, r0, r1, y0, y1, y2, y3, o0, o1, yk, f0, f1, o0f, o1f, z0, z1, z2, z3, z4, hBq⟩ := hS
          clear hin
          have HK := Lib.hid (show qLo la ua lb ub (k + 1) = mn (mn L (la.tdiv D)) (ua.tdiv D) ∧ qHi la ua lb ub (k + 1) = mx (mx Hh (la.tdiv D)) (ua.tdiv D) from by
            rw [qLo, qHi, HT.out, HLH.out.1, HLH.out.2, ← HD.out]; exact ⟨rfl, rfl⟩)
          go_wp2_with fail
          go_quiet (fail)
          go_wp2_with fail
          go_roundw
          case rel =>
            refine ⟨k + 1, by omega, by go_num, ?_⟩
            unfold QSt
            rw [HK.out.1, HK.out.2]
            exact ⟨by first | assumption | (go_simp; done) | (go_simp; rfl), by first | assumption | (go_simp; done) | (go_simp; rfl), by first | assumption | (go_simp; done) | (go_simp; rfl), by first | assumption | (go_simp; done) | (go_simp; rfl), by first | assumption | (go_simp; done) | (go_simp; rfl), by first | assumption | (go_simp; done) | (go_simp; rfl), by first | assumption | (go_simp; done) | (go_simp; rfl), by first | assumption | (go_simp; done) | (go_simp; rfl), by first | assumption | (go_simp; done) | (go_simp; rfl), by first | assumption | (go_simp; done) | (go_simp; rfl), by first | assumption | (go_simp; done) | (go_simp; rfl), by first | assumption | (go_simp; done) | (go_simp; rfl), by first | assumption | (go_simp; done) | (go_simp; rfl), by first | assumption | (go_simp; done) | (go_simp; rfl), by first | assumption | (go_simp; done) | (go_simp; rfl), by first | assumption | (go_simp; done) | (go_simp; rfl), by first | assumption | (simp; done) | (simp; assumption) | (simp; omega), by first | assumption | (simp; done) | (simp; assumption) | (simp; omega), by first | assumption | (simp; done) | (simp; assumption) | (simp; omega), by first | assumption | (simp; done) | (simp; assumption) | (simp; omega), by first | assumption | (simp; done) | (simp; assumption) | (simp; omega), by repeat (first | assumption | refine Below.trans ?_ (Go.Joins.below_draws _ _ _) | exact HBB.out | refine Below.alloc ?_ (by first | omega | (simp; done) | (simp; omega)) _ | refine Below.drew ?_ | refine Below.setCell ?_ (by first | omega | (simp; done) | (simp; omega)) _)⟩
          case measure => simp [intOf]; omega
    · obtain rfl : k = 4 := by omega
      generalize hL : qLo la ua lb ub 4 = L at *
      generalize hH : qHi la ua lb ub 4 = Hh at *
      clear hL hH
      have hB0 := hBq
      go_upto_region 13 with fail
      go_region_held3 (fun wx => wx.cell? ⟨w2.heap.size, 0, none⟩ = some (.int .i64 L) ∧ wx.cell? ⟨w2.heap.size, 1, none⟩ = some (.int .i64 Hh) ∧ wx.cell? ⟨w.heap.size + 1, 0, none⟩ = some (.int .i64 lb) ∧ wx.cell? ⟨w.heap.size + 1, 1, none⟩ = some (.int .i64 ub)) (first | (go_keep; done) | ((try go_split_ands); (repeat' apply And.intro) <;> first | assumption | (go_keep; done) | (go_simp; done) | (exact carry hbq (by first | assumption | go_simp)) | (rw [World.cell?_setCell_other _ _ _ _ (fun k => by have e := congrArg Addr.block k; simp at e <;> omega), World.cell?_setCell_other _ _ _ _ (fun k => by have e := congrArg Addr.block k; simp at e <;> omega)]; assumption)))
        (first
          | (go_at_call 23; ((with_reducible refine (rin_any _ _ _ _).mono ?_); rintro e wq ⟨rfl, hbq⟩; have : wq.cell? ⟨w.heap.size + 1 + 1, 0, none⟩ = some (.int .i64 0) := carry hbq (by first | assumption | go_simp); have : wq.cell? ⟨w.heap.size + 1 + 1, 1, none⟩ = some (.int .i64 0) := carry hbq (by first | assumption | go_simp); have : wq.frozen? ⟨w.heap.size + 1 + 1, 0, none⟩ = false := carryF hbq (v := .int .i64 0) (by first | assumption | go_simp) (by first | assumption | go_simp); have : wq.frozen? ⟨w.heap.size + 1 + 1, 1, none⟩ = false := carryF hbq (v := .int .i64 0) (by first | assumption | go_simp) (by first | assumption | go_simp); have : w.heap.size + 1 + 1 < wq.heap.size := Nat.lt_of_lt_of_le (by first | assumption | (simp <;> omega)) hbq.size; have : w2.heap.size < wq.heap.size := Nat.lt_of_lt_of_le (by first | assumption | (simp <;> omega)) hbq.size; have : Below w.heap.size w wq := Below.trans (by first | assumption | exact hB0.drew) (hbq.mono (by first | omega | (simp <;> omega))))))
      have r0q : wq.cell? ⟨w.heap.size + 1 + 1, 0, none⟩ = some (.int .i64 0) := by assumption
      have r1q : wq.cell? ⟨w.heap.size + 1 + 1, 1, none⟩ = some (.int .i64 0) := by assumption
      have hBq2 : Below w.heap.size w wq := by assumption
      go_wp2_with fail
      refine bodyPost_ret (v := opV L Hh (decide (lb ≤ 0) && decide (0 ≤ ub)) 0) ?_ rfl ⟨by rw [H.out.1, H.out.2.1, H.out.2.2.1, H.out.2.2.2], ?_⟩
      · simp [results, Try.results18, go_sem, r0q, r1q]
      · repeat (first | assumption | refine Below.trans ?_ (Go.Joins.below_draws _ _ _) | refine Below.drew ?_ | refine Below.setCell ?_ (by first | omega | (simp; done) | (simp; omega)) _)

theorem rsquo_any (la ua lb ub : Int) (w : World) :
    Calls Try.prog 18 #[spanV la ua, spanV lb ub] w fun e w' => e = .returned (opV (qL la ua lb ub) (qH la ua lb ub) (qM la ua lb ub) (qE la ua lb ub)) ∧ Below w.heap.size w w' := by
  cases hva : vsp la ua
  · have hbs : bsp la ua lb ub = false := by simp [bsp, hva]
    exact rsquo_bad1 la ua lb ub w (Lib.hid hva) (Lib.hid (by simp [qL, qH, qM, qE, hbs]))
  · cases hvb : vsp lb ub
    · have hbs : bsp la ua lb ub = false := by simp [bsp, hvb]
      exact rsquo_bad2 la ua lb ub w (Lib.hid hva) (Lib.hid hvb) (Lib.hid (by simp [qL, qH, qM, qE, hbs]))
    · have hbs : bsp la ua lb ub = true := by simp [bsp, hva, hvb]
      by_cases h0 : lb = 0 ∧ ub = 0
      · exact rsquo_zero la ua lb ub w (Lib.hid hva) (Lib.hid hvb) (beq_iff_eq.2 h0.1) (beq_iff_eq.2 h0.2) (Lib.hid (by
          obtain ⟨rfl, rfl⟩ := h0
          simp [qL, qH, qM, qE, hbs]))
      · by_cases k : lb = 0
        · exact rsquo_go2 la ua lb ub w (Lib.hid hva) (Lib.hid hvb) (beq_iff_eq.2 k) (beq_eq_false_iff_ne.2 fun k2 => h0 ⟨k, k2⟩) (Lib.hid (fold_is hbs h0))
        · exact rsquo_go1 la ua lb ub w (Lib.hid hva) (Lib.hid hvb) (beq_eq_false_iff_ne.2 k) (Lib.hid (fold_is hbs h0))

end Go.Proofs.Ytnhieokegidibaa
