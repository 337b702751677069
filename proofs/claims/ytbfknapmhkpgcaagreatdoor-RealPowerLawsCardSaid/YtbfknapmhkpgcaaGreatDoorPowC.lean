/-
  Several texts in one (PowA, PowB).
-/
import Derived.Test.YtbfknapmhkpgcaaGreatDoorValA
import Derived.Deep.RegionHeld3

namespace Go.Proofs.YtbfknapmhkpgcaaGreatDoor
open Go.RowKit
set_option linter.unusedVariables false

set_option maxRecDepth 100000 in
set_option maxHeartbeats 1600000 in
theorem po_zero (m e : Int) (w : World) (H1 : Hid (∀ W : World, Calls Tryz.prog 10 #[.int .i64 1] W fun r w' => r = .returned (realV 8388608 (-23)) ∧ Below W.heap.size W w')) :
    Calls Tryz.prog 69 #[realV m e, .int .u64 0] w fun r w' => r = .returned (realV 8388608 (-23)) ∧ Below w.heap.size w w' := by
  go_enter Tryz.func69, Tryz.ntmps69
  go_wp2_with fail
  refine (H1.out _).mono ?_
  rintro r w1 ⟨rfl, hb1⟩
  have f1_0 : w1.frozen? ⟨w.heap.size + 1, 0, none⟩ = false := carryF hb1 (v := .int .i64 0) (by first | with_reducible assumption | go_simp) (by first | with_reducible assumption | go_simp)
  have f1_1 : w1.frozen? ⟨w.heap.size + 1, 1, none⟩ = false := carryF hb1 (v := .int .i64 0) (by first | with_reducible assumption | go_simp) (by first | with_reducible assumption | go_simp)
  have c1_0 : w1.cell? ⟨w.heap.size + 1, 0, none⟩ = some (.int .i64 0) := carry hb1 (by first | with_reducible assumption | go_simp)
  have c1_1 : w1.cell? ⟨w.heap.size + 1, 1, none⟩ = some (.int .i64 0) := carry hb1 (by first | with_reducible assumption | go_simp)
  have z1 : w.heap.size + 1 < w1.heap.size := by have := hb1.size; first | omega | (simp at this; omega)
  have HBB := Lib.hid ((by repeat (first | with_reducible exact Below.refl _ _ | with_reducible refine Below.setCell ?_ (by first | omega | (simp; done) | (simp; omega)) _ | with_reducible refine Below.drew ?_ | with_reducible refine belowN ?_ _ | with_reducible refine Below.alloc ?_ (by first | omega | (simp; done) | (simp; omega)) _) : Below w.heap.size w _).trans (hb1.mono (by first | omega | (simp; done) | (simp; omega))))
  clear hb1
  go_wp2_with fail
  refine bodyPost_ret (v := realV 8388608 (-23)) (by simp [results, Tryz.results69, go_sem, c1_0, c1_1]) rfl ⟨rfl, by repeat (first | with_reducible exact HBB.out | with_reducible exact Below.refl _ _ | with_reducible refine Below.drew ?_ | with_reducible refine belowN ?_ _ | with_reducible refine Below.setCell ?_ (by first | omega | (simp; done) | (simp; omega)) _ | with_reducible refine Below.alloc ?_ (by first | omega | (simp; done) | (simp; omega)) _)⟩

set_option maxRecDepth 100000 in
set_option maxHeartbeats 1600000 in
theorem po_odd (n p : Nat) (m e f g a b c d : Int) (w : World) (ha : IntKind.u64.wrap ((n : Int) - 1) = (p : Int)) (h0 : ((n : Int) == 0) = false) (h1 : ((n : Int) % 2 == 1) = true) (HI : Hid (∀ (x : Int) (W : World), x = (p : Int) → Calls Tryz.prog 69 #[realV m e, .int .u64 x] W fun r w' => r = .returned (realV f g) ∧ Below W.heap.size W w')) (HPR : Hid (∀ W : World, Calls Tryz.prog 54 #[realV m e, realV f g] W fun r w' => r = .returned (realV a b) ∧ Below W.heap.size W w')) (HRO : Hid (∀ W : World, Calls Tryz.prog 39 #[realV a b] W fun r w' => r = .returned (realV c d) ∧ Below W.heap.size W w')) :
    Calls Tryz.prog 69 #[realV m e, .int .u64 (n : Int)] w fun r w' => r = .returned (realV c d) ∧ Below w.heap.size w w' := by
  have HB0 := Lib.hid ((by repeat (first | exact Below.refl _ _ | refine Below.alloc ?_ (by simp <;> omega) _) : Below w.heap.size w ((w.alloc (Obj.cells #[Value.int IntKind.i64 m, Value.int IntKind.i64 e] 23)).alloc (Obj.cells #[Value.int IntKind.i64 0, Value.int IntKind.i64 0] 23))))
  go_enter Tryz.func69, Tryz.ntmps69
  go_wp2_with fail
  go_region_held3 (fun wx => wx.cell? ⟨w.heap.size, 0, none⟩ = some (.int .i64 m) ∧ wx.cell? ⟨w.heap.size, 1, none⟩ = some (.int .i64 e) ∧ w.heap.size < wx.heap.size ∧ Below w.heap.size w wx) (first | (go_keep; done) | ((try go_split_ands); (repeat' apply And.intro) <;> first | with_reducible assumption | (exact carry hbq (by with_reducible assumption)) | (go_simp; done) | (simp only [World.size_alloc, World.size_drew]; omega) | ((repeat (first | with_reducible assumption | with_reducible exact HB0.out | with_reducible refine Below.drew ?_ | with_reducible refine Below.setCell ?_ (by first | omega | (simp; done) | (simp <;> omega)) _)); done) | (exact Nat.lt_of_lt_of_le (by first | with_reducible assumption | (simp <;> omega)) hbq.size) | (simp <;> omega)))
    (first
      | (go_at_call 69; ((refine (HI.out _ _ (by first | exact ha | omega)).mono ?_); rintro r wq ⟨rfl, hbq⟩; have q0 : wq.cell? ⟨w.heap.size + 1, 0, none⟩ = some (.int .i64 0) := carry hbq (by first | with_reducible assumption | go_simp); have qf0 : wq.frozen? ⟨w.heap.size + 1, 0, none⟩ = false := carryF hbq (v := .int .i64 0) (by first | with_reducible assumption | go_simp) (by first | with_reducible assumption | go_simp); have q1 : wq.cell? ⟨w.heap.size + 1, 1, none⟩ = some (.int .i64 0) := carry hbq (by first | with_reducible assumption | go_simp); have qf1 : wq.frozen? ⟨w.heap.size + 1, 1, none⟩ = false := carryF hbq (v := .int .i64 0) (by first | with_reducible assumption | go_simp) (by first | with_reducible assumption | go_simp); have qz : w.heap.size + 1 < wq.heap.size := Nat.lt_of_lt_of_le (by first | with_reducible assumption | (simp <;> omega)) hbq.size; have qb : Below w.heap.size w wq := Below.trans (by first | with_reducible assumption | with_reducible exact HB0.out.drew | with_reducible exact HB0.out | with_reducible exact Below.drew (by with_reducible assumption)) (hbq.mono (by first | omega | (simp <;> omega)))))
      | (go_at_call 54; ((with_reducible refine (HPR.out _).mono ?_); rintro r wq ⟨rfl, hbq⟩; have q0 : wq.cell? ⟨w.heap.size + 1, 0, none⟩ = some (.int .i64 0) := carry hbq (by first | with_reducible assumption | go_simp); have qf0 : wq.frozen? ⟨w.heap.size + 1, 0, none⟩ = false := carryF hbq (v := .int .i64 0) (by first | with_reducible assumption | go_simp) (by first | with_reducible assumption | go_simp); have q1 : wq.cell? ⟨w.heap.size + 1, 1, none⟩ = some (.int .i64 0) := carry hbq (by first | with_reducible assumption | go_simp); have qf1 : wq.frozen? ⟨w.heap.size + 1, 1, none⟩ = false := carryF hbq (v := .int .i64 0) (by first | with_reducible assumption | go_simp) (by first | with_reducible assumption | go_simp); have qz : w.heap.size + 1 < wq.heap.size := Nat.lt_of_lt_of_le (by first | with_reducible assumption | (simp <;> omega)) hbq.size; have qb : Below w.heap.size w wq := Below.trans (by first | with_reducible assumption | with_reducible exact HB0.out.drew | with_reducible exact HB0.out | with_reducible exact Below.drew (by with_reducible assumption)) (hbq.mono (by first | omega | (simp <;> omega)))))
      | (go_at_call 39; ((with_reducible refine (HRO.out _).mono ?_); rintro r wq ⟨rfl, hbq⟩; have q0 : wq.cell? ⟨w.heap.size + 1, 0, none⟩ = some (.int .i64 0) := carry hbq (by first | with_reducible assumption | go_simp); have qf0 : wq.frozen? ⟨w.heap.size + 1, 0, none⟩ = false := carryF hbq (v := .int .i64 0) (by first | with_reducible assumption | go_simp) (by first | with_reducible assumption | go_simp); have q1 : wq.cell? ⟨w.heap.size + 1, 1, none⟩ = some (.int .i64 0) := carry hbq (by first | with_reducible assumption | go_simp); have qf1 : wq.frozen? ⟨w.heap.size + 1, 1, none⟩ = false := carryF hbq (v := .int .i64 0) (by first | with_reducible assumption | go_simp) (by first | with_reducible assumption | go_simp); have qz : w.heap.size + 1 < wq.heap.size := Nat.lt_of_lt_of_le (by first | with_reducible assumption | (simp <;> omega)) hbq.size; have qb : Below w.heap.size w wq := Below.trans (by first | with_reducible assumption | with_reducible exact HB0.out.drew | with_reducible exact HB0.out | with_reducible exact Below.drew (by with_reducible assumption)) (hbq.mono (by first | omega | (simp <;> omega))))))
  clear HB0
  rename _ ∧ _ ∧ _ ∧ Below w.heap.size w _ => hS
  have HBB := Lib.hid hS.2.2.2
  clear hS
  go_wp2_with fail
  refine bodyPost_ret (v := realV c d) (by simp [results, Tryz.results69, go_sem, q0, q1]) rfl ⟨rfl, by repeat (first | with_reducible exact HBB.out | with_reducible exact Below.refl _ _ | with_reducible refine Below.drew ?_ | with_reducible refine belowN ?_ _ | with_reducible refine Below.setCell ?_ (by first | omega | (simp; done) | (simp; omega)) _ | with_reducible refine Below.alloc ?_ (by first | omega | (simp; done) | (simp; omega)) _)⟩

set_option maxRecDepth 100000 in
set_option maxHeartbeats 1600000 in
theorem po_odd_p (n p : Nat) (m e f g a b c d : Int) (w : World) (ha : IntKind.u64.wrap ((n : Int) - 1) = (p : Int)) (h0 : ((n : Int) == 0) = false) (h1 : ((n : Int) % 2 == 1) = true) (HI : Hid (∀ (x : Int) (W : World), x = (p : Int) → Calls Tryz.prog 69 #[realV m e, .int .u64 x] W fun r w' => r = .panicked [{ v := .iface 24 (.int .i64 3), recovered := false }] ∧ Below W.heap.size W w')) :
    Calls Tryz.prog 69 #[realV m e, .int .u64 (n : Int)] w fun r w' => r = .panicked [{ v := .iface 24 (.int .i64 3), recovered := false }] ∧ Below w.heap.size w w' := by
  have HB0 := Lib.hid ((by repeat (first | exact Below.refl _ _ | refine Below.alloc ?_ (by simp <;> omega) _) : Below w.heap.size w ((w.alloc (Obj.cells #[Value.int IntKind.i64 m, Value.int IntKind.i64 e] 23)).alloc (Obj.cells #[Value.int IntKind.i64 0, Value.int IntKind.i64 0] 23))))
  go_enter Tryz.func69, Tryz.ntmps69
  go_wp2_with fail
  refine wp_region_held_drew (S := fun wx => wx.cell? ⟨w.heap.size, 0, none⟩ = some (.int .i64 m) ∧ wx.cell? ⟨w.heap.size, 1, none⟩ = some (.int .i64 e) ∧ w.heap.size < wx.heap.size ∧ Below w.heap.size w wx) (by kernel_rfl) ?_ (fun hHeld => ?_)
  · (try dsimp only)
    (first | (go_keep; done) | ((try go_split_ands); (repeat' apply And.intro) <;> first | with_reducible assumption | (exact carry hbq (by with_reducible assumption)) | (go_simp; done) | (simp only [World.size_alloc, World.size_drew]; omega) | ((repeat (first | with_reducible assumption | with_reducible exact HB0.out | with_reducible refine Below.drew ?_ | with_reducible refine Below.setCell ?_ (by first | omega | (simp; done) | (simp <;> omega)) _)); done) | (exact Nat.lt_of_lt_of_le (by first | with_reducible assumption | (simp <;> omega)) hbq.size) | (simp <;> omega)))
  refine wpAnyH_take (i := 0) (oi := _) (v := ?_) rfl (by kernel_rfl) (by kernel_rfl) (by kernel_rfl) (fun _ _ _ h => h) (Or.inl ⟨by rfl, ?hy0⟩) (by assumption) ?rest0
  case hy0 => (intro w hSw; (try dsimp only at hSw); go_simp; (try with_reducible rfl))
  (try simp (maxSteps := 4000000) only [List.getElem_toArray, List.getElem_cons_zero, Act.put, List.setIfInBounds_toArray, List.set_cons_zero, List.set_cons_succ])
  refine wpAnyH_take (i := 1) (oi := _) (v := ?_) rfl (by kernel_rfl) (by kernel_rfl) (by kernel_rfl) (fun _ _ _ h => h) (Or.inl ⟨by rfl, ?hy1⟩) (by assumption) ?rest1
  case hy1 => (intro w hSw; (try dsimp only at hSw); go_simp; (try with_reducible rfl))
  (try simp (maxSteps := 4000000) only [List.getElem_toArray, Act.put, List.setIfInBounds_toArray])
  refine wpAnyH_take (i := 2) (oi := _) (v := ?_) rfl (by kernel_rfl) (by kernel_rfl) (by kernel_rfl) (fun _ _ _ h => h) (Or.inl ⟨by rfl, ?hy2⟩) (by assumption) ?rest2
  case hy2 => (intro w hSw; (try dsimp only at hSw); go_simp; (try with_reducible rfl))
  (try simp (maxSteps := 4000000) only [List.getElem_toArray, Act.put])
  refine wpAnyH_take (i := 3) (oi := _) (v := ?_) rfl (by kernel_rfl) (by kernel_rfl) (by kernel_rfl) (fun _ _ _ h => h) (Or.inl ⟨by rfl, ?hy3⟩) (by assumption) ?rest3
  case hy3 => (intro w hSw; (try dsimp only at hSw); go_simp; (try with_reducible rfl))
  (try simp (maxSteps := 4000000) only [List.getElem_toArray, Act.put])
  refine wpAnyH_ready (rs := [4]) (by kernel_rfl) (by simp) ?_
  refine AllReadyH.cons (o := _) rfl (fun K hK => ?_) AllReadyH.nil
  go_simp
  (go_at_call 69; ((refine (HI.out _ _ (by first | exact ha | omega)).mono ?_); rintro r wq ⟨rfl, hbq⟩; have q0 : wq.cell? ⟨w.heap.size + 1, 0, none⟩ = some (.int .i64 0) := carry hbq (by first | with_reducible assumption | go_simp); have qf0 : wq.frozen? ⟨w.heap.size + 1, 0, none⟩ = false := carryF hbq (v := .int .i64 0) (by first | with_reducible assumption | go_simp) (by first | with_reducible assumption | go_simp); have q1 : wq.cell? ⟨w.heap.size + 1, 1, none⟩ = some (.int .i64 0) := carry hbq (by first | with_reducible assumption | go_simp); have qf1 : wq.frozen? ⟨w.heap.size + 1, 1, none⟩ = false := carryF hbq (v := .int .i64 0) (by first | with_reducible assumption | go_simp) (by first | with_reducible assumption | go_simp); have qz : w.heap.size + 1 < wq.heap.size := Nat.lt_of_lt_of_le (by first | with_reducible assumption | (simp <;> omega)) hbq.size; have qb : Below w.heap.size w wq := Below.trans (by first | with_reducible assumption | with_reducible exact HB0.out.drew | with_reducible exact HB0.out | with_reducible exact Below.drew (by with_reducible assumption)) (hbq.mono (by first | omega | (simp <;> omega)))))
  clear hK
  go_wp2_with fail
  all_goals first | exact ⟨rfl, qb⟩ | (show _ ∧ _; exact ⟨rfl, qb⟩) | (simp [bodyPost]; exact qb)

set_option maxRecDepth 100000 in
set_option maxHeartbeats 1600000 in
theorem po_odd_r (n p : Nat) (m e f g a b c d : Int) (w : World) (ha : IntKind.u64.wrap ((n : Int) - 1) = (p : Int)) (h0 : ((n : Int) == 0) = false) (h1 : ((n : Int) % 2 == 1) = true) (HI : Hid (∀ (x : Int) (W : World), x = (p : Int) → Calls Tryz.prog 69 #[realV m e, .int .u64 x] W fun r w' => r = .returned (realV f g) ∧ Below W.heap.size W w')) (HPR : Hid (∀ W : World, Calls Tryz.prog 54 #[realV m e, realV f g] W fun r w' => r = .returned (realV a b) ∧ Below W.heap.size W w')) (HRO : Hid (∀ W : World, Calls Tryz.prog 39 #[realV a b] W fun r w' => r = .panicked [{ v := .iface 24 (.int .i64 3), recovered := false }] ∧ Below W.heap.size W w')) :
    Calls Tryz.prog 69 #[realV m e, .int .u64 (n : Int)] w fun r w' => r = .panicked [{ v := .iface 24 (.int .i64 3), recovered := false }] ∧ Below w.heap.size w w' := by
  have HB0 := Lib.hid ((by repeat (first | exact Below.refl _ _ | refine Below.alloc ?_ (by simp <;> omega) _) : Below w.heap.size w ((w.alloc (Obj.cells #[Value.int IntKind.i64 m, Value.int IntKind.i64 e] 23)).alloc (Obj.cells #[Value.int IntKind.i64 0, Value.int IntKind.i64 0] 23))))
  go_enter Tryz.func69, Tryz.ntmps69
  go_wp2_with fail
  refine wp_region_held_drew (S := fun wx => wx.cell? ⟨w.heap.size, 0, none⟩ = some (.int .i64 m) ∧ wx.cell? ⟨w.heap.size, 1, none⟩ = some (.int .i64 e) ∧ w.heap.size < wx.heap.size ∧ Below w.heap.size w wx) (by kernel_rfl) ?_ (fun hHeld => ?_)
  · (try dsimp only)
    (first | (go_keep; done) | ((try go_split_ands); (repeat' apply And.intro) <;> first | with_reducible assumption | (exact carry hbq (by with_reducible assumption)) | (go_simp; done) | (simp only [World.size_alloc, World.size_drew]; omega) | ((repeat (first | with_reducible assumption | with_reducible exact HB0.out | with_reducible refine Below.drew ?_ | with_reducible refine Below.setCell ?_ (by first | omega | (simp; done) | (simp <;> omega)) _)); done) | (exact Nat.lt_of_lt_of_le (by first | with_reducible assumption | (simp <;> omega)) hbq.size) | (simp <;> omega)))
  refine wpAnyH_take (i := 0) (oi := _) (v := ?_) rfl (by kernel_rfl) (by kernel_rfl) (by kernel_rfl) (fun _ _ _ h => h) (Or.inl ⟨by rfl, ?hy0⟩) (by assumption) ?rest0
  case hy0 => (intro w hSw; (try dsimp only at hSw); go_simp; (try with_reducible rfl))
  (try simp (maxSteps := 4000000) only [List.getElem_toArray, List.getElem_cons_zero, Act.put, List.setIfInBounds_toArray, List.set_cons_zero, List.set_cons_succ])
  refine wpAnyH_take (i := 1) (oi := _) (v := ?_) rfl (by kernel_rfl) (by kernel_rfl) (by kernel_rfl) (fun _ _ _ h => h) (Or.inl ⟨by rfl, ?hy1⟩) (by assumption) ?rest1
  case hy1 => (intro w hSw; (try dsimp only at hSw); go_simp; (try with_reducible rfl))
  (try simp (maxSteps := 4000000) only [List.getElem_toArray, Act.put, List.setIfInBounds_toArray])
  refine wpAnyH_take (i := 2) (oi := _) (v := ?_) rfl (by kernel_rfl) (by kernel_rfl) (by kernel_rfl) (fun _ _ _ h => h) (Or.inl ⟨by rfl, ?hy2⟩) (by assumption) ?rest2
  case hy2 => (intro w hSw; (try dsimp only at hSw); go_simp; (try with_reducible rfl))
  (try simp (maxSteps := 4000000) only [List.getElem_toArray, Act.put])
  refine wpAnyH_take (i := 3) (oi := _) (v := ?_) rfl (by kernel_rfl) (by kernel_rfl) (by kernel_rfl) (fun _ _ _ h => h) (Or.inl ⟨by rfl, ?hy3⟩) (by assumption) ?rest3
  case hy3 => (intro w hSw; (try dsimp only at hSw); go_simp; (try with_reducible rfl))
  (try simp (maxSteps := 4000000) only [List.getElem_toArray, Act.put])
  refine wpAnyH_ready (rs := [4]) (by kernel_rfl) (by simp) ?_
  refine AllReadyH.cons (o := _) rfl (fun K hK => ?_) AllReadyH.nil
  go_simp
  (go_at_call 69; ((refine (HI.out _ _ (by first | exact ha | omega)).mono ?_); rintro r wq ⟨rfl, hbq⟩; have q0 : wq.cell? ⟨w.heap.size + 1, 0, none⟩ = some (.int .i64 0) := carry hbq (by first | with_reducible assumption | go_simp); have qf0 : wq.frozen? ⟨w.heap.size + 1, 0, none⟩ = false := carryF hbq (v := .int .i64 0) (by first | with_reducible assumption | go_simp) (by first | with_reducible assumption | go_simp); have q1 : wq.cell? ⟨w.heap.size + 1, 1, none⟩ = some (.int .i64 0) := carry hbq (by first | with_reducible assumption | go_simp); have qf1 : wq.frozen? ⟨w.heap.size + 1, 1, none⟩ = false := carryF hbq (v := .int .i64 0) (by first | with_reducible assumption | go_simp) (by first | with_reducible assumption | go_simp); have qz : w.heap.size + 1 < wq.heap.size := Nat.lt_of_lt_of_le (by first | with_reducible assumption | (simp <;> omega)) hbq.size; have qb : Below w.heap.size w wq := Below.trans (by first | with_reducible assumption | with_reducible exact HB0.out.drew | with_reducible exact HB0.out | with_reducible exact Below.drew (by with_reducible assumption)) (hbq.mono (by first | omega | (simp <;> omega)))))
  go_wp2_with fail
  refine hK.out _ _ ?_ (fun hHeld => ?_)
  · (try dsimp only)
    (first | (go_keep; done) | ((try go_split_ands); (repeat' apply And.intro) <;> first | with_reducible assumption | (exact carry hbq (by with_reducible assumption)) | (go_simp; done) | (simp only [World.size_alloc, World.size_drew]; omega) | ((repeat (first | with_reducible assumption | with_reducible exact HB0.out | with_reducible refine Below.drew ?_ | with_reducible refine Below.setCell ?_ (by first | omega | (simp; done) | (simp <;> omega)) _)); done) | (exact Nat.lt_of_lt_of_le (by first | with_reducible assumption | (simp <;> omega)) hbq.size) | (simp <;> omega)))
  clear hK K
  (try simp (maxSteps := 4000000) only [List.getElem_toArray, List.getElem_cons_zero, Act.put, List.setIfInBounds_toArray, List.set_cons_zero, List.set_cons_succ])
  refine wpAnyH_ready (rs := [5]) (by kernel_rfl) (by simp) ?_
  refine AllReadyH.cons (o := _) rfl (fun K hK => ?_) AllReadyH.nil
  go_simp
  (go_at_call 54; ((with_reducible refine (HPR.out _).mono ?_); rintro r wq ⟨rfl, hbq⟩; have q0 : wq.cell? ⟨w.heap.size + 1, 0, none⟩ = some (.int .i64 0) := carry hbq (by first | with_reducible assumption | go_simp); have qf0 : wq.frozen? ⟨w.heap.size + 1, 0, none⟩ = false := carryF hbq (v := .int .i64 0) (by first | with_reducible assumption | go_simp) (by first | with_reducible assumption | go_simp); have q1 : wq.cell? ⟨w.heap.size + 1, 1, none⟩ = some (.int .i64 0) := carry hbq (by first | with_reducible assumption | go_simp); have qf1 : wq.frozen? ⟨w.heap.size + 1, 1, none⟩ = false := carryF hbq (v := .int .i64 0) (by first | with_reducible assumption | go_simp) (by first | with_reducible assumption | go_simp); have qz : w.heap.size + 1 < wq.heap.size := Nat.lt_of_lt_of_le (by first | with_reducible assumption | (simp <;> omega)) hbq.size; have qb : Below w.heap.size w wq := Below.trans (by first | with_reducible assumption | with_reducible exact HB0.out.drew | with_reducible exact HB0.out | with_reducible exact Below.drew (by with_reducible assumption)) (hbq.mono (by first | omega | (simp <;> omega)))))
  go_wp2_with fail
  refine hK.out _ _ ?_ (fun hHeld => ?_)
  · (try dsimp only)
    (first | (go_keep; done) | ((try go_split_ands); (repeat' apply And.intro) <;> first | with_reducible assumption | (exact carry hbq (by with_reducible assumption)) | (go_simp; done) | (simp only [World.size_alloc, World.size_drew]; omega) | ((repeat (first | with_reducible assumption | with_reducible exact HB0.out | with_reducible refine Below.drew ?_ | with_reducible refine Below.setCell ?_ (by first | omega | (simp; done) | (simp <;> omega)) _)); done) | (exact Nat.lt_of_lt_of_le (by first | with_reducible assumption | (simp <;> omega)) hbq.size) | (simp <;> omega)))
  clear hK K
  (try simp (maxSteps := 4000000) only [List.getElem_toArray, List.getElem_cons_zero, Act.put, List.setIfInBounds_toArray, List.set_cons_zero, List.set_cons_succ])
  refine wpAnyH_ready (rs := [6]) (by kernel_rfl) (by simp) ?_
  refine AllReadyH.cons (o := _) rfl (fun K hK => ?_) AllReadyH.nil
  go_simp
  (go_at_call 39; ((with_reducible refine (HRO.out _).mono ?_); rintro r wq ⟨rfl, hbq⟩; have q0 : wq.cell? ⟨w.heap.size + 1, 0, none⟩ = some (.int .i64 0) := carry hbq (by first | with_reducible assumption | go_simp); have qf0 : wq.frozen? ⟨w.heap.size + 1, 0, none⟩ = false := carryF hbq (v := .int .i64 0) (by first | with_reducible assumption | go_simp) (by first | with_reducible assumption | go_simp); have q1 : wq.cell? ⟨w.heap.size + 1, 1, none⟩ = some (.int .i64 0) := carry hbq (by first | with_reducible assumption | go_simp); have qf1 : wq.frozen? ⟨w.heap.size + 1, 1, none⟩ = false := carryF hbq (v := .int .i64 0) (by first | with_reducible assumption | go_simp) (by first | with_reducible assumption | go_simp); have qz : w.heap.size + 1 < wq.heap.size := Nat.lt_of_lt_of_le (by first | with_reducible assumption | (simp <;> omega)) hbq.size; have qb : Below w.heap.size w wq := Below.trans (by first | with_reducible assumption | with_reducible exact HB0.out.drew | with_reducible exact HB0.out | with_reducible exact Below.drew (by with_reducible assumption)) (hbq.mono (by first | omega | (simp <;> omega)))))
  clear hK
  go_wp2_with fail
  all_goals first | exact ⟨rfl, qb⟩ | (show _ ∧ _; exact ⟨rfl, qb⟩) | (simp [bodyPost]; exact qb)

set_option maxRecDepth 100000 in
set_option maxHeartbeats 1600000 in
theorem po_even (n k : Nat) (m e f g a b c d : Int) (w : World) (hn : n ≤ 18446744073709551615) (h0 : ((n : Int) == 0) = false) (h1 : ((n : Int) % 2 == 1) = false) (hd : (n : Int) / 2 = (k : Int)) (HI : Hid (∀ W : World, Calls Tryz.prog 69 #[realV m e, .int .u64 (k : Int)] W fun r w' => r = .returned (realV f g) ∧ Below W.heap.size W w')) (HPR : Hid (∀ W : World, Calls Tryz.prog 54 #[realV f g, realV f g] W fun r w' => r = .returned (realV a b) ∧ Below W.heap.size W w')) (HRO : Hid (∀ W : World, Calls Tryz.prog 39 #[realV a b] W fun r w' => r = .returned (realV c d) ∧ Below W.heap.size W w')) :
    Calls Tryz.prog 69 #[realV m e, .int .u64 (n : Int)] w fun r w' => r = .returned (realV c d) ∧ Below w.heap.size w w' := by
  go_enter Tryz.func69, Tryz.ntmps69
  go_wp2_with fail
  refine (HI.out _).mono ?_
  rintro r w1 ⟨rfl, hb1⟩
  have f1_0 : w1.frozen? ⟨w.heap.size + 1, 0, none⟩ = false := carryF hb1 (v := .int .i64 0) (by first | with_reducible assumption | go_simp) (by first | with_reducible assumption | go_simp)
  have f1_1 : w1.frozen? ⟨w.heap.size + 1, 1, none⟩ = false := carryF hb1 (v := .int .i64 0) (by first | with_reducible assumption | go_simp) (by first | with_reducible assumption | go_simp)
  have c1_0 : w1.cell? ⟨w.heap.size + 1, 0, none⟩ = some (.int .i64 0) := carry hb1 (by first | with_reducible assumption | go_simp)
  have c1_1 : w1.cell? ⟨w.heap.size + 1, 1, none⟩ = some (.int .i64 0) := carry hb1 (by first | with_reducible assumption | go_simp)
  have z1 : w.heap.size + 1 < w1.heap.size := by have := hb1.size; first | omega | (simp at this; omega)
  have HBB := Lib.hid ((by repeat (first | with_reducible exact Below.refl _ _ | with_reducible refine Below.setCell ?_ (by first | omega | (simp; done) | (simp; omega)) _ | with_reducible refine Below.drew ?_ | with_reducible refine belowN ?_ _ | with_reducible refine Below.alloc ?_ (by first | omega | (simp; done) | (simp; omega)) _) : Below w.heap.size w _).trans (hb1.mono (by first | omega | (simp; done) | (simp; omega))))
  clear hb1
  have hz1 := HBB.out.size
  go_wp2_with fail
  refine (HPR.out _).mono ?_
  rintro r w2 ⟨rfl, hb2⟩
  have f1_0 : w2.frozen? ⟨w.heap.size + 1, 0, none⟩ = false := carryF hb2 (v := .int .i64 0) (by first | with_reducible assumption | go_simp) (by first | with_reducible assumption | go_simp)
  have f1_1 : w2.frozen? ⟨w.heap.size + 1, 1, none⟩ = false := carryF hb2 (v := .int .i64 0) (by first | with_reducible assumption | go_simp) (by first | with_reducible assumption | go_simp)
  have c1_0 : w2.cell? ⟨w.heap.size + 1, 0, none⟩ = some (.int .i64 0) := carry hb2 (by first | with_reducible assumption | go_simp)
  have c1_1 : w2.cell? ⟨w.heap.size + 1, 1, none⟩ = some (.int .i64 0) := carry hb2 (by first | with_reducible assumption | go_simp)
  have z1 : w.heap.size + 1 < w2.heap.size := by have := hb2.size; first | omega | (simp at this; omega)
  have HBB := Lib.hid ((by repeat (first | with_reducible exact HBB.out | with_reducible refine Below.setCell ?_ (by first | omega | (simp; done) | (simp; omega)) _ | with_reducible refine Below.drew ?_ | with_reducible refine belowN ?_ _ | with_reducible refine Below.alloc ?_ (by first | omega | (simp; done) | (simp; omega)) _) : Below w.heap.size w _).trans (hb2.mono (by first | omega | (simp; done) | (simp; omega))))
  clear hb2
  go_wp2_with fail
  refine (HRO.out _).mono ?_
  rintro r w3 ⟨rfl, hb3⟩
  have f1_0 : w3.frozen? ⟨w.heap.size + 1, 0, none⟩ = false := carryF hb3 (v := .int .i64 0) (by first | with_reducible assumption | go_simp) (by first | with_reducible assumption | go_simp)
  have f1_1 : w3.frozen? ⟨w.heap.size + 1, 1, none⟩ = false := carryF hb3 (v := .int .i64 0) (by first | with_reducible assumption | go_simp) (by first | with_reducible assumption | go_simp)
  have c1_0 : w3.cell? ⟨w.heap.size + 1, 0, none⟩ = some (.int .i64 0) := carry hb3 (by first | with_reducible assumption | go_simp)
  have c1_1 : w3.cell? ⟨w.heap.size + 1, 1, none⟩ = some (.int .i64 0) := carry hb3 (by first | with_reducible assumption | go_simp)
  have z1 : w.heap.size + 1 < w3.heap.size := by have := hb3.size; first | omega | (simp at this; omega)
  have HBB := Lib.hid ((by repeat (first | with_reducible exact HBB.out | with_reducible refine Below.setCell ?_ (by first | omega | (simp; done) | (simp; omega)) _ | with_reducible refine Below.drew ?_ | with_reducible refine belowN ?_ _ | with_reducible refine Below.alloc ?_ (by first | omega | (simp; done) | (simp; omega)) _) : Below w.heap.size w _).trans (hb3.mono (by first | omega | (simp; done) | (simp; omega))))
  clear hb3
  go_wp2_with fail
  refine bodyPost_ret (v := realV c d) (by simp [results, Tryz.results69, go_sem, c1_0, c1_1]) rfl ⟨rfl, by repeat (first | with_reducible exact HBB.out | with_reducible exact Below.refl _ _ | with_reducible refine Below.drew ?_ | with_reducible refine belowN ?_ _ | with_reducible refine Below.setCell ?_ (by first | omega | (simp; done) | (simp; omega)) _ | with_reducible refine Below.alloc ?_ (by first | omega | (simp; done) | (simp; omega)) _)⟩

set_option maxRecDepth 100000 in
set_option maxHeartbeats 1600000 in
theorem po_even_p (n k : Nat) (m e f g a b c d : Int) (w : World) (hn : n ≤ 18446744073709551615) (h0 : ((n : Int) == 0) = false) (h1 : ((n : Int) % 2 == 1) = false) (hd : (n : Int) / 2 = (k : Int)) (HI : Hid (∀ W : World, Calls Tryz.prog 69 #[realV m e, .int .u64 (k : Int)] W fun r w' => r = .panicked [{ v := .iface 24 (.int .i64 3), recovered := false }] ∧ Below W.heap.size W w')) :
    Calls Tryz.prog 69 #[realV m e, .int .u64 (n : Int)] w fun r w' => r = .panicked [{ v := .iface 24 (.int .i64 3), recovered := false }] ∧ Below w.heap.size w w' := by
  go_enter Tryz.func69, Tryz.ntmps69
  go_wp2_with fail
  refine (HI.out _).mono ?_
  rintro r w1 ⟨rfl, hb1⟩
  have f1_0 : w1.frozen? ⟨w.heap.size + 1, 0, none⟩ = false := carryF hb1 (v := .int .i64 0) (by first | with_reducible assumption | go_simp) (by first | with_reducible assumption | go_simp)
  have f1_1 : w1.frozen? ⟨w.heap.size + 1, 1, none⟩ = false := carryF hb1 (v := .int .i64 0) (by first | with_reducible assumption | go_simp) (by first | with_reducible assumption | go_simp)
  have c1_0 : w1.cell? ⟨w.heap.size + 1, 0, none⟩ = some (.int .i64 0) := carry hb1 (by first | with_reducible assumption | go_simp)
  have c1_1 : w1.cell? ⟨w.heap.size + 1, 1, none⟩ = some (.int .i64 0) := carry hb1 (by first | with_reducible assumption | go_simp)
  have z1 : w.heap.size + 1 < w1.heap.size := by have := hb1.size; first | omega | (simp at this; omega)
  have HBB := Lib.hid ((by repeat (first | with_reducible exact Below.refl _ _ | with_reducible refine Below.setCell ?_ (by first | omega | (simp; done) | (simp; omega)) _ | with_reducible refine Below.drew ?_ | with_reducible refine belowN ?_ _ | with_reducible refine Below.alloc ?_ (by first | omega | (simp; done) | (simp; omega)) _) : Below w.heap.size w _).trans (hb1.mono (by first | omega | (simp; done) | (simp; omega))))
  clear hb1
  go_wp2_with fail
  all_goals first | exact ⟨rfl, HBB.out⟩ | (show _ ∧ _; exact ⟨rfl, HBB.out⟩) | (simp [bodyPost]; exact HBB.out)

set_option maxRecDepth 100000 in
set_option maxHeartbeats 1600000 in
theorem po_even_r (n k : Nat) (m e f g a b c d : Int) (w : World) (hn : n ≤ 18446744073709551615) (h0 : ((n : Int) == 0) = false) (h1 : ((n : Int) % 2 == 1) = false) (hd : (n : Int) / 2 = (k : Int)) (HI : Hid (∀ W : World, Calls Tryz.prog 69 #[realV m e, .int .u64 (k : Int)] W fun r w' => r = .returned (realV f g) ∧ Below W.heap.size W w')) (HPR : Hid (∀ W : World, Calls Tryz.prog 54 #[realV f g, realV f g] W fun r w' => r = .returned (realV a b) ∧ Below W.heap.size W w')) (HRO : Hid (∀ W : World, Calls Tryz.prog 39 #[realV a b] W fun r w' => r = .panicked [{ v := .iface 24 (.int .i64 3), recovered := false }] ∧ Below W.heap.size W w')) :
    Calls Tryz.prog 69 #[realV m e, .int .u64 (n : Int)] w fun r w' => r = .panicked [{ v := .iface 24 (.int .i64 3), recovered := false }] ∧ Below w.heap.size w w' := by
  go_enter Tryz.func69, Tryz.ntmps69
  go_wp2_with fail
  refine (HI.out _).mono ?_
  rintro r w1 ⟨rfl, hb1⟩
  have f1_0 : w1.frozen? ⟨w.heap.size + 1, 0, none⟩ = false := carryF hb1 (v := .int .i64 0) (by first | with_reducible assumption | go_simp) (by first | with_reducible assumption | go_simp)
  have f1_1 : w1.frozen? ⟨w.heap.size + 1, 1, none⟩ = false := carryF hb1 (v := .int .i64 0) (by first | with_reducible assumption | go_simp) (by first | with_reducible assumption | go_simp)
  have c1_0 : w1.cell? ⟨w.heap.size + 1, 0, none⟩ = some (.int .i64 0) := carry hb1 (by first | with_reducible assumption | go_simp)
  have c1_1 : w1.cell? ⟨w.heap.size + 1, 1, none⟩ = some (.int .i64 0) := carry hb1 (by first | with_reducible assumption | go_simp)
  have z1 : w.heap.size + 1 < w1.heap.size := by have := hb1.size; first | omega | (simp at this; omega)
  have HBB := Lib.hid ((by repeat (first | with_reducible exact Below.refl _ _ | with_reducible refine Below.setCell ?_ (by first | omega | (simp; done) | (simp; omega)) _ | with_reducible refine Below.drew ?_ | with_reducible refine belowN ?_ _ | with_reducible refine Below.alloc ?_ (by first | omega | (simp; done) | (simp; omega)) _) : Below w.heap.size w _).trans (hb1.mono (by first | omega | (simp; done) | (simp; omega))))
  clear hb1
  have hz1 := HBB.out.size
  go_wp2_with fail
  refine (HPR.out _).mono ?_
  rintro r w2 ⟨rfl, hb2⟩
  have f1_0 : w2.frozen? ⟨w.heap.size + 1, 0, none⟩ = false := carryF hb2 (v := .int .i64 0) (by first | with_reducible assumption | go_simp) (by first | with_reducible assumption | go_simp)
  have f1_1 : w2.frozen? ⟨w.heap.size + 1, 1, none⟩ = false := carryF hb2 (v := .int .i64 0) (by first | with_reducible assumption | go_simp) (by first | with_reducible assumption | go_simp)
  have c1_0 : w2.cell? ⟨w.heap.size + 1, 0, none⟩ = some (.int .i64 0) := carry hb2 (by first | with_reducible assumption | go_simp)
  have c1_1 : w2.cell? ⟨w.heap.size + 1, 1, none⟩ = some (.int .i64 0) := carry hb2 (by first | with_reducible assumption | go_simp)
  have z1 : w.heap.size + 1 < w2.heap.size := by have := hb2.size; first | omega | (simp at this; omega)
  have HBB := Lib.hid ((by repeat (first | with_reducible exact HBB.out | with_reducible refine Below.setCell ?_ (by first | omega | (simp; done) | (simp; omega)) _ | with_reducible refine Below.drew ?_ | with_reducible refine belowN ?_ _ | with_reducible refine Below.alloc ?_ (by first | omega | (simp; done) | (simp; omega)) _) : Below w.heap.size w _).trans (hb2.mono (by first | omega | (simp; done) | (simp; omega))))
  clear hb2
  go_wp2_with fail
  refine (HRO.out _).mono ?_
  rintro r w3 ⟨rfl, hb3⟩
  have f1_0 : w3.frozen? ⟨w.heap.size + 1, 0, none⟩ = false := carryF hb3 (v := .int .i64 0) (by first | with_reducible assumption | go_simp) (by first | with_reducible assumption | go_simp)
  have f1_1 : w3.frozen? ⟨w.heap.size + 1, 1, none⟩ = false := carryF hb3 (v := .int .i64 0) (by first | with_reducible assumption | go_simp) (by first | with_reducible assumption | go_simp)
  have c1_0 : w3.cell? ⟨w.heap.size + 1, 0, none⟩ = some (.int .i64 0) := carry hb3 (by first | with_reducible assumption | go_simp)
  have c1_1 : w3.cell? ⟨w.heap.size + 1, 1, none⟩ = some (.int .i64 0) := carry hb3 (by first | with_reducible assumption | go_simp)
  have z1 : w.heap.size + 1 < w3.heap.size := by have := hb3.size; first | omega | (simp at this; omega)
  have HBB := Lib.hid ((by repeat (first | with_reducible exact HBB.out | with_reducible refine Below.setCell ?_ (by first | omega | (simp; done) | (simp; omega)) _ | with_reducible refine Below.drew ?_ | with_reducible refine belowN ?_ _ | with_reducible refine Below.alloc ?_ (by first | omega | (simp; done) | (simp; omega)) _) : Below w.heap.size w _).trans (hb3.mono (by first | omega | (simp; done) | (simp; omega))))
  clear hb3
  go_wp2_with fail
  all_goals first | exact ⟨rfl, HBB.out⟩ | (show _ ∧ _; exact ⟨rfl, HBB.out⟩) | (simp [bodyPost]; exact HBB.out)

theorem one_isA (W : World) : Calls Tryz.prog 10 #[.int .i64 1] W fun r w' => r = .returned (realV 8388608 (-23)) ∧ Below W.heap.size W w' := by
  have h := fromInt_any 1 W (by decide) (by decide)
  rw [show aM (rI 1 0) = 8388608 from by decide +kernel, show aE (rI 1 0) = -23 from by decide +kernel] at h
  exact h

/-- the value of an index -/
def VI (p : Int) : Int := UU (aM p) (aE p)
/-- the index of a product, none past the greatest one -/
def mI (U V : Int) : Option Int := if -2533359615 ≤ RI (U * V) 150 ∧ RI (U * V) 150 ≤ 2533359615 then some (RI (U * V) 150) else none
/-- the index of a power -/
def pwO (U : Int) (n : Nat) : Option Int :=
  if n = 0 then some 1073741824
  else if n % 2 = 1 then (pwO U (n - 1)).bind (fun p => mI U (VI p))
  else (pwO U (n / 2)).bind (fun p => mI (VI p) (VI p))
termination_by n
decreasing_by all_goals omega

theorem mI_in {U V p : Int} (h : mI U V = some p) : -2533359615 ≤ p ∧ p ≤ 2533359615 := by
  unfold mI at h
  split at h
  · rename_i hc
    cases h
    exact hc
  · cases h
theorem pwO_in (U : Int) (n : Nat) {p : Int} (h : pwO U n = some p) : -2533359615 ≤ p ∧ p ≤ 2533359615 := by
  unfold pwO at h
  split at h
  · cases h; decide
  · split at h
    · obtain ⟨q, _, h2⟩ := Option.bind_eq_some_iff.1 h
      exact mI_in h2
    · obtain ⟨q, _, h2⟩ := Option.bind_eq_some_iff.1 h
      exact mI_in h2

/-- how power ends -/
def pwE (o : Option Int) : Ending := match o with
  | some p => .returned (realV (aM p) (aE p))
  | none => .panicked [{ v := .iface 24 (.int .i64 3), recovered := false }]

theorem mulp_bd {a b : Int} (h1 : -16777216 ≤ a) (h2 : a ≤ 16777216) (h3 : -16777216 ≤ b) (h4 : b ≤ 16777216) : -281474976710656 ≤ a * b ∧ a * b ≤ 281474976710656 := by
  have k1 := Int.mul_nonneg (show 0 ≤ 16777216 - a by omega) (show 0 ≤ 16777216 + b by omega)
  have k2 := Int.mul_nonneg (show 0 ≤ 16777216 + a by omega) (show 0 ≤ 16777216 + b by omega)
  have k3 := Int.mul_nonneg (show 0 ≤ 16777216 - a by omega) (show 0 ≤ 16777216 - b by omega)
  have k4 := Int.mul_nonneg (show 0 ≤ 16777216 + a by omega) (show 0 ≤ 16777216 - b by omega)
  rw [Int.sub_mul, Int.mul_add, Int.mul_add] at k1
  rw [Int.add_mul, Int.mul_add, Int.mul_add] at k2
  rw [Int.sub_mul, Int.mul_sub, Int.mul_sub] at k3
  rw [Int.add_mul, Int.mul_sub, Int.mul_sub] at k4
  omega

theorem power_any (m e : Int) (h : vr m e = true) (n : Nat) : ∀ w : World, n ≤ 18446744073709551615 → Calls Tryz.prog 69 #[realV m e, .int .u64 (n : Int)] w fun r w' => r = pwE (pwO (UU m e) n) ∧ Below w.heap.size w w' := by
  obtain ⟨m1, m2, e1, e2⟩ := vr_bd h
  induction n using Nat.strongRecOn with
  | ind n ih =>
    intro w hn
    rcases Nat.eq_zero_or_pos n with rfl | hp
    · rw [pwO, if_pos rfl]
      exact po_zero m e w (Lib.hid one_isA)
    · have e0 : ((n : Int) == 0) = false := by simp; omega
      rcases Nat.mod_two_eq_zero_or_one n with h1 | h1
      · rw [pwO, if_neg (by omega), if_neg (by omega)]
        have hI := fun W => ih (n / 2) (by omega) W (by omega)
        have t1 : ((n : Int) % 2 == 1) = false := by simp; omega
        cases ho : pwO (UU m e) (n / 2) with
        | none =>
          rw [ho] at hI
          exact po_even_p n (n / 2) m e 0 0 0 0 0 0 w hn e0 t1 (by omega) (Lib.hid hI)
        | some p =>
          rw [ho] at hI
          have hp2 := pwO_in _ _ ho
          have hv := at_vr hp2.1 hp2.2
          obtain ⟨f1, f2, g1, g2⟩ := vr_bd hv
          have hpr := fun W => product_any (aM p) (aE p) (aM p) (aE p) W (by omega) (by omega) (by omega) (by omega) (by omega) (by omega) (by omega) (by omega)
          have hb := mulp_bd (show -16777216 ≤ aM p by omega) (show aM p ≤ 16777216 by omega) (show -16777216 ≤ aM p by omega) (show aM p ≤ 16777216 by omega)
          have hmv := mul_val hv hv
          show Calls _ _ _ _ fun r w' => r = pwE (mI (VI p) (VI p)) ∧ _
          unfold mI VI
          rw [← hmv]
          cases hk : rOk (aM p * aM p) (aE p + aE p)
          · have hk2 := of_decide_eq_false hk
            rw [if_neg hk2]
            exact po_even_r n (n / 2) m e (aM p) (aE p) _ _ 0 0 w hn e0 t1 (by omega) (Lib.hid hI) (Lib.hid hpr) (Lib.hid (fun W => rounded_over _ _ W (by omega) (by omega) (by omega) (by omega) hk))
          · have hk2 := of_decide_eq_true hk
            rw [if_pos hk2]
            exact po_even n (n / 2) m e (aM p) (aE p) _ _ _ _ w hn e0 t1 (by omega) (Lib.hid hI) (Lib.hid hpr) (Lib.hid (fun W => rounded_ok _ _ W (by omega) (by omega) (by omega) (by omega) hk))
      · rw [pwO, if_neg (by omega), if_pos h1]
        have hI : ∀ (x : Int) (W : World), x = ((n - 1 : Nat) : Int) → Calls Tryz.prog 69 #[realV m e, .int .u64 x] W fun r w' => r = pwE (pwO (UU m e) (n - 1)) ∧ Below W.heap.size W w' := fun x W hx => by
          rw [hx]
          exact ih (n - 1) (by omega) W (by omega)
        have t1 : ((n : Int) % 2 == 1) = true := by simp; omega
        have ha : IntKind.u64.wrap ((n : Int) - 1) = ((n - 1 : Nat) : Int) := by rw [u64_in _ (by omega) (by omega)]; omega
        cases ho : pwO (UU m e) (n - 1) with
        | none =>
          rw [ho] at hI
          exact po_odd_p n (n - 1) m e 0 0 0 0 0 0 w ha e0 t1 (Lib.hid hI)
        | some p =>
          rw [ho] at hI
          have hp2 := pwO_in _ _ ho
          have hv := at_vr hp2.1 hp2.2
          obtain ⟨f1, f2, g1, g2⟩ := vr_bd hv
          have hpr := fun W => product_any m e (aM p) (aE p) W (by omega) (by omega) (by omega) (by omega) (by omega) (by omega) (by omega) (by omega)
          have hb := mulp_bd (show -16777216 ≤ m by omega) (show m ≤ 16777216 by omega) (show -16777216 ≤ aM p by omega) (show aM p ≤ 16777216 by omega)
          have hmv := mul_val h hv
          show Calls _ _ _ _ fun r w' => r = pwE (mI (UU m e) (VI p)) ∧ _
          unfold mI VI
          rw [← hmv]
          cases hk : rOk (m * aM p) (e + aE p)
          · have hk2 := of_decide_eq_false hk
            rw [if_neg hk2]
            exact po_odd_r n (n - 1) m e (aM p) (aE p) _ _ 0 0 w ha e0 t1 (Lib.hid hI) (Lib.hid hpr) (Lib.hid (fun W => rounded_over _ _ W (by omega) (by omega) (by omega) (by omega) hk))
          · have hk2 := of_decide_eq_true hk
            rw [if_pos hk2]
            exact po_odd n (n - 1) m e (aM p) (aE p) _ _ _ _ w ha e0 t1 (Lib.hid hI) (Lib.hid hpr) (Lib.hid (fun W => rounded_ok _ _ W (by omega) (by omega) (by omega) (by omega) hk))

end Go.Proofs.YtbfknapmhkpgcaaGreatDoor

namespace Go.Proofs.YtbfknapmhkpgcaaGreatDoor
open Go.RowKit
set_option linter.unusedVariables false

set_option maxRecDepth 100000 in
set_option maxHeartbeats 1600000 in
theorem p1_ok (b d : Nat) (n : Nat) (m e f g : Int) (w : World) (c0 : w.cell? ⟨b, 0, none⟩ = some (.int .i64 m)) (c1 : w.cell? ⟨b, 1, none⟩ = some (.int .i64 e)) (c2 : w.cell? ⟨d, 0, none⟩ = some (.int .i64 (n : Int))) (zb : b < w.heap.size) (zd : d < w.heap.size) (hn : n ≤ 9223372036854775807) (HS : Hid (∀ W : World, Calls Tryz.prog 69 #[realV m e, .int .u64 (n : Int)] W fun r w' => r = .returned (realV f g) ∧ Below W.heap.size W w')) :
    Calls Tryz.prog 68 #[.pointer (some ⟨b, 0, none⟩), .pointer (some ⟨d, 0, none⟩)] w fun r w' => r = .returned (realV f g) ∧ Below w.heap.size w w' := by
  have wu : IntKind.u64.wrap (n : Int) = (n : Int) := u64_in _ (by omega) (by omega)
  go_enter Tryz.func68, Tryz.ntmps68
  go_wp2_with fail
  refine (HS.out _).mono ?_
  rintro r w1 ⟨rfl, hb1⟩
  have f0_0 : w1.frozen? ⟨w.heap.size, 0, none⟩ = false := carryF hb1 (v := .int .i64 0) (by first | with_reducible assumption | go_simp) (by first | with_reducible assumption | go_simp)
  have f0_1 : w1.frozen? ⟨w.heap.size, 1, none⟩ = false := carryF hb1 (v := .int .i64 0) (by first | with_reducible assumption | go_simp) (by first | with_reducible assumption | go_simp)
  have c0_0 : w1.cell? ⟨w.heap.size, 0, none⟩ = some (.int .i64 0) := carry hb1 (by first | with_reducible assumption | go_simp)
  have c0_1 : w1.cell? ⟨w.heap.size, 1, none⟩ = some (.int .i64 0) := carry hb1 (by first | with_reducible assumption | go_simp)
  have z0 : w.heap.size < w1.heap.size := by have := hb1.size; first | omega | (simp at this; omega)
  have HBB := Lib.hid ((by repeat (first | with_reducible exact Below.refl _ _ | with_reducible refine Below.setCell ?_ (by first | omega | (simp; done) | (simp; omega)) _ | with_reducible refine Below.drew ?_ | with_reducible refine belowN ?_ _ | with_reducible refine Below.alloc ?_ (by first | omega | (simp; done) | (simp; omega)) _) : Below w.heap.size w _).trans (hb1.mono (by first | omega | (simp; done) | (simp; omega))))
  clear hb1
  go_wp2_with fail
  refine bodyPost_ret (v := realV f g) (by simp [results, Tryz.results68, go_sem, c0_0, c0_1]) rfl ⟨rfl, by repeat (first | with_reducible exact HBB.out | with_reducible exact Below.refl _ _ | with_reducible refine Below.drew ?_ | with_reducible refine belowN ?_ _ | with_reducible refine Below.setCell ?_ (by first | omega | (simp; done) | (simp; omega)) _ | with_reducible refine Below.alloc ?_ (by first | omega | (simp; done) | (simp; omega)) _)⟩

set_option maxRecDepth 100000 in
set_option maxHeartbeats 1600000 in
theorem p1_p (b d : Nat) (n : Nat) (m e : Int) (w : World) (c0 : w.cell? ⟨b, 0, none⟩ = some (.int .i64 m)) (c1 : w.cell? ⟨b, 1, none⟩ = some (.int .i64 e)) (c2 : w.cell? ⟨d, 0, none⟩ = some (.int .i64 (n : Int))) (zb : b < w.heap.size) (zd : d < w.heap.size) (hn : n ≤ 9223372036854775807) (HS : Hid (∀ W : World, Calls Tryz.prog 69 #[realV m e, .int .u64 (n : Int)] W fun r w' => r = .panicked [{ v := .iface 24 (.int .i64 3), recovered := false }] ∧ Below W.heap.size W w')) :
    Calls Tryz.prog 68 #[.pointer (some ⟨b, 0, none⟩), .pointer (some ⟨d, 0, none⟩)] w fun r w' => r = .panicked [{ v := .iface 24 (.int .i64 3), recovered := false }] ∧ Below w.heap.size w w' := by
  have wu : IntKind.u64.wrap (n : Int) = (n : Int) := u64_in _ (by omega) (by omega)
  go_enter Tryz.func68, Tryz.ntmps68
  go_wp2_with fail
  refine (HS.out _).mono ?_
  rintro r w1 ⟨rfl, hb1⟩
  have f0_0 : w1.frozen? ⟨w.heap.size, 0, none⟩ = false := carryF hb1 (v := .int .i64 0) (by first | with_reducible assumption | go_simp) (by first | with_reducible assumption | go_simp)
  have f0_1 : w1.frozen? ⟨w.heap.size, 1, none⟩ = false := carryF hb1 (v := .int .i64 0) (by first | with_reducible assumption | go_simp) (by first | with_reducible assumption | go_simp)
  have c0_0 : w1.cell? ⟨w.heap.size, 0, none⟩ = some (.int .i64 0) := carry hb1 (by first | with_reducible assumption | go_simp)
  have c0_1 : w1.cell? ⟨w.heap.size, 1, none⟩ = some (.int .i64 0) := carry hb1 (by first | with_reducible assumption | go_simp)
  have z0 : w.heap.size < w1.heap.size := by have := hb1.size; first | omega | (simp at this; omega)
  have HBB := Lib.hid ((by repeat (first | with_reducible exact Below.refl _ _ | with_reducible refine Below.setCell ?_ (by first | omega | (simp; done) | (simp; omega)) _ | with_reducible refine Below.drew ?_ | with_reducible refine belowN ?_ _ | with_reducible refine Below.alloc ?_ (by first | omega | (simp; done) | (simp; omega)) _) : Below w.heap.size w _).trans (hb1.mono (by first | omega | (simp; done) | (simp; omega))))
  clear hb1
  go_wp2_with fail
  all_goals first | exact ⟨rfl, HBB.out⟩ | (show _ ∧ _; exact ⟨rfl, HBB.out⟩) | (simp [bodyPost]; exact HBB.out)

set_option maxRecDepth 100000 in
set_option maxHeartbeats 1600000 in
theorem rc_ok (f g am ae : Int) (w : World) (HZ : Hid (∀ W : World, Calls Tryz.prog 55 #[realV f g] W fun r w' => r = .returned (.bool false) ∧ Below W.heap.size W w')) (H1 : Hid (∀ W : World, Calls Tryz.prog 10 #[.int .i64 1] W fun r w' => r = .returned (realV 8388608 (-23)) ∧ Below W.heap.size W w')) (HQU : Hid (∀ W : World, Calls Tryz.prog 57 #[realV 8388608 (-23), realV f g] W fun r w' => r = .returned (realV am ae) ∧ Below W.heap.size W w')) :
    Calls Tryz.prog 71 #[realV f g] w fun r w' => r = .returned (realV am ae) ∧ Below w.heap.size w w' := by
  have HB0 := Lib.hid ((by repeat (first | exact Below.refl _ _ | refine Below.alloc ?_ (by simp <;> omega) _) : Below w.heap.size w ((w.alloc (Obj.cells #[Value.int IntKind.i64 f, Value.int IntKind.i64 g] 23)).alloc (Obj.cells #[Value.int IntKind.i64 0, Value.int IntKind.i64 0] 51))))
  go_enter Tryz.func71, Tryz.ntmps71
  go_wp2_with fail
  refine (HZ.out _).mono ?_
  rintro r w1 ⟨rfl, hb1⟩
  have f1_0 : w1.frozen? ⟨w.heap.size + 1, 0, none⟩ = false := carryF hb1 (v := .int .i64 0) (by first | with_reducible assumption | go_simp) (by first | with_reducible assumption | go_simp)
  have f1_1 : w1.frozen? ⟨w.heap.size + 1, 1, none⟩ = false := carryF hb1 (v := .int .i64 0) (by first | with_reducible assumption | go_simp) (by first | with_reducible assumption | go_simp)
  have c0_0 : w1.cell? ⟨w.heap.size, 0, none⟩ = some (.int .i64 f) := carry hb1 (by first | with_reducible assumption | go_simp)
  have c0_1 : w1.cell? ⟨w.heap.size, 1, none⟩ = some (.int .i64 g) := carry hb1 (by first | with_reducible assumption | go_simp)
  have z0 : w.heap.size < w1.heap.size := by have := hb1.size; first | omega | (simp at this; omega)
  have c1_0 : w1.cell? ⟨w.heap.size + 1, 0, none⟩ = some (.int .i64 0) := carry hb1 (by first | with_reducible assumption | go_simp)
  have c1_1 : w1.cell? ⟨w.heap.size + 1, 1, none⟩ = some (.int .i64 0) := carry hb1 (by first | with_reducible assumption | go_simp)
  have z1 : w.heap.size + 1 < w1.heap.size := by have := hb1.size; first | omega | (simp at this; omega)
  have HBB := Lib.hid ((by repeat (first | with_reducible exact Below.refl _ _ | with_reducible refine Below.setCell ?_ (by first | omega | (simp; done) | (simp; omega)) _ | with_reducible refine Below.drew ?_ | with_reducible refine belowN ?_ _ | with_reducible refine Below.alloc ?_ (by first | omega | (simp; done) | (simp; omega)) _) : Below w.heap.size w _).trans (hb1.mono (by first | omega | (simp; done) | (simp; omega))))
  clear hb1
  go_wp2_with fail
  clear HB0
  have HB0 := HBB
  go_region_held3 (fun wx => wx.cell? ⟨w.heap.size, 0, none⟩ = some (.int .i64 f) ∧ wx.cell? ⟨w.heap.size, 1, none⟩ = some (.int .i64 g) ∧ w.heap.size < wx.heap.size ∧ Below w.heap.size w wx) (first | (go_keep; done) | ((try go_split_ands); (repeat' apply And.intro) <;> first | with_reducible assumption | (exact carry hbq (by with_reducible assumption)) | (go_simp; done) | (simp only [World.size_alloc, World.size_drew]; omega) | ((repeat (first | with_reducible assumption | with_reducible exact HB0.out | with_reducible refine Below.drew ?_ | with_reducible refine Below.setCell ?_ (by first | omega | (simp; done) | (simp <;> omega)) _)); done) | (exact Nat.lt_of_lt_of_le (by first | with_reducible assumption | (simp <;> omega)) hbq.size) | (simp <;> omega)))
    (first
      | (go_at_call 10; ((with_reducible refine (H1.out _).mono ?_); rintro r wq ⟨rfl, hbq⟩; have q0 : wq.cell? ⟨w.heap.size + 1, 0, none⟩ = some (.int .i64 0) := carry hbq (by first | with_reducible assumption | go_simp); have qf0 : wq.frozen? ⟨w.heap.size + 1, 0, none⟩ = false := carryF hbq (v := .int .i64 0) (by first | with_reducible assumption | go_simp) (by first | with_reducible assumption | go_simp); have q1 : wq.cell? ⟨w.heap.size + 1, 1, none⟩ = some (.int .i64 0) := carry hbq (by first | with_reducible assumption | go_simp); have qf1 : wq.frozen? ⟨w.heap.size + 1, 1, none⟩ = false := carryF hbq (v := .int .i64 0) (by first | with_reducible assumption | go_simp) (by first | with_reducible assumption | go_simp); have qz : w.heap.size + 1 < wq.heap.size := Nat.lt_of_lt_of_le (by first | with_reducible assumption | (simp <;> omega)) hbq.size; have qb : Below w.heap.size w wq := Below.trans (by first | with_reducible assumption | with_reducible exact HB0.out.drew | with_reducible exact HB0.out | with_reducible exact Below.drew (by with_reducible assumption)) (hbq.mono (by first | omega | (simp <;> omega)))))
      | (go_at_call 57; ((with_reducible refine (HQU.out _).mono ?_); rintro r wq ⟨rfl, hbq⟩; have q0 : wq.cell? ⟨w.heap.size + 1, 0, none⟩ = some (.int .i64 0) := carry hbq (by first | with_reducible assumption | go_simp); have qf0 : wq.frozen? ⟨w.heap.size + 1, 0, none⟩ = false := carryF hbq (v := .int .i64 0) (by first | with_reducible assumption | go_simp) (by first | with_reducible assumption | go_simp); have q1 : wq.cell? ⟨w.heap.size + 1, 1, none⟩ = some (.int .i64 0) := carry hbq (by first | with_reducible assumption | go_simp); have qf1 : wq.frozen? ⟨w.heap.size + 1, 1, none⟩ = false := carryF hbq (v := .int .i64 0) (by first | with_reducible assumption | go_simp) (by first | with_reducible assumption | go_simp); have qz : w.heap.size + 1 < wq.heap.size := Nat.lt_of_lt_of_le (by first | with_reducible assumption | (simp <;> omega)) hbq.size; have qb : Below w.heap.size w wq := Below.trans (by first | with_reducible assumption | with_reducible exact HB0.out.drew | with_reducible exact HB0.out | with_reducible exact Below.drew (by with_reducible assumption)) (hbq.mono (by first | omega | (simp <;> omega))))))
  clear HB0 HBB
  rename _ ∧ _ ∧ _ ∧ Below w.heap.size w _ => hS
  have HBB := Lib.hid hS.2.2.2
  clear hS
  go_wp2_with fail
  refine bodyPost_ret (v := realV am ae) (by simp [results, Tryz.results71, go_sem, q0, q1]) rfl ⟨rfl, by repeat (first | with_reducible exact HBB.out | with_reducible exact Below.refl _ _ | with_reducible refine Below.drew ?_ | with_reducible refine belowN ?_ _ | with_reducible refine Below.setCell ?_ (by first | omega | (simp; done) | (simp; omega)) _ | with_reducible refine Below.alloc ?_ (by first | omega | (simp; done) | (simp; omega)) _)⟩

set_option maxRecDepth 100000 in
set_option maxHeartbeats 1600000 in
theorem rc_z (f g : Int) (w : World) (HZ : Hid (∀ W : World, Calls Tryz.prog 55 #[realV f g] W fun r w' => r = .returned (.bool true) ∧ Below W.heap.size W w')) :
    Calls Tryz.prog 71 #[realV f g] w fun r w' => r = .panicked [{ v := .iface 24 (.int .i64 3), recovered := false }] ∧ Below w.heap.size w w' := by
  go_enter Tryz.func71, Tryz.ntmps71
  go_wp2_with fail
  refine (HZ.out _).mono ?_
  rintro r w1 ⟨rfl, hb1⟩
  have f1_0 : w1.frozen? ⟨w.heap.size + 1, 0, none⟩ = false := carryF hb1 (v := .int .i64 0) (by first | with_reducible assumption | go_simp) (by first | with_reducible assumption | go_simp)
  have f1_1 : w1.frozen? ⟨w.heap.size + 1, 1, none⟩ = false := carryF hb1 (v := .int .i64 0) (by first | with_reducible assumption | go_simp) (by first | with_reducible assumption | go_simp)
  have c0_0 : w1.cell? ⟨w.heap.size, 0, none⟩ = some (.int .i64 f) := carry hb1 (by first | with_reducible assumption | go_simp)
  have c0_1 : w1.cell? ⟨w.heap.size, 1, none⟩ = some (.int .i64 g) := carry hb1 (by first | with_reducible assumption | go_simp)
  have z0 : w.heap.size < w1.heap.size := by have := hb1.size; first | omega | (simp at this; omega)
  have c1_0 : w1.cell? ⟨w.heap.size + 1, 0, none⟩ = some (.int .i64 0) := carry hb1 (by first | with_reducible assumption | go_simp)
  have c1_1 : w1.cell? ⟨w.heap.size + 1, 1, none⟩ = some (.int .i64 0) := carry hb1 (by first | with_reducible assumption | go_simp)
  have z1 : w.heap.size + 1 < w1.heap.size := by have := hb1.size; first | omega | (simp at this; omega)
  have HBB := Lib.hid ((by repeat (first | with_reducible exact Below.refl _ _ | with_reducible refine Below.setCell ?_ (by first | omega | (simp; done) | (simp; omega)) _ | with_reducible refine Below.drew ?_ | with_reducible refine belowN ?_ _ | with_reducible refine Below.alloc ?_ (by first | omega | (simp; done) | (simp; omega)) _) : Below w.heap.size w _).trans (hb1.mono (by first | omega | (simp; done) | (simp; omega))))
  clear hb1
  go_wp2_with fail
  all_goals first | exact ⟨rfl, HBB.out⟩ | (show _ ∧ _; exact ⟨rfl, HBB.out⟩) | (simp [bodyPost]; exact HBB.out)

set_option maxRecDepth 100000 in
set_option maxHeartbeats 1600000 in
theorem p2_ok (b d : Nat) (n : Nat) (m e f g am ae : Int) (w : World) (c0 : w.cell? ⟨b, 0, none⟩ = some (.int .i64 m)) (c1 : w.cell? ⟨b, 1, none⟩ = some (.int .i64 e)) (c2 : w.cell? ⟨d, 0, none⟩ = some (.int .u64 (n : Int))) (zb : b < w.heap.size) (zd : d < w.heap.size) (HS : Hid (∀ W : World, Calls Tryz.prog 69 #[realV m e, .int .u64 (n : Int)] W fun r w' => r = .returned (realV f g) ∧ Below W.heap.size W w')) (HR : Hid (∀ W : World, Calls Tryz.prog 71 #[realV f g] W fun r w' => r = .returned (realV am ae) ∧ Below W.heap.size W w')) :
    Calls Tryz.prog 70 #[.pointer (some ⟨b, 0, none⟩), .pointer (some ⟨d, 0, none⟩)] w fun r w' => r = .returned (realV am ae) ∧ Below w.heap.size w w' := by
  go_enter Tryz.func70, Tryz.ntmps70
  go_wp2_with fail
  refine (HS.out _).mono ?_
  rintro r w1 ⟨rfl, hb1⟩
  have f0_0 : w1.frozen? ⟨w.heap.size, 0, none⟩ = false := carryF hb1 (v := .int .i64 0) (by first | with_reducible assumption | go_simp) (by first | with_reducible assumption | go_simp)
  have f0_1 : w1.frozen? ⟨w.heap.size, 1, none⟩ = false := carryF hb1 (v := .int .i64 0) (by first | with_reducible assumption | go_simp) (by first | with_reducible assumption | go_simp)
  have c0_0 : w1.cell? ⟨w.heap.size, 0, none⟩ = some (.int .i64 0) := carry hb1 (by first | with_reducible assumption | go_simp)
  have c0_1 : w1.cell? ⟨w.heap.size, 1, none⟩ = some (.int .i64 0) := carry hb1 (by first | with_reducible assumption | go_simp)
  have z0 : w.heap.size < w1.heap.size := by have := hb1.size; first | omega | (simp at this; omega)
  have HBB := Lib.hid ((by repeat (first | with_reducible exact Below.refl _ _ | with_reducible refine Below.setCell ?_ (by first | omega | (simp; done) | (simp; omega)) _ | with_reducible refine Below.drew ?_ | with_reducible refine belowN ?_ _ | with_reducible refine Below.alloc ?_ (by first | omega | (simp; done) | (simp; omega)) _) : Below w.heap.size w _).trans (hb1.mono (by first | omega | (simp; done) | (simp; omega))))
  clear hb1
  go_wp2_with fail
  refine (HR.out _).mono ?_
  rintro r w2 ⟨rfl, hb2⟩
  have f0_0 : w2.frozen? ⟨w.heap.size, 0, none⟩ = false := carryF hb2 (v := .int .i64 0) (by first | with_reducible assumption | go_simp) (by first | with_reducible assumption | go_simp)
  have f0_1 : w2.frozen? ⟨w.heap.size, 1, none⟩ = false := carryF hb2 (v := .int .i64 0) (by first | with_reducible assumption | go_simp) (by first | with_reducible assumption | go_simp)
  have c0_0 : w2.cell? ⟨w.heap.size, 0, none⟩ = some (.int .i64 0) := carry hb2 (by first | with_reducible assumption | go_simp)
  have c0_1 : w2.cell? ⟨w.heap.size, 1, none⟩ = some (.int .i64 0) := carry hb2 (by first | with_reducible assumption | go_simp)
  have z0 : w.heap.size < w2.heap.size := by have := hb2.size; first | omega | (simp at this; omega)
  have HBB := Lib.hid ((by repeat (first | with_reducible exact HBB.out | with_reducible refine Below.setCell ?_ (by first | omega | (simp; done) | (simp; omega)) _ | with_reducible refine Below.drew ?_ | with_reducible refine belowN ?_ _ | with_reducible refine Below.alloc ?_ (by first | omega | (simp; done) | (simp; omega)) _) : Below w.heap.size w _).trans (hb2.mono (by first | omega | (simp; done) | (simp; omega))))
  clear hb2
  go_wp2_with fail
  refine bodyPost_ret (v := realV am ae) (by simp [results, Tryz.results70, go_sem, c0_0, c0_1]) rfl ⟨rfl, by repeat (first | with_reducible exact HBB.out | with_reducible exact Below.refl _ _ | with_reducible refine Below.drew ?_ | with_reducible refine belowN ?_ _ | with_reducible refine Below.setCell ?_ (by first | omega | (simp; done) | (simp; omega)) _ | with_reducible refine Below.alloc ?_ (by first | omega | (simp; done) | (simp; omega)) _)⟩

set_option maxRecDepth 100000 in
set_option maxHeartbeats 1600000 in
theorem p2_p (b d : Nat) (n : Nat) (m e f g am ae : Int) (w : World) (c0 : w.cell? ⟨b, 0, none⟩ = some (.int .i64 m)) (c1 : w.cell? ⟨b, 1, none⟩ = some (.int .i64 e)) (c2 : w.cell? ⟨d, 0, none⟩ = some (.int .u64 (n : Int))) (zb : b < w.heap.size) (zd : d < w.heap.size) (HS : Hid (∀ W : World, Calls Tryz.prog 69 #[realV m e, .int .u64 (n : Int)] W fun r w' => r = .panicked [{ v := .iface 24 (.int .i64 3), recovered := false }] ∧ Below W.heap.size W w')) :
    Calls Tryz.prog 70 #[.pointer (some ⟨b, 0, none⟩), .pointer (some ⟨d, 0, none⟩)] w fun r w' => r = .panicked [{ v := .iface 24 (.int .i64 3), recovered := false }] ∧ Below w.heap.size w w' := by
  go_enter Tryz.func70, Tryz.ntmps70
  go_wp2_with fail
  refine (HS.out _).mono ?_
  rintro r w1 ⟨rfl, hb1⟩
  have f0_0 : w1.frozen? ⟨w.heap.size, 0, none⟩ = false := carryF hb1 (v := .int .i64 0) (by first | with_reducible assumption | go_simp) (by first | with_reducible assumption | go_simp)
  have f0_1 : w1.frozen? ⟨w.heap.size, 1, none⟩ = false := carryF hb1 (v := .int .i64 0) (by first | with_reducible assumption | go_simp) (by first | with_reducible assumption | go_simp)
  have c0_0 : w1.cell? ⟨w.heap.size, 0, none⟩ = some (.int .i64 0) := carry hb1 (by first | with_reducible assumption | go_simp)
  have c0_1 : w1.cell? ⟨w.heap.size, 1, none⟩ = some (.int .i64 0) := carry hb1 (by first | with_reducible assumption | go_simp)
  have z0 : w.heap.size < w1.heap.size := by have := hb1.size; first | omega | (simp at this; omega)
  have HBB := Lib.hid ((by repeat (first | with_reducible exact Below.refl _ _ | with_reducible refine Below.setCell ?_ (by first | omega | (simp; done) | (simp; omega)) _ | with_reducible refine Below.drew ?_ | with_reducible refine belowN ?_ _ | with_reducible refine Below.alloc ?_ (by first | omega | (simp; done) | (simp; omega)) _) : Below w.heap.size w _).trans (hb1.mono (by first | omega | (simp; done) | (simp; omega))))
  clear hb1
  go_wp2_with fail
  all_goals first | exact ⟨rfl, HBB.out⟩ | (show _ ∧ _; exact ⟨rfl, HBB.out⟩) | (simp [bodyPost]; exact HBB.out)

set_option maxRecDepth 100000 in
set_option maxHeartbeats 1600000 in
theorem p2_r (b d : Nat) (n : Nat) (m e f g am ae : Int) (w : World) (c0 : w.cell? ⟨b, 0, none⟩ = some (.int .i64 m)) (c1 : w.cell? ⟨b, 1, none⟩ = some (.int .i64 e)) (c2 : w.cell? ⟨d, 0, none⟩ = some (.int .u64 (n : Int))) (zb : b < w.heap.size) (zd : d < w.heap.size) (HS : Hid (∀ W : World, Calls Tryz.prog 69 #[realV m e, .int .u64 (n : Int)] W fun r w' => r = .returned (realV f g) ∧ Below W.heap.size W w')) (HR : Hid (∀ W : World, Calls Tryz.prog 71 #[realV f g] W fun r w' => r = .panicked [{ v := .iface 24 (.int .i64 3), recovered := false }] ∧ Below W.heap.size W w')) :
    Calls Tryz.prog 70 #[.pointer (some ⟨b, 0, none⟩), .pointer (some ⟨d, 0, none⟩)] w fun r w' => r = .panicked [{ v := .iface 24 (.int .i64 3), recovered := false }] ∧ Below w.heap.size w w' := by
  go_enter Tryz.func70, Tryz.ntmps70
  go_wp2_with fail
  refine (HS.out _).mono ?_
  rintro r w1 ⟨rfl, hb1⟩
  have f0_0 : w1.frozen? ⟨w.heap.size, 0, none⟩ = false := carryF hb1 (v := .int .i64 0) (by first | with_reducible assumption | go_simp) (by first | with_reducible assumption | go_simp)
  have f0_1 : w1.frozen? ⟨w.heap.size, 1, none⟩ = false := carryF hb1 (v := .int .i64 0) (by first | with_reducible assumption | go_simp) (by first | with_reducible assumption | go_simp)
  have c0_0 : w1.cell? ⟨w.heap.size, 0, none⟩ = some (.int .i64 0) := carry hb1 (by first | with_reducible assumption | go_simp)
  have c0_1 : w1.cell? ⟨w.heap.size, 1, none⟩ = some (.int .i64 0) := carry hb1 (by first | with_reducible assumption | go_simp)
  have z0 : w.heap.size < w1.heap.size := by have := hb1.size; first | omega | (simp at this; omega)
  have HBB := Lib.hid ((by repeat (first | with_reducible exact Below.refl _ _ | with_reducible refine Below.setCell ?_ (by first | omega | (simp; done) | (simp; omega)) _ | with_reducible refine Below.drew ?_ | with_reducible refine belowN ?_ _ | with_reducible refine Below.alloc ?_ (by first | omega | (simp; done) | (simp; omega)) _) : Below w.heap.size w _).trans (hb1.mono (by first | omega | (simp; done) | (simp; omega))))
  clear hb1
  go_wp2_with fail
  refine (HR.out _).mono ?_
  rintro r w2 ⟨rfl, hb2⟩
  have f0_0 : w2.frozen? ⟨w.heap.size, 0, none⟩ = false := carryF hb2 (v := .int .i64 0) (by first | with_reducible assumption | go_simp) (by first | with_reducible assumption | go_simp)
  have f0_1 : w2.frozen? ⟨w.heap.size, 1, none⟩ = false := carryF hb2 (v := .int .i64 0) (by first | with_reducible assumption | go_simp) (by first | with_reducible assumption | go_simp)
  have c0_0 : w2.cell? ⟨w.heap.size, 0, none⟩ = some (.int .i64 0) := carry hb2 (by first | with_reducible assumption | go_simp)
  have c0_1 : w2.cell? ⟨w.heap.size, 1, none⟩ = some (.int .i64 0) := carry hb2 (by first | with_reducible assumption | go_simp)
  have z0 : w.heap.size < w2.heap.size := by have := hb2.size; first | omega | (simp at this; omega)
  have HBB := Lib.hid ((by repeat (first | with_reducible exact HBB.out | with_reducible refine Below.setCell ?_ (by first | omega | (simp; done) | (simp; omega)) _ | with_reducible refine Below.drew ?_ | with_reducible refine belowN ?_ _ | with_reducible refine Below.alloc ?_ (by first | omega | (simp; done) | (simp; omega)) _) : Below w.heap.size w _).trans (hb2.mono (by first | omega | (simp; done) | (simp; omega))))
  clear hb2
  go_wp2_with fail
  all_goals first | exact ⟨rfl, HBB.out⟩ | (show _ ∧ _; exact ⟨rfl, HBB.out⟩) | (simp [bodyPost]; exact HBB.out)

set_option maxRecDepth 100000 in
set_option maxHeartbeats 1600000 in
theorem pow_uk (n : Nat) (m e f g am ae ax : Int) (hn : n ≤ 9223372036854775807) (HS : Hid (∀ W : World, Calls Tryz.prog 69 #[realV m e, .int .u64 (n : Int)] W fun r w' => r = .returned (realV f g) ∧ Below W.heap.size W w')) (HEV : Hid (∀ (G : FuncId) (caps : Array Value) (W : World), (∀ X, Sem.run Tryz.prog (callFunc G caps) X = .ok (.enter G caps) X) → (∀ X, Below W.heap.size W X → Calls Tryz.prog G caps X fun r w' => r = .returned (realV f g) ∧ Below X.heap.size X w') → Calls Tryz.prog 52 #[.func (.func G) #[] caps] W fun r w' => r = .returned (rE am ae ax) ∧ Below W.heap.size W w'))  (w : World) (HV : Hid (vr m e = true)) :
    Calls Tryz.prog 37 #[realV m e, .int .i64 (n : Int)] w fun r w' => r = .returned (rE am ae ax) ∧ Below w.heap.size w w' := by
  have hmf : ∀ (fn : Fn) (first cap : Array Value) (w : World), (Instr.makeFunc fn first cap).run Tryz.prog w = .ok (.func fn first cap) w := fun _ _ _ _ => rfl
  obtain ⟨m1, m2, e1, e2⟩ := vr_bd HV.out
  have HE := Lib.hid (fun caps W => Go.Proofs.enters_of (P := Tryz.prog) Tryz.func68 (by kernel_rfl) rfl caps W)
  have hn0 : (0 : Int) ≤ (n : Int) := by omega
  go_enter Tryz.func37, Tryz.ntmps37
  go_wp2_with fail
  refine (valid_is HV.out _ (by omega) (by omega)).mono ?_
  rintro r w1 ⟨rfl, hb1⟩
  have f2_0 : w1.frozen? ⟨w.heap.size + 1 + 1, 0, none⟩ = false := carryF hb1 (v := .int .i64 0) (by first | with_reducible assumption | go_simp) (by first | with_reducible assumption | go_simp)
  have f2_1 : w1.frozen? ⟨w.heap.size + 1 + 1, 1, none⟩ = false := carryF hb1 (v := .int .i64 0) (by first | with_reducible assumption | go_simp) (by first | with_reducible assumption | go_simp)
  have c0_0 : w1.cell? ⟨w.heap.size, 0, none⟩ = some (.int .i64 m) := carry hb1 (by first | with_reducible assumption | go_simp)
  have c0_1 : w1.cell? ⟨w.heap.size, 1, none⟩ = some (.int .i64 e) := carry hb1 (by first | with_reducible assumption | go_simp)
  have z0 : w.heap.size < w1.heap.size := by have := hb1.size; first | omega | (simp at this; omega)
  have c1_0 : w1.cell? ⟨w.heap.size + 1, 0, none⟩ = some (.int .i64 (n : Int)) := carry hb1 (by first | with_reducible assumption | go_simp)
  have z1 : w.heap.size + 1 < w1.heap.size := by have := hb1.size; first | omega | (simp at this; omega)
  have c2_0 : w1.cell? ⟨w.heap.size + 1 + 1, 0, none⟩ = some (.int .i64 0) := carry hb1 (by first | with_reducible assumption | go_simp)
  have c2_1 : w1.cell? ⟨w.heap.size + 1 + 1, 1, none⟩ = some (.int .i64 0) := carry hb1 (by first | with_reducible assumption | go_simp)
  have z2 : w.heap.size + 1 + 1 < w1.heap.size := by have := hb1.size; first | omega | (simp at this; omega)
  have HBB := Lib.hid ((by repeat (first | with_reducible exact Below.refl _ _ | with_reducible refine Below.setCell ?_ (by first | omega | (simp; done) | (simp; omega)) _ | with_reducible refine Below.drew ?_ | with_reducible refine belowN ?_ _ | with_reducible refine Below.alloc ?_ (by first | omega | (simp; done) | (simp; omega)) _) : Below w.heap.size w _).trans (hb1.mono (by first | omega | (simp; done) | (simp; omega))))
  clear hb1
  go_wp2_with fail
  
  refine (HEV.out _ _ _ (fun X => HE.out _ X) (fun W hW => p1_ok w.heap.size (w.heap.size + 1) n m e f g W (carry hW (by first | with_reducible assumption | go_simp)) (carry hW (by first | with_reducible assumption | go_simp)) (carry hW (by first | with_reducible assumption | go_simp)) (Nat.lt_of_lt_of_le (by first | assumption | (simp <;> omega)) hW.size) (Nat.lt_of_lt_of_le (by first | assumption | (simp <;> omega)) hW.size) hn HS)).mono ?_
  rintro r w9 ⟨rfl, hb9⟩
  have f2_0 : w9.frozen? ⟨w.heap.size + 1 + 1, 0, none⟩ = false := carryF hb9 (v := .int .i64 0) (by first | with_reducible assumption | go_simp) (by first | with_reducible assumption | go_simp)
  have f2_1 : w9.frozen? ⟨w.heap.size + 1 + 1, 1, none⟩ = false := carryF hb9 (v := .int .i64 0) (by first | with_reducible assumption | go_simp) (by first | with_reducible assumption | go_simp)
  have c2_0 : w9.cell? ⟨w.heap.size + 1 + 1, 0, none⟩ = some (.int .i64 0) := carry hb9 (by first | with_reducible assumption | go_simp)
  have c2_1 : w9.cell? ⟨w.heap.size + 1 + 1, 1, none⟩ = some (.int .i64 0) := carry hb9 (by first | with_reducible assumption | go_simp)
  have z2 : w.heap.size + 1 + 1 < w9.heap.size := by have := hb9.size; first | omega | (simp at this; omega)
  have HBB := Lib.hid ((by repeat (first | with_reducible exact HBB.out | with_reducible refine Below.setCell ?_ (by first | omega | (simp; done) | (simp; omega)) _ | with_reducible refine Below.drew ?_ | with_reducible refine belowN ?_ _ | with_reducible refine Below.alloc ?_ (by first | omega | (simp; done) | (simp; omega)) _) : Below w.heap.size w _).trans (hb9.mono (by first | omega | (simp; done) | (simp; omega))))
  clear hb9
  go_wp2_with fail
  refine bodyPost_ret (v := rE am ae ax) (by simp [results, Tryz.results37, go_sem, c2_0, c2_1]) rfl ⟨rfl, by repeat (first | with_reducible exact HBB.out | with_reducible exact Below.refl _ _ | with_reducible refine Below.drew ?_ | with_reducible refine belowN ?_ _ | with_reducible refine Below.setCell ?_ (by first | omega | (simp; done) | (simp; omega)) _ | with_reducible refine Below.alloc ?_ (by first | omega | (simp; done) | (simp; omega)) _)⟩

set_option maxRecDepth 100000 in
set_option maxHeartbeats 1600000 in
theorem pow_up (n : Nat) (m e : Int) (hn : n ≤ 9223372036854775807) (HS : Hid (∀ W : World, Calls Tryz.prog 69 #[realV m e, .int .u64 (n : Int)] W fun r w' => r = .panicked [{ v := .iface 24 (.int .i64 3), recovered := false }] ∧ Below W.heap.size W w')) (w : World) (HV : Hid (vr m e = true)) :
    Calls Tryz.prog 37 #[realV m e, .int .i64 (n : Int)] w fun r w' => r = .returned (rE 0 0 3) ∧ Below w.heap.size w w' := by
  have hmf : ∀ (fn : Fn) (first cap : Array Value) (w : World), (Instr.makeFunc fn first cap).run Tryz.prog w = .ok (.func fn first cap) w := fun _ _ _ _ => rfl
  obtain ⟨m1, m2, e1, e2⟩ := vr_bd HV.out
  have HE := Lib.hid (fun caps W => Go.Proofs.enters_of (P := Tryz.prog) Tryz.func68 (by kernel_rfl) rfl caps W)
  have hn0 : (0 : Int) ≤ (n : Int) := by omega
  go_enter Tryz.func37, Tryz.ntmps37
  go_wp2_with fail
  refine (valid_is HV.out _ (by omega) (by omega)).mono ?_
  rintro r w1 ⟨rfl, hb1⟩
  have f2_0 : w1.frozen? ⟨w.heap.size + 1 + 1, 0, none⟩ = false := carryF hb1 (v := .int .i64 0) (by first | with_reducible assumption | go_simp) (by first | with_reducible assumption | go_simp)
  have f2_1 : w1.frozen? ⟨w.heap.size + 1 + 1, 1, none⟩ = false := carryF hb1 (v := .int .i64 0) (by first | with_reducible assumption | go_simp) (by first | with_reducible assumption | go_simp)
  have c0_0 : w1.cell? ⟨w.heap.size, 0, none⟩ = some (.int .i64 m) := carry hb1 (by first | with_reducible assumption | go_simp)
  have c0_1 : w1.cell? ⟨w.heap.size, 1, none⟩ = some (.int .i64 e) := carry hb1 (by first | with_reducible assumption | go_simp)
  have z0 : w.heap.size < w1.heap.size := by have := hb1.size; first | omega | (simp at this; omega)
  have c1_0 : w1.cell? ⟨w.heap.size + 1, 0, none⟩ = some (.int .i64 (n : Int)) := carry hb1 (by first | with_reducible assumption | go_simp)
  have z1 : w.heap.size + 1 < w1.heap.size := by have := hb1.size; first | omega | (simp at this; omega)
  have c2_0 : w1.cell? ⟨w.heap.size + 1 + 1, 0, none⟩ = some (.int .i64 0) := carry hb1 (by first | with_reducible assumption | go_simp)
  have c2_1 : w1.cell? ⟨w.heap.size + 1 + 1, 1, none⟩ = some (.int .i64 0) := carry hb1 (by first | with_reducible assumption | go_simp)
  have z2 : w.heap.size + 1 + 1 < w1.heap.size := by have := hb1.size; first | omega | (simp at this; omega)
  have HBB := Lib.hid ((by repeat (first | with_reducible exact Below.refl _ _ | with_reducible refine Below.setCell ?_ (by first | omega | (simp; done) | (simp; omega)) _ | with_reducible refine Below.drew ?_ | with_reducible refine belowN ?_ _ | with_reducible refine Below.alloc ?_ (by first | omega | (simp; done) | (simp; omega)) _) : Below w.heap.size w _).trans (hb1.mono (by first | omega | (simp; done) | (simp; omega))))
  clear hb1
  go_wp2_with fail
  
  refine (ev_panic _ _ _ _ _ (Lib.hid fun W => HE.out _ W) (Lib.hid fun W hW => p1_p w.heap.size (w.heap.size + 1) n m e W (carry hW (by first | with_reducible assumption | go_simp)) (carry hW (by first | with_reducible assumption | go_simp)) (carry hW (by first | with_reducible assumption | go_simp)) (Nat.lt_of_lt_of_le (by first | assumption | (simp <;> omega)) hW.size) (Nat.lt_of_lt_of_le (by first | assumption | (simp <;> omega)) hW.size) hn HS)).mono ?_
  rintro r w9 ⟨rfl, hb9⟩
  have f2_0 : w9.frozen? ⟨w.heap.size + 1 + 1, 0, none⟩ = false := carryF hb9 (v := .int .i64 0) (by first | with_reducible assumption | go_simp) (by first | with_reducible assumption | go_simp)
  have f2_1 : w9.frozen? ⟨w.heap.size + 1 + 1, 1, none⟩ = false := carryF hb9 (v := .int .i64 0) (by first | with_reducible assumption | go_simp) (by first | with_reducible assumption | go_simp)
  have c2_0 : w9.cell? ⟨w.heap.size + 1 + 1, 0, none⟩ = some (.int .i64 0) := carry hb9 (by first | with_reducible assumption | go_simp)
  have c2_1 : w9.cell? ⟨w.heap.size + 1 + 1, 1, none⟩ = some (.int .i64 0) := carry hb9 (by first | with_reducible assumption | go_simp)
  have z2 : w.heap.size + 1 + 1 < w9.heap.size := by have := hb9.size; first | omega | (simp at this; omega)
  have HBB := Lib.hid ((by repeat (first | with_reducible exact HBB.out | with_reducible refine Below.setCell ?_ (by first | omega | (simp; done) | (simp; omega)) _ | with_reducible refine Below.drew ?_ | with_reducible refine belowN ?_ _ | with_reducible refine Below.alloc ?_ (by first | omega | (simp; done) | (simp; omega)) _) : Below w.heap.size w _).trans (hb9.mono (by first | omega | (simp; done) | (simp; omega))))
  clear hb9
  go_wp2_with fail
  refine bodyPost_ret (v := rE 0 0 3) (by simp [results, Tryz.results37, go_sem, c2_0, c2_1]) rfl ⟨rfl, by repeat (first | with_reducible exact HBB.out | with_reducible exact Below.refl _ _ | with_reducible refine Below.drew ?_ | with_reducible refine belowN ?_ _ | with_reducible refine Below.setCell ?_ (by first | omega | (simp; done) | (simp; omega)) _ | with_reducible refine Below.alloc ?_ (by first | omega | (simp; done) | (simp; omega)) _)⟩

set_option maxRecDepth 100000 in
set_option maxHeartbeats 1600000 in
theorem pow_dk (n : Nat) (k m e f g qm qe am ae ax : Int) (hk : k = -(n : Int)) (h1 : 1 ≤ n) (hn : n ≤ 9223372036854775808) (hz0 : decide (m = 0 ∧ e = 0) = false)  (HS : Hid (∀ W : World, Calls Tryz.prog 69 #[realV m e, .int .u64 (n : Int)] W fun r w' => r = .returned (realV f g) ∧ Below W.heap.size W w')) (HR : Hid (∀ W : World, Calls Tryz.prog 71 #[realV f g] W fun r w' => r = .returned (realV qm qe) ∧ Below W.heap.size W w')) (HEV : Hid (∀ (G : FuncId) (caps : Array Value) (W : World), (∀ X, Sem.run Tryz.prog (callFunc G caps) X = .ok (.enter G caps) X) → (∀ X, Below W.heap.size W X → Calls Tryz.prog G caps X fun r w' => r = .returned (realV qm qe) ∧ Below X.heap.size X w') → Calls Tryz.prog 52 #[.func (.func G) #[] caps] W fun r w' => r = .returned (rE am ae ax) ∧ Below W.heap.size W w'))  (w : World) (HV : Hid (vr m e = true)) :
    Calls Tryz.prog 37 #[realV m e, .int .i64 k] w fun r w' => r = .returned (rE am ae ax) ∧ Below w.heap.size w w' := by
  have hmf : ∀ (fn : Fn) (first cap : Array Value) (w : World), (Instr.makeFunc fn first cap).run Tryz.prog w = .ok (.func fn first cap) w := fun _ _ _ _ => rfl
  obtain ⟨m1, m2, e1, e2⟩ := vr_bd HV.out
  have HE := Lib.hid (fun caps W => Go.Proofs.enters_of (P := Tryz.prog) Tryz.func70 (by kernel_rfl) rfl caps W)
  have hk0 : ¬ (0 : Int) ≤ k := by omega
  have wu1 : IntKind.u64.wrap k = 18446744073709551616 - (n : Int) := by
    unfold IntKind.wrap
    simp [IntKind.signed, IntKind.bits]
    omega
  have wu2 : IntKind.u64.wrap (-(18446744073709551616 - (n : Int))) = (n : Int) := by
    unfold IntKind.wrap
    simp [IntKind.signed, IntKind.bits]
    omega
  clear hk
  go_enter Tryz.func37, Tryz.ntmps37
  go_wp2_with fail
  refine (valid_is HV.out _ (by omega) (by omega)).mono ?_
  rintro r w1 ⟨rfl, hb1⟩
  have f2_0 : w1.frozen? ⟨w.heap.size + 1 + 1, 0, none⟩ = false := carryF hb1 (v := .int .i64 0) (by first | with_reducible assumption | go_simp) (by first | with_reducible assumption | go_simp)
  have f2_1 : w1.frozen? ⟨w.heap.size + 1 + 1, 1, none⟩ = false := carryF hb1 (v := .int .i64 0) (by first | with_reducible assumption | go_simp) (by first | with_reducible assumption | go_simp)
  have c0_0 : w1.cell? ⟨w.heap.size, 0, none⟩ = some (.int .i64 m) := carry hb1 (by first | with_reducible assumption | go_simp)
  have c0_1 : w1.cell? ⟨w.heap.size, 1, none⟩ = some (.int .i64 e) := carry hb1 (by first | with_reducible assumption | go_simp)
  have z0 : w.heap.size < w1.heap.size := by have := hb1.size; first | omega | (simp at this; omega)
  have c1_0 : w1.cell? ⟨w.heap.size + 1, 0, none⟩ = some (.int .i64 k) := carry hb1 (by first | with_reducible assumption | go_simp)
  have z1 : w.heap.size + 1 < w1.heap.size := by have := hb1.size; first | omega | (simp at this; omega)
  have c2_0 : w1.cell? ⟨w.heap.size + 1 + 1, 0, none⟩ = some (.int .i64 0) := carry hb1 (by first | with_reducible assumption | go_simp)
  have c2_1 : w1.cell? ⟨w.heap.size + 1 + 1, 1, none⟩ = some (.int .i64 0) := carry hb1 (by first | with_reducible assumption | go_simp)
  have z2 : w.heap.size + 1 + 1 < w1.heap.size := by have := hb1.size; first | omega | (simp at this; omega)
  have HBB := Lib.hid ((by repeat (first | with_reducible exact Below.refl _ _ | with_reducible refine Below.setCell ?_ (by first | omega | (simp; done) | (simp; omega)) _ | with_reducible refine Below.drew ?_ | with_reducible refine belowN ?_ _ | with_reducible refine Below.alloc ?_ (by first | omega | (simp; done) | (simp; omega)) _) : Below w.heap.size w _).trans (hb1.mono (by first | omega | (simp; done) | (simp; omega))))
  clear hb1
  go_wp2_with fail
  refine (zero_is (m := m) (e := e) (b := false) hz0 _).mono ?_
  rintro r w2 ⟨rfl, hb2⟩
  have f2_0 : w2.frozen? ⟨w.heap.size + 1 + 1, 0, none⟩ = false := carryF hb2 (v := .int .i64 0) (by first | with_reducible assumption | go_simp) (by first | with_reducible assumption | go_simp)
  have f2_1 : w2.frozen? ⟨w.heap.size + 1 + 1, 1, none⟩ = false := carryF hb2 (v := .int .i64 0) (by first | with_reducible assumption | go_simp) (by first | with_reducible assumption | go_simp)
  have c0_0 : w2.cell? ⟨w.heap.size, 0, none⟩ = some (.int .i64 m) := carry hb2 (by first | with_reducible assumption | go_simp)
  have c0_1 : w2.cell? ⟨w.heap.size, 1, none⟩ = some (.int .i64 e) := carry hb2 (by first | with_reducible assumption | go_simp)
  have z0 : w.heap.size < w2.heap.size := by have := hb2.size; first | omega | (simp at this; omega)
  have c1_0 : w2.cell? ⟨w.heap.size + 1, 0, none⟩ = some (.int .i64 k) := carry hb2 (by first | with_reducible assumption | go_simp)
  have z1 : w.heap.size + 1 < w2.heap.size := by have := hb2.size; first | omega | (simp at this; omega)
  have c2_0 : w2.cell? ⟨w.heap.size + 1 + 1, 0, none⟩ = some (.int .i64 0) := carry hb2 (by first | with_reducible assumption | go_simp)
  have c2_1 : w2.cell? ⟨w.heap.size + 1 + 1, 1, none⟩ = some (.int .i64 0) := carry hb2 (by first | with_reducible assumption | go_simp)
  have z2 : w.heap.size + 1 + 1 < w2.heap.size := by have := hb2.size; first | omega | (simp at this; omega)
  have HBB := Lib.hid ((by repeat (first | with_reducible exact HBB.out | with_reducible refine Below.setCell ?_ (by first | omega | (simp; done) | (simp; omega)) _ | with_reducible refine Below.drew ?_ | with_reducible refine belowN ?_ _ | with_reducible refine Below.alloc ?_ (by first | omega | (simp; done) | (simp; omega)) _) : Below w.heap.size w _).trans (hb2.mono (by first | omega | (simp; done) | (simp; omega))))
  clear hb2
  go_wp2_with fail
  have hz3 := HBB.out.size
  refine (HEV.out _ _ _ (fun X => HE.out _ X) (fun W hW => p2_ok w.heap.size w2.heap.size n m e f g qm qe W (carry hW (by first | with_reducible assumption | go_simp)) (carry hW (by first | with_reducible assumption | go_simp)) (carry hW (by first | with_reducible assumption | go_simp)) (Nat.lt_of_lt_of_le (by first | assumption | (simp <;> omega)) hW.size) (Nat.lt_of_lt_of_le (by first | assumption | (simp <;> omega)) hW.size) HS HR)).mono ?_
  rintro r w9 ⟨rfl, hb9⟩
  have f2_0 : w9.frozen? ⟨w.heap.size + 1 + 1, 0, none⟩ = false := carryF hb9 (v := .int .i64 0) (by first | with_reducible assumption | go_simp) (by first | with_reducible assumption | go_simp)
  have f2_1 : w9.frozen? ⟨w.heap.size + 1 + 1, 1, none⟩ = false := carryF hb9 (v := .int .i64 0) (by first | with_reducible assumption | go_simp) (by first | with_reducible assumption | go_simp)
  have c2_0 : w9.cell? ⟨w.heap.size + 1 + 1, 0, none⟩ = some (.int .i64 0) := carry hb9 (by first | with_reducible assumption | go_simp)
  have c2_1 : w9.cell? ⟨w.heap.size + 1 + 1, 1, none⟩ = some (.int .i64 0) := carry hb9 (by first | with_reducible assumption | go_simp)
  have z2 : w.heap.size + 1 + 1 < w9.heap.size := by have := hb9.size; first | omega | (simp at this; omega)
  have HBB := Lib.hid ((by repeat (first | with_reducible exact HBB.out | with_reducible refine Below.setCell ?_ (by first | omega | (simp; done) | (simp; omega)) _ | with_reducible refine Below.drew ?_ | with_reducible refine belowN ?_ _ | with_reducible refine Below.alloc ?_ (by first | omega | (simp; done) | (simp; omega)) _) : Below w.heap.size w _).trans (hb9.mono (by first | omega | (simp; done) | (simp; omega))))
  clear hb9
  go_wp2_with fail
  refine bodyPost_ret (v := rE am ae ax) (by simp [results, Tryz.results37, go_sem, c2_0, c2_1]) rfl ⟨rfl, by repeat (first | with_reducible exact HBB.out | with_reducible exact Below.refl _ _ | with_reducible refine Below.drew ?_ | with_reducible refine belowN ?_ _ | with_reducible refine Below.setCell ?_ (by first | omega | (simp; done) | (simp; omega)) _ | with_reducible refine Below.alloc ?_ (by first | omega | (simp; done) | (simp; omega)) _)⟩

set_option maxRecDepth 100000 in
set_option maxHeartbeats 1600000 in
theorem pow_dp (n : Nat) (k m e : Int) (hk : k = -(n : Int)) (h1 : 1 ≤ n) (hn : n ≤ 9223372036854775808) (hz0 : decide (m = 0 ∧ e = 0) = false)  (HS : Hid (∀ W : World, Calls Tryz.prog 69 #[realV m e, .int .u64 (n : Int)] W fun r w' => r = .panicked [{ v := .iface 24 (.int .i64 3), recovered := false }] ∧ Below W.heap.size W w')) (w : World) (HV : Hid (vr m e = true)) :
    Calls Tryz.prog 37 #[realV m e, .int .i64 k] w fun r w' => r = .returned (rE 0 0 3) ∧ Below w.heap.size w w' := by
  have hmf : ∀ (fn : Fn) (first cap : Array Value) (w : World), (Instr.makeFunc fn first cap).run Tryz.prog w = .ok (.func fn first cap) w := fun _ _ _ _ => rfl
  obtain ⟨m1, m2, e1, e2⟩ := vr_bd HV.out
  have HE := Lib.hid (fun caps W => Go.Proofs.enters_of (P := Tryz.prog) Tryz.func70 (by kernel_rfl) rfl caps W)
  have hk0 : ¬ (0 : Int) ≤ k := by omega
  have wu1 : IntKind.u64.wrap k = 18446744073709551616 - (n : Int) := by
    unfold IntKind.wrap
    simp [IntKind.signed, IntKind.bits]
    omega
  have wu2 : IntKind.u64.wrap (-(18446744073709551616 - (n : Int))) = (n : Int) := by
    unfold IntKind.wrap
    simp [IntKind.signed, IntKind.bits]
    omega
  clear hk
  go_enter Tryz.func37, Tryz.ntmps37
  go_wp2_with fail
  refine (valid_is HV.out _ (by omega) (by omega)).mono ?_
  rintro r w1 ⟨rfl, hb1⟩
  have f2_0 : w1.frozen? ⟨w.heap.size + 1 + 1, 0, none⟩ = false := carryF hb1 (v := .int .i64 0) (by first | with_reducible assumption | go_simp) (by first | with_reducible assumption | go_simp)
  have f2_1 : w1.frozen? ⟨w.heap.size + 1 + 1, 1, none⟩ = false := carryF hb1 (v := .int .i64 0) (by first | with_reducible assumption | go_simp) (by first | with_reducible assumption | go_simp)
  have c0_0 : w1.cell? ⟨w.heap.size, 0, none⟩ = some (.int .i64 m) := carry hb1 (by first | with_reducible assumption | go_simp)
  have c0_1 : w1.cell? ⟨w.heap.size, 1, none⟩ = some (.int .i64 e) := carry hb1 (by first | with_reducible assumption | go_simp)
  have z0 : w.heap.size < w1.heap.size := by have := hb1.size; first | omega | (simp at this; omega)
  have c1_0 : w1.cell? ⟨w.heap.size + 1, 0, none⟩ = some (.int .i64 k) := carry hb1 (by first | with_reducible assumption | go_simp)
  have z1 : w.heap.size + 1 < w1.heap.size := by have := hb1.size; first | omega | (simp at this; omega)
  have c2_0 : w1.cell? ⟨w.heap.size + 1 + 1, 0, none⟩ = some (.int .i64 0) := carry hb1 (by first | with_reducible assumption | go_simp)
  have c2_1 : w1.cell? ⟨w.heap.size + 1 + 1, 1, none⟩ = some (.int .i64 0) := carry hb1 (by first | with_reducible assumption | go_simp)
  have z2 : w.heap.size + 1 + 1 < w1.heap.size := by have := hb1.size; first | omega | (simp at this; omega)
  have HBB := Lib.hid ((by repeat (first | with_reducible exact Below.refl _ _ | with_reducible refine Below.setCell ?_ (by first | omega | (simp; done) | (simp; omega)) _ | with_reducible refine Below.drew ?_ | with_reducible refine belowN ?_ _ | with_reducible refine Below.alloc ?_ (by first | omega | (simp; done) | (simp; omega)) _) : Below w.heap.size w _).trans (hb1.mono (by first | omega | (simp; done) | (simp; omega))))
  clear hb1
  go_wp2_with fail
  refine (zero_is (m := m) (e := e) (b := false) hz0 _).mono ?_
  rintro r w2 ⟨rfl, hb2⟩
  have f2_0 : w2.frozen? ⟨w.heap.size + 1 + 1, 0, none⟩ = false := carryF hb2 (v := .int .i64 0) (by first | with_reducible assumption | go_simp) (by first | with_reducible assumption | go_simp)
  have f2_1 : w2.frozen? ⟨w.heap.size + 1 + 1, 1, none⟩ = false := carryF hb2 (v := .int .i64 0) (by first | with_reducible assumption | go_simp) (by first | with_reducible assumption | go_simp)
  have c0_0 : w2.cell? ⟨w.heap.size, 0, none⟩ = some (.int .i64 m) := carry hb2 (by first | with_reducible assumption | go_simp)
  have c0_1 : w2.cell? ⟨w.heap.size, 1, none⟩ = some (.int .i64 e) := carry hb2 (by first | with_reducible assumption | go_simp)
  have z0 : w.heap.size < w2.heap.size := by have := hb2.size; first | omega | (simp at this; omega)
  have c1_0 : w2.cell? ⟨w.heap.size + 1, 0, none⟩ = some (.int .i64 k) := carry hb2 (by first | with_reducible assumption | go_simp)
  have z1 : w.heap.size + 1 < w2.heap.size := by have := hb2.size; first | omega | (simp at this; omega)
  have c2_0 : w2.cell? ⟨w.heap.size + 1 + 1, 0, none⟩ = some (.int .i64 0) := carry hb2 (by first | with_reducible assumption | go_simp)
  have c2_1 : w2.cell? ⟨w.heap.size + 1 + 1, 1, none⟩ = some (.int .i64 0) := carry hb2 (by first | with_reducible assumption | go_simp)
  have z2 : w.heap.size + 1 + 1 < w2.heap.size := by have := hb2.size; first | omega | (simp at this; omega)
  have HBB := Lib.hid ((by repeat (first | with_reducible exact HBB.out | with_reducible refine Below.setCell ?_ (by first | omega | (simp; done) | (simp; omega)) _ | with_reducible refine Below.drew ?_ | with_reducible refine belowN ?_ _ | with_reducible refine Below.alloc ?_ (by first | omega | (simp; done) | (simp; omega)) _) : Below w.heap.size w _).trans (hb2.mono (by first | omega | (simp; done) | (simp; omega))))
  clear hb2
  go_wp2_with fail
  have hz3 := HBB.out.size
  refine (ev_panic _ _ _ _ _ (Lib.hid fun W => HE.out _ W) (Lib.hid fun W hW => p2_p w.heap.size w2.heap.size n m e 0 0 0 0 W (carry hW (by first | with_reducible assumption | go_simp)) (carry hW (by first | with_reducible assumption | go_simp)) (carry hW (by first | with_reducible assumption | go_simp)) (Nat.lt_of_lt_of_le (by first | assumption | (simp <;> omega)) hW.size) (Nat.lt_of_lt_of_le (by first | assumption | (simp <;> omega)) hW.size) HS)).mono ?_
  rintro r w9 ⟨rfl, hb9⟩
  have f2_0 : w9.frozen? ⟨w.heap.size + 1 + 1, 0, none⟩ = false := carryF hb9 (v := .int .i64 0) (by first | with_reducible assumption | go_simp) (by first | with_reducible assumption | go_simp)
  have f2_1 : w9.frozen? ⟨w.heap.size + 1 + 1, 1, none⟩ = false := carryF hb9 (v := .int .i64 0) (by first | with_reducible assumption | go_simp) (by first | with_reducible assumption | go_simp)
  have c2_0 : w9.cell? ⟨w.heap.size + 1 + 1, 0, none⟩ = some (.int .i64 0) := carry hb9 (by first | with_reducible assumption | go_simp)
  have c2_1 : w9.cell? ⟨w.heap.size + 1 + 1, 1, none⟩ = some (.int .i64 0) := carry hb9 (by first | with_reducible assumption | go_simp)
  have z2 : w.heap.size + 1 + 1 < w9.heap.size := by have := hb9.size; first | omega | (simp at this; omega)
  have HBB := Lib.hid ((by repeat (first | with_reducible exact HBB.out | with_reducible refine Below.setCell ?_ (by first | omega | (simp; done) | (simp; omega)) _ | with_reducible refine Below.drew ?_ | with_reducible refine belowN ?_ _ | with_reducible refine Below.alloc ?_ (by first | omega | (simp; done) | (simp; omega)) _) : Below w.heap.size w _).trans (hb9.mono (by first | omega | (simp; done) | (simp; omega))))
  clear hb9
  go_wp2_with fail
  refine bodyPost_ret (v := rE 0 0 3) (by simp [results, Tryz.results37, go_sem, c2_0, c2_1]) rfl ⟨rfl, by repeat (first | with_reducible exact HBB.out | with_reducible exact Below.refl _ _ | with_reducible refine Below.drew ?_ | with_reducible refine belowN ?_ _ | with_reducible refine Below.setCell ?_ (by first | omega | (simp; done) | (simp; omega)) _ | with_reducible refine Below.alloc ?_ (by first | omega | (simp; done) | (simp; omega)) _)⟩

set_option maxRecDepth 100000 in
set_option maxHeartbeats 1600000 in
theorem pow_dr (n : Nat) (k m e f g : Int) (hk : k = -(n : Int)) (h1 : 1 ≤ n) (hn : n ≤ 9223372036854775808) (hz0 : decide (m = 0 ∧ e = 0) = false)  (HS : Hid (∀ W : World, Calls Tryz.prog 69 #[realV m e, .int .u64 (n : Int)] W fun r w' => r = .returned (realV f g) ∧ Below W.heap.size W w')) (HR : Hid (∀ W : World, Calls Tryz.prog 71 #[realV f g] W fun r w' => r = .panicked [{ v := .iface 24 (.int .i64 3), recovered := false }] ∧ Below W.heap.size W w')) (w : World) (HV : Hid (vr m e = true)) :
    Calls Tryz.prog 37 #[realV m e, .int .i64 k] w fun r w' => r = .returned (rE 0 0 3) ∧ Below w.heap.size w w' := by
  have hmf : ∀ (fn : Fn) (first cap : Array Value) (w : World), (Instr.makeFunc fn first cap).run Tryz.prog w = .ok (.func fn first cap) w := fun _ _ _ _ => rfl
  obtain ⟨m1, m2, e1, e2⟩ := vr_bd HV.out
  have HE := Lib.hid (fun caps W => Go.Proofs.enters_of (P := Tryz.prog) Tryz.func70 (by kernel_rfl) rfl caps W)
  have hk0 : ¬ (0 : Int) ≤ k := by omega
  have wu1 : IntKind.u64.wrap k = 18446744073709551616 - (n : Int) := by
    unfold IntKind.wrap
    simp [IntKind.signed, IntKind.bits]
    omega
  have wu2 : IntKind.u64.wrap (-(18446744073709551616 - (n : Int))) = (n : Int) := by
    unfold IntKind.wrap
    simp [IntKind.signed, IntKind.bits]
    omega
  clear hk
  go_enter Tryz.func37, Tryz.ntmps37
  go_wp2_with fail
  refine (valid_is HV.out _ (by omega) (by omega)).mono ?_
  rintro r w1 ⟨rfl, hb1⟩
  have f2_0 : w1.frozen? ⟨w.heap.size + 1 + 1, 0, none⟩ = false := carryF hb1 (v := .int .i64 0) (by first | with_reducible assumption | go_simp) (by first | with_reducible assumption | go_simp)
  have f2_1 : w1.frozen? ⟨w.heap.size + 1 + 1, 1, none⟩ = false := carryF hb1 (v := .int .i64 0) (by first | with_reducible assumption | go_simp) (by first | with_reducible assumption | go_simp)
  have c0_0 : w1.cell? ⟨w.heap.size, 0, none⟩ = some (.int .i64 m) := carry hb1 (by first | with_reducible assumption | go_simp)
  have c0_1 : w1.cell? ⟨w.heap.size, 1, none⟩ = some (.int .i64 e) := carry hb1 (by first | with_reducible assumption | go_simp)
  have z0 : w.heap.size < w1.heap.size := by have := hb1.size; first | omega | (simp at this; omega)
  have c1_0 : w1.cell? ⟨w.heap.size + 1, 0, none⟩ = some (.int .i64 k) := carry hb1 (by first | with_reducible assumption | go_simp)
  have z1 : w.heap.size + 1 < w1.heap.size := by have := hb1.size; first | omega | (simp at this; omega)
  have c2_0 : w1.cell? ⟨w.heap.size + 1 + 1, 0, none⟩ = some (.int .i64 0) := carry hb1 (by first | with_reducible assumption | go_simp)
  have c2_1 : w1.cell? ⟨w.heap.size + 1 + 1, 1, none⟩ = some (.int .i64 0) := carry hb1 (by first | with_reducible assumption | go_simp)
  have z2 : w.heap.size + 1 + 1 < w1.heap.size := by have := hb1.size; first | omega | (simp at this; omega)
  have HBB := Lib.hid ((by repeat (first | with_reducible exact Below.refl _ _ | with_reducible refine Below.setCell ?_ (by first | omega | (simp; done) | (simp; omega)) _ | with_reducible refine Below.drew ?_ | with_reducible refine belowN ?_ _ | with_reducible refine Below.alloc ?_ (by first | omega | (simp; done) | (simp; omega)) _) : Below w.heap.size w _).trans (hb1.mono (by first | omega | (simp; done) | (simp; omega))))
  clear hb1
  go_wp2_with fail
  refine (zero_is (m := m) (e := e) (b := false) hz0 _).mono ?_
  rintro r w2 ⟨rfl, hb2⟩
  have f2_0 : w2.frozen? ⟨w.heap.size + 1 + 1, 0, none⟩ = false := carryF hb2 (v := .int .i64 0) (by first | with_reducible assumption | go_simp) (by first | with_reducible assumption | go_simp)
  have f2_1 : w2.frozen? ⟨w.heap.size + 1 + 1, 1, none⟩ = false := carryF hb2 (v := .int .i64 0) (by first | with_reducible assumption | go_simp) (by first | with_reducible assumption | go_simp)
  have c0_0 : w2.cell? ⟨w.heap.size, 0, none⟩ = some (.int .i64 m) := carry hb2 (by first | with_reducible assumption | go_simp)
  have c0_1 : w2.cell? ⟨w.heap.size, 1, none⟩ = some (.int .i64 e) := carry hb2 (by first | with_reducible assumption | go_simp)
  have z0 : w.heap.size < w2.heap.size := by have := hb2.size; first | omega | (simp at this; omega)
  have c1_0 : w2.cell? ⟨w.heap.size + 1, 0, none⟩ = some (.int .i64 k) := carry hb2 (by first | with_reducible assumption | go_simp)
  have z1 : w.heap.size + 1 < w2.heap.size := by have := hb2.size; first | omega | (simp at this; omega)
  have c2_0 : w2.cell? ⟨w.heap.size + 1 + 1, 0, none⟩ = some (.int .i64 0) := carry hb2 (by first | with_reducible assumption | go_simp)
  have c2_1 : w2.cell? ⟨w.heap.size + 1 + 1, 1, none⟩ = some (.int .i64 0) := carry hb2 (by first | with_reducible assumption | go_simp)
  have z2 : w.heap.size + 1 + 1 < w2.heap.size := by have := hb2.size; first | omega | (simp at this; omega)
  have HBB := Lib.hid ((by repeat (first | with_reducible exact HBB.out | with_reducible refine Below.setCell ?_ (by first | omega | (simp; done) | (simp; omega)) _ | with_reducible refine Below.drew ?_ | with_reducible refine belowN ?_ _ | with_reducible refine Below.alloc ?_ (by first | omega | (simp; done) | (simp; omega)) _) : Below w.heap.size w _).trans (hb2.mono (by first | omega | (simp; done) | (simp; omega))))
  clear hb2
  go_wp2_with fail
  have hz3 := HBB.out.size
  refine (ev_panic _ _ _ _ _ (Lib.hid fun W => HE.out _ W) (Lib.hid fun W hW => p2_r w.heap.size w2.heap.size n m e f g 0 0 W (carry hW (by first | with_reducible assumption | go_simp)) (carry hW (by first | with_reducible assumption | go_simp)) (carry hW (by first | with_reducible assumption | go_simp)) (Nat.lt_of_lt_of_le (by first | assumption | (simp <;> omega)) hW.size) (Nat.lt_of_lt_of_le (by first | assumption | (simp <;> omega)) hW.size) HS HR)).mono ?_
  rintro r w9 ⟨rfl, hb9⟩
  have f2_0 : w9.frozen? ⟨w.heap.size + 1 + 1, 0, none⟩ = false := carryF hb9 (v := .int .i64 0) (by first | with_reducible assumption | go_simp) (by first | with_reducible assumption | go_simp)
  have f2_1 : w9.frozen? ⟨w.heap.size + 1 + 1, 1, none⟩ = false := carryF hb9 (v := .int .i64 0) (by first | with_reducible assumption | go_simp) (by first | with_reducible assumption | go_simp)
  have c2_0 : w9.cell? ⟨w.heap.size + 1 + 1, 0, none⟩ = some (.int .i64 0) := carry hb9 (by first | with_reducible assumption | go_simp)
  have c2_1 : w9.cell? ⟨w.heap.size + 1 + 1, 1, none⟩ = some (.int .i64 0) := carry hb9 (by first | with_reducible assumption | go_simp)
  have z2 : w.heap.size + 1 + 1 < w9.heap.size := by have := hb9.size; first | omega | (simp at this; omega)
  have HBB := Lib.hid ((by repeat (first | with_reducible exact HBB.out | with_reducible refine Below.setCell ?_ (by first | omega | (simp; done) | (simp; omega)) _ | with_reducible refine Below.drew ?_ | with_reducible refine belowN ?_ _ | with_reducible refine Below.alloc ?_ (by first | omega | (simp; done) | (simp; omega)) _) : Below w.heap.size w _).trans (hb9.mono (by first | omega | (simp; done) | (simp; omega))))
  clear hb9
  go_wp2_with fail
  refine bodyPost_ret (v := rE 0 0 3) (by simp [results, Tryz.results37, go_sem, c2_0, c2_1]) rfl ⟨rfl, by repeat (first | with_reducible exact HBB.out | with_reducible exact Below.refl _ _ | with_reducible refine Below.drew ?_ | with_reducible refine belowN ?_ _ | with_reducible refine Below.setCell ?_ (by first | omega | (simp; done) | (simp; omega)) _ | with_reducible refine Below.alloc ?_ (by first | omega | (simp; done) | (simp; omega)) _)⟩

set_option maxRecDepth 100000 in
set_option maxHeartbeats 1600000 in
theorem powz_none (m e k : Int) (w : World) (HV : Hid (vr m e = true)) (hk0 : ¬ (0 : Int) ≤ k) (hz0 : decide (m = 0 ∧ e = 0) = true) :
    Calls Tryz.prog 37 #[realV m e, .int .i64 k] w fun r w' => r = .returned (rE 0 0 5) ∧ Below w.heap.size w w' := by
  obtain ⟨m1, m2, e1, e2⟩ := vr_bd HV.out
  go_enter Tryz.func37, Tryz.ntmps37
  go_wp2_with fail
  refine (valid_is HV.out _ (by omega) (by omega)).mono ?_
  rintro r w1 ⟨rfl, hb1⟩
  have f2_0 : w1.frozen? ⟨w.heap.size + 1 + 1, 0, none⟩ = false := carryF hb1 (v := .int .i64 0) (by first | with_reducible assumption | go_simp) (by first | with_reducible assumption | go_simp)
  have f2_1 : w1.frozen? ⟨w.heap.size + 1 + 1, 1, none⟩ = false := carryF hb1 (v := .int .i64 0) (by first | with_reducible assumption | go_simp) (by first | with_reducible assumption | go_simp)
  have c0_0 : w1.cell? ⟨w.heap.size, 0, none⟩ = some (.int .i64 m) := carry hb1 (by first | with_reducible assumption | go_simp)
  have c0_1 : w1.cell? ⟨w.heap.size, 1, none⟩ = some (.int .i64 e) := carry hb1 (by first | with_reducible assumption | go_simp)
  have z0 : w.heap.size < w1.heap.size := by have := hb1.size; first | omega | (simp at this; omega)
  have c1_0 : w1.cell? ⟨w.heap.size + 1, 0, none⟩ = some (.int .i64 k) := carry hb1 (by first | with_reducible assumption | go_simp)
  have z1 : w.heap.size + 1 < w1.heap.size := by have := hb1.size; first | omega | (simp at this; omega)
  have c2_0 : w1.cell? ⟨w.heap.size + 1 + 1, 0, none⟩ = some (.int .i64 0) := carry hb1 (by first | with_reducible assumption | go_simp)
  have c2_1 : w1.cell? ⟨w.heap.size + 1 + 1, 1, none⟩ = some (.int .i64 0) := carry hb1 (by first | with_reducible assumption | go_simp)
  have z2 : w.heap.size + 1 + 1 < w1.heap.size := by have := hb1.size; first | omega | (simp at this; omega)
  have HBB := Lib.hid ((by repeat (first | with_reducible exact Below.refl _ _ | with_reducible refine Below.setCell ?_ (by first | omega | (simp; done) | (simp; omega)) _ | with_reducible refine Below.drew ?_ | with_reducible refine belowN ?_ _ | with_reducible refine Below.alloc ?_ (by first | omega | (simp; done) | (simp; omega)) _) : Below w.heap.size w _).trans (hb1.mono (by first | omega | (simp; done) | (simp; omega))))
  clear hb1
  go_wp2_with fail
  refine (zero_is (m := m) (e := e) (b := true) hz0 _).mono ?_
  rintro r w2 ⟨rfl, hb2⟩
  have f2_0 : w2.frozen? ⟨w.heap.size + 1 + 1, 0, none⟩ = false := carryF hb2 (v := .int .i64 0) (by first | with_reducible assumption | go_simp) (by first | with_reducible assumption | go_simp)
  have f2_1 : w2.frozen? ⟨w.heap.size + 1 + 1, 1, none⟩ = false := carryF hb2 (v := .int .i64 0) (by first | with_reducible assumption | go_simp) (by first | with_reducible assumption | go_simp)
  have c2_0 : w2.cell? ⟨w.heap.size + 1 + 1, 0, none⟩ = some (.int .i64 0) := carry hb2 (by first | with_reducible assumption | go_simp)
  have c2_1 : w2.cell? ⟨w.heap.size + 1 + 1, 1, none⟩ = some (.int .i64 0) := carry hb2 (by first | with_reducible assumption | go_simp)
  have z2 : w.heap.size + 1 + 1 < w2.heap.size := by have := hb2.size; first | omega | (simp at this; omega)
  have HBB := Lib.hid ((by repeat (first | with_reducible exact HBB.out | with_reducible refine Below.setCell ?_ (by first | omega | (simp; done) | (simp; omega)) _ | with_reducible refine Below.drew ?_ | with_reducible refine belowN ?_ _ | with_reducible refine Below.alloc ?_ (by first | omega | (simp; done) | (simp; omega)) _) : Below w.heap.size w _).trans (hb2.mono (by first | omega | (simp; done) | (simp; omega))))
  clear hb2
  go_wp2_with fail
  refine bodyPost_ret (v := rE 0 0 5) (by simp [results, Tryz.results37, go_sem, c2_0, c2_1]) rfl ⟨rfl, by repeat (first | with_reducible exact HBB.out | with_reducible exact Below.refl _ _ | with_reducible refine Below.drew ?_ | with_reducible refine belowN ?_ _ | with_reducible refine Below.setCell ?_ (by first | omega | (simp; done) | (simp; omega)) _ | with_reducible refine Below.alloc ?_ (by first | omega | (simp; done) | (simp; omega)) _)⟩

set_option maxRecDepth 100000 in
set_option maxHeartbeats 1600000 in
theorem pow_bad (m e k : Int) (w : World) (HV : Hid (vr m e = false)) (h1 : -9223372036854775808 ≤ m) (h2 : m ≤ 9223372036854775807) :
    Calls Tryz.prog 37 #[realV m e, .int .i64 k] w fun r w' => r = .returned (rE 0 0 1) ∧ Below w.heap.size w w' := by
  go_enter Tryz.func37, Tryz.ntmps37
  go_wp2_with fail
  refine (valid_is HV.out _ h1 h2).mono ?_
  rintro r w1 ⟨rfl, hb1⟩
  have f2_0 : w1.frozen? ⟨w.heap.size + 1 + 1, 0, none⟩ = false := carryF hb1 (v := .int .i64 0) (by first | with_reducible assumption | go_simp) (by first | with_reducible assumption | go_simp)
  have f2_1 : w1.frozen? ⟨w.heap.size + 1 + 1, 1, none⟩ = false := carryF hb1 (v := .int .i64 0) (by first | with_reducible assumption | go_simp) (by first | with_reducible assumption | go_simp)
  have c2_0 : w1.cell? ⟨w.heap.size + 1 + 1, 0, none⟩ = some (.int .i64 0) := carry hb1 (by first | with_reducible assumption | go_simp)
  have c2_1 : w1.cell? ⟨w.heap.size + 1 + 1, 1, none⟩ = some (.int .i64 0) := carry hb1 (by first | with_reducible assumption | go_simp)
  have z2 : w.heap.size + 1 + 1 < w1.heap.size := by have := hb1.size; first | omega | (simp at this; omega)
  have HBB := Lib.hid ((by repeat (first | with_reducible exact Below.refl _ _ | with_reducible refine Below.setCell ?_ (by first | omega | (simp; done) | (simp; omega)) _ | with_reducible refine Below.drew ?_ | with_reducible refine belowN ?_ _ | with_reducible refine Below.alloc ?_ (by first | omega | (simp; done) | (simp; omega)) _) : Below w.heap.size w _).trans (hb1.mono (by first | omega | (simp; done) | (simp; omega))))
  clear hb1
  go_wp2_with fail
  refine bodyPost_ret (v := rE 0 0 1) (by simp [results, Tryz.results37, go_sem, c2_0, c2_1]) rfl ⟨rfl, by repeat (first | with_reducible exact HBB.out | with_reducible exact Below.refl _ _ | with_reducible refine Below.drew ?_ | with_reducible refine belowN ?_ _ | with_reducible refine Below.setCell ?_ (by first | omega | (simp; done) | (simp; omega)) _ | with_reducible refine Below.alloc ?_ (by first | omega | (simp; done) | (simp; omega)) _)⟩

/-- what Pow returns -/
def pwR (m e k : Int) : Value :=
  if 0 ≤ k then (match pwO (UU m e) k.toNat with
    | some p => rE (aM p) (aE p) 0
    | none => rE 0 0 3)
  else if m = 0 then rE 0 0 5
  else (match pwO (UU m e) (-k).toNat with
    | some p => if aM p = 0 then rE 0 0 3 else oR (rI (quM 8388608 (aM p)) (quE 8388608 (-23) (aE p)))
    | none => rE 0 0 3)

theorem at_oV {p : Int} (h : -2533359615 ≤ p ∧ p ≤ 2533359615) : oV (aM p) (aE p) = rE (aM p) (aE p) 0 := by
  have hv := at_vr h.1 h.2
  rw [oV_oR, rI_ix hv]
  obtain ⟨a, b, c⟩ := o_ix hv
  show rE (oM (ix (aM p) (aE p))) (oE (ix (aM p) (aE p))) (oX (ix (aM p) (aE p))) = _
  rw [a, b, c]

theorem pow_any (m e k : Int) (w : World) (h : vr m e = true) (k1 : -9223372036854775808 ≤ k) (k2 : k ≤ 9223372036854775807) :
    Calls Tryz.prog 37 #[realV m e, .int .i64 k] w fun r w' => r = .returned (pwR m e k) ∧ Below w.heap.size w w' := by
  obtain ⟨m1, m2, e1, e2⟩ := vr_bd h
  have HEV : ∀ f g : Int, -9223372036854775808 ≤ f → f ≤ 9223372036854775807 → -2000 ≤ g → g ≤ 2000 → ∀ (G : FuncId) (caps : Array Value) (W : World), (∀ X, Sem.run Tryz.prog (callFunc G caps) X = .ok (.enter G caps) X) → (∀ X, Below W.heap.size W X → Calls Tryz.prog G caps X fun r w' => r = .returned (realV f g) ∧ Below X.heap.size X w') → Calls Tryz.prog 52 #[.func (.func G) #[] caps] W fun r w' => r = .returned (oV f g) ∧ Below W.heap.size W w' :=
    fun f g f1 f2 g1 g2 G caps W hE hG => ev_any G caps f g W (Lib.hid hE) (Lib.hid hG) f1 f2 g1 g2
  unfold pwR
  by_cases hk : 0 ≤ k
  · rw [if_pos hk]
    obtain ⟨n, rfl⟩ := Int.eq_ofNat_of_zero_le hk
    rw [Int.toNat_natCast]
    have HP := fun W => power_any m e h n W (by omega)
    cases ho : pwO (UU m e) n with
    | none =>
      rw [ho] at HP
      exact pow_up n m e (by omega) (Lib.hid HP) w (Lib.hid h)
    | some p =>
      rw [ho] at HP
      have hp := pwO_in _ _ ho
      obtain ⟨f1, f2, g1, g2⟩ := vr_bd (at_vr hp.1 hp.2)
      refine pow_uk n m e (aM p) (aE p) _ _ _ (by omega) (Lib.hid HP) (Lib.hid ?_) w (Lib.hid h)
      have hq := HEV (aM p) (aE p) (by omega) (by omega) (by omega) (by omega)
      rwa [at_oV hp] at hq
  · rw [if_neg hk]
    by_cases hm : m = 0
    · rw [if_pos hm]
      have he : e = 0 := by
        have h9 := vr_iff.1 h
        rw [hm] at h9
        simp only [ab] at h9
        omega
      exact powz_none m e k w (Lib.hid h) hk (by simp [hm, he])
    · rw [if_neg hm]
      have hz : decide (m = 0 ∧ e = 0) = false := by simp [hm]
      obtain ⟨n, hn⟩ : ∃ n : Nat, n = (-k).toNat := ⟨_, rfl⟩
      rw [← hn]
      have hkn : k = -(n : Int) := by omega
      have HP := fun W => power_any m e h n W (by omega)
      cases ho : pwO (UU m e) n with
      | none =>
        rw [ho] at HP
        exact pow_dp n k m e hkn (by omega) (by omega) hz (Lib.hid HP) w (Lib.hid h)
      | some p =>
        rw [ho] at HP
        have hp := pwO_in _ _ ho
        have hv := at_vr hp.1 hp.2
        obtain ⟨f1, f2, g1, g2⟩ := vr_bd hv
        show Calls _ _ _ _ fun r w' => r = Ending.returned (if aM p = 0 then rE 0 0 3 else oR (rI (quM 8388608 (aM p)) (quE 8388608 (-23) (aE p)))) ∧ _
        by_cases hf : aM p = 0
        · rw [if_pos hf]
          have hg : aE p = 0 := by
            have h9 := vr_iff.1 hv
            rw [hf] at h9
            simp only [ab] at h9
            omega
          exact pow_dr n k m e (aM p) (aE p) hkn (by omega) (by omega) hz (Lib.hid HP) (Lib.hid (fun W => rc_z _ _ W (Lib.hid (fun X => zero_is (b := true) (by simp [hf, hg]) X)))) w (Lib.hid h)
        · rw [if_neg hf]
          have hqb := quM_bd 8388608 (aM p) (by omega) (by omega) (by omega) (by omega) hf
          obtain ⟨s1, s2, _, _⟩ := quS_bd 8388608 (by omega) (by omega)
          refine pow_dk n k m e (aM p) (aE p) (quM 8388608 (aM p)) (quE 8388608 (-23) (aE p)) _ _ _ hkn (by omega) (by omega) hz (Lib.hid HP) (Lib.hid (fun W => rc_ok _ _ _ _ W (Lib.hid (fun X => zero_is (b := false) (by simp [hf]) X)) (Lib.hid one_isA) (Lib.hid (fun X => quo_any 8388608 (-23) (aM p) (aE p) X (by decide) (by decide) (by omega) (by omega) (by decide) (by decide) (by omega) (by omega) hf)))) (Lib.hid ?_) w (Lib.hid h)
          have hq := HEV (quM 8388608 (aM p)) (quE 8388608 (-23) (aE p)) (by omega) (by omega) (by unfold quE; omega) (by unfold quE; omega)
          rwa [oV_oR] at hq

end Go.Proofs.YtbfknapmhkpgcaaGreatDoor
