/-
  PACKAGE real, numeric strings: taken apart.
-/
import Derived.Test.YtbfknapmhkpgcaaGreatDoorNum1

namespace Go.Proofs.YtbfknapmhkpgcaaGreatDoor
open Go.RowKit
set_option linter.unusedVariables false

set_option maxRecDepth 100000 in
set_option maxHeartbeats 1600000 in
theorem nof_long_f (s r0 wh r1 a fr r2 wf D : ByteArray) (neg : Bool) (e : Int) (w : World) (HCP1 : Hid (∀ w, Calls Tryz.prog 86 #[.string s, .string ⟨#[45]⟩] w fun e w' => e = .returned (.tuple #[.string r0, .bool neg]) ∧ w' = w)) (HC1 : Hid (∀ w : World, Calls Tryz.prog 87 #[.string r0] w fun e w' => e = .returned (.tuple #[.string wh, .string r1]) ∧ Below w.heap.size w w')) (hs : (60 : Int) < (s.size : Int)) :
    Calls Tryz.prog 75 #[.string s] w fun q w' => q = .returned (.tuple #[.agg #[.bool false, .string ⟨#[]⟩, .int .i64 0], .bool false]) ∧ Below w.heap.size w w' := by
  go_enter Tryz.func75, Tryz.ntmps75
  go_wp2_with fail
  refine (HCP1.out _).mono ?_
  rintro q w0 ⟨rfl, rfl⟩
  go_wp2_with fail
  refine (HC1.out _).mono ?_
  rintro q w1 ⟨rfl, hb1⟩
  have f0_0 : w1.frozen? ⟨w.heap.size, 0, none⟩ = false := carryF hb1 (v := .bool false) (by first | with_reducible assumption | go_simp) (by first | with_reducible assumption | go_simp)
  have f0_1 : w1.frozen? ⟨w.heap.size, 1, none⟩ = false := carryF hb1 (v := .string ⟨#[]⟩) (by first | with_reducible assumption | go_simp) (by first | with_reducible assumption | go_simp)
  have f0_2 : w1.frozen? ⟨w.heap.size, 2, none⟩ = false := carryF hb1 (v := .int .i64 0) (by first | with_reducible assumption | go_simp) (by first | with_reducible assumption | go_simp)
  have c0_0 : w1.cell? ⟨w.heap.size, 0, none⟩ = some (.bool false) := carry hb1 (by first | with_reducible assumption | go_simp)
  have c0_1 : w1.cell? ⟨w.heap.size, 1, none⟩ = some (.string ⟨#[]⟩) := carry hb1 (by first | with_reducible assumption | go_simp)
  have c0_2 : w1.cell? ⟨w.heap.size, 2, none⟩ = some (.int .i64 0) := carry hb1 (by first | with_reducible assumption | go_simp)
  have z0 : w.heap.size < w1.heap.size := by have := hb1.size; first | omega | (simp at this; omega)
  have HBB := Lib.hid ((by repeat (first | with_reducible exact Below.refl _ _ | with_reducible refine Below.setCell ?_ (by first | omega | (simp; done) | (simp; omega)) _ | with_reducible refine Below.drew ?_ | with_reducible refine belowN ?_ _ | with_reducible refine Below.alloc ?_ (by first | omega | (simp; done) | (simp; omega)) _) : Below w.heap.size w _).trans (hb1.mono (by first | omega | (simp; done) | (simp; omega))))
  clear hb1
  go_wp2_with fail
  refine bodyPost_ret (v := .tuple #[.agg #[.bool false, .string ⟨#[]⟩, .int .i64 0], .bool false]) (by simp [results, Tryz.results75, go_sem, c0_0, c0_1, c0_2]) rfl ⟨rfl, by repeat (first | with_reducible exact HBB.out | with_reducible exact Below.refl _ _ | with_reducible refine Below.drew ?_ | with_reducible refine belowN ?_ _ | with_reducible refine Below.setCell ?_ (by first | omega | (simp; done) | (simp; omega)) _ | with_reducible refine Below.alloc ?_ (by first | omega | (simp; done) | (simp; omega)) _)⟩

set_option maxRecDepth 100000 in
set_option maxHeartbeats 1600000 in
theorem nof_empty_f (s r0 wh r1 a fr r2 wf D : ByteArray) (neg : Bool) (e : Int) (w : World) (HCP1 : Hid (∀ w, Calls Tryz.prog 86 #[.string s, .string ⟨#[45]⟩] w fun e w' => e = .returned (.tuple #[.string r0, .bool neg]) ∧ w' = w)) (HC1 : Hid (∀ w : World, Calls Tryz.prog 87 #[.string r0] w fun e w' => e = .returned (.tuple #[.string wh, .string r1]) ∧ Below w.heap.size w w')) (hs : (s.size : Int) ≤ 60) (hw : wh.toList.isEmpty = true) :
    Calls Tryz.prog 75 #[.string s] w fun q w' => q = .returned (.tuple #[.agg #[.bool false, .string ⟨#[]⟩, .int .i64 0], .bool false]) ∧ Below w.heap.size w w' := by
  go_enter Tryz.func75, Tryz.ntmps75
  go_wp2_with fail
  refine (HCP1.out _).mono ?_
  rintro q w0 ⟨rfl, rfl⟩
  go_wp2_with fail
  refine (HC1.out _).mono ?_
  rintro q w1 ⟨rfl, hb1⟩
  have f0_0 : w1.frozen? ⟨w.heap.size, 0, none⟩ = false := carryF hb1 (v := .bool false) (by first | with_reducible assumption | go_simp) (by first | with_reducible assumption | go_simp)
  have f0_1 : w1.frozen? ⟨w.heap.size, 1, none⟩ = false := carryF hb1 (v := .string ⟨#[]⟩) (by first | with_reducible assumption | go_simp) (by first | with_reducible assumption | go_simp)
  have f0_2 : w1.frozen? ⟨w.heap.size, 2, none⟩ = false := carryF hb1 (v := .int .i64 0) (by first | with_reducible assumption | go_simp) (by first | with_reducible assumption | go_simp)
  have c0_0 : w1.cell? ⟨w.heap.size, 0, none⟩ = some (.bool false) := carry hb1 (by first | with_reducible assumption | go_simp)
  have c0_1 : w1.cell? ⟨w.heap.size, 1, none⟩ = some (.string ⟨#[]⟩) := carry hb1 (by first | with_reducible assumption | go_simp)
  have c0_2 : w1.cell? ⟨w.heap.size, 2, none⟩ = some (.int .i64 0) := carry hb1 (by first | with_reducible assumption | go_simp)
  have z0 : w.heap.size < w1.heap.size := by have := hb1.size; first | omega | (simp at this; omega)
  have HBB := Lib.hid ((by repeat (first | with_reducible exact Below.refl _ _ | with_reducible refine Below.setCell ?_ (by first | omega | (simp; done) | (simp; omega)) _ | with_reducible refine Below.drew ?_ | with_reducible refine belowN ?_ _ | with_reducible refine Below.alloc ?_ (by first | omega | (simp; done) | (simp; omega)) _) : Below w.heap.size w _).trans (hb1.mono (by first | omega | (simp; done) | (simp; omega))))
  clear hb1
  go_wp2_with fail
  refine bodyPost_ret (v := .tuple #[.agg #[.bool false, .string ⟨#[]⟩, .int .i64 0], .bool false]) (by simp [results, Tryz.results75, go_sem, c0_0, c0_1, c0_2]) rfl ⟨rfl, by repeat (first | with_reducible exact HBB.out | with_reducible exact Below.refl _ _ | with_reducible refine Below.drew ?_ | with_reducible refine belowN ?_ _ | with_reducible refine Below.setCell ?_ (by first | omega | (simp; done) | (simp; omega)) _ | with_reducible refine Below.alloc ?_ (by first | omega | (simp; done) | (simp; omega)) _)⟩

set_option maxRecDepth 100000 in
set_option maxHeartbeats 1600000 in
theorem nof_nofr_t (s r0 wh r1 a fr r2 wf D : ByteArray) (neg : Bool) (e : Int) (w : World) (HCP1 : Hid (∀ w, Calls Tryz.prog 86 #[.string s, .string ⟨#[45]⟩] w fun e w' => e = .returned (.tuple #[.string r0, .bool neg]) ∧ w' = w)) (HC1 : Hid (∀ w : World, Calls Tryz.prog 87 #[.string r0] w fun e w' => e = .returned (.tuple #[.string wh, .string r1]) ∧ Below w.heap.size w w')) (hs : (s.size : Int) ≤ 60) (hw : wh.toList.isEmpty = false) (HCP2 : Hid (∀ w, Calls Tryz.prog 86 #[.string r1, .string ⟨#[46]⟩] w fun e w' => e = .returned (.tuple #[.string a, .bool true]) ∧ w' = w)) (HC2 : Hid (∀ w : World, Calls Tryz.prog 87 #[.string a] w fun e w' => e = .returned (.tuple #[.string fr, .string r2]) ∧ Below w.heap.size w w')) (hfr : fr.toList.isEmpty = true) :
    Calls Tryz.prog 75 #[.string s] w fun q w' => q = .returned (.tuple #[.agg #[.bool false, .string ⟨#[]⟩, .int .i64 0], .bool false]) ∧ Below w.heap.size w w' := by
  go_enter Tryz.func75, Tryz.ntmps75
  go_wp2_with fail
  refine (HCP1.out _).mono ?_
  rintro q w0 ⟨rfl, rfl⟩
  go_wp2_with fail
  refine (HC1.out _).mono ?_
  rintro q w1 ⟨rfl, hb1⟩
  have f0_0 : w1.frozen? ⟨w.heap.size, 0, none⟩ = false := carryF hb1 (v := .bool false) (by first | with_reducible assumption | go_simp) (by first | with_reducible assumption | go_simp)
  have f0_1 : w1.frozen? ⟨w.heap.size, 1, none⟩ = false := carryF hb1 (v := .string ⟨#[]⟩) (by first | with_reducible assumption | go_simp) (by first | with_reducible assumption | go_simp)
  have f0_2 : w1.frozen? ⟨w.heap.size, 2, none⟩ = false := carryF hb1 (v := .int .i64 0) (by first | with_reducible assumption | go_simp) (by first | with_reducible assumption | go_simp)
  have c0_0 : w1.cell? ⟨w.heap.size, 0, none⟩ = some (.bool false) := carry hb1 (by first | with_reducible assumption | go_simp)
  have c0_1 : w1.cell? ⟨w.heap.size, 1, none⟩ = some (.string ⟨#[]⟩) := carry hb1 (by first | with_reducible assumption | go_simp)
  have c0_2 : w1.cell? ⟨w.heap.size, 2, none⟩ = some (.int .i64 0) := carry hb1 (by first | with_reducible assumption | go_simp)
  have z0 : w.heap.size < w1.heap.size := by have := hb1.size; first | omega | (simp at this; omega)
  have HBB := Lib.hid ((by repeat (first | with_reducible exact Below.refl _ _ | with_reducible refine Below.setCell ?_ (by first | omega | (simp; done) | (simp; omega)) _ | with_reducible refine Below.drew ?_ | with_reducible refine belowN ?_ _ | with_reducible refine Below.alloc ?_ (by first | omega | (simp; done) | (simp; omega)) _) : Below w.heap.size w _).trans (hb1.mono (by first | omega | (simp; done) | (simp; omega))))
  clear hb1
  go_wp2_with fail
  refine (HCP2.out _).mono ?_
  rintro q w2 ⟨rfl, rfl⟩
  go_wp2_with fail
  refine (HC2.out _).mono ?_
  rintro q w3 ⟨rfl, hb1⟩
  have f0_0 : w3.frozen? ⟨w.heap.size, 0, none⟩ = false := carryF hb1 (v := .bool false) (by first | with_reducible assumption | go_simp) (by first | with_reducible assumption | go_simp)
  have f0_1 : w3.frozen? ⟨w.heap.size, 1, none⟩ = false := carryF hb1 (v := .string ⟨#[]⟩) (by first | with_reducible assumption | go_simp) (by first | with_reducible assumption | go_simp)
  have f0_2 : w3.frozen? ⟨w.heap.size, 2, none⟩ = false := carryF hb1 (v := .int .i64 0) (by first | with_reducible assumption | go_simp) (by first | with_reducible assumption | go_simp)
  have c0_0 : w3.cell? ⟨w.heap.size, 0, none⟩ = some (.bool false) := carry hb1 (by first | with_reducible assumption | go_simp)
  have c0_1 : w3.cell? ⟨w.heap.size, 1, none⟩ = some (.string ⟨#[]⟩) := carry hb1 (by first | with_reducible assumption | go_simp)
  have c0_2 : w3.cell? ⟨w.heap.size, 2, none⟩ = some (.int .i64 0) := carry hb1 (by first | with_reducible assumption | go_simp)
  have z0 : w.heap.size < w3.heap.size := by have := hb1.size; first | omega | (simp at this; omega)
  have HBB := Lib.hid ((by repeat (first | with_reducible exact HBB.out | with_reducible refine Below.setCell ?_ (by first | omega | (simp; done) | (simp; omega)) _ | with_reducible refine Below.drew ?_ | with_reducible refine belowN ?_ _ | with_reducible refine Below.alloc ?_ (by first | omega | (simp; done) | (simp; omega)) _) : Below w.heap.size w _).trans (hb1.mono (by first | omega | (simp; done) | (simp; omega))))
  clear hb1
  go_wp2_with fail
  refine bodyPost_ret (v := .tuple #[.agg #[.bool false, .string ⟨#[]⟩, .int .i64 0], .bool false]) (by simp [results, Tryz.results75, go_sem, c0_0, c0_1, c0_2]) rfl ⟨rfl, by repeat (first | with_reducible exact HBB.out | with_reducible exact Below.refl _ _ | with_reducible refine Below.drew ?_ | with_reducible refine belowN ?_ _ | with_reducible refine Below.setCell ?_ (by first | omega | (simp; done) | (simp; omega)) _ | with_reducible refine Below.alloc ?_ (by first | omega | (simp; done) | (simp; omega)) _)⟩

set_option maxRecDepth 100000 in
set_option maxHeartbeats 1600000 in
theorem nof_bad_t (s r0 wh r1 a fr r2 wf D : ByteArray) (neg : Bool) (e : Int) (w : World) (HCP1 : Hid (∀ w, Calls Tryz.prog 86 #[.string s, .string ⟨#[45]⟩] w fun e w' => e = .returned (.tuple #[.string r0, .bool neg]) ∧ w' = w)) (HC1 : Hid (∀ w : World, Calls Tryz.prog 87 #[.string r0] w fun e w' => e = .returned (.tuple #[.string wh, .string r1]) ∧ Below w.heap.size w w')) (hs : (s.size : Int) ≤ 60) (hw : wh.toList.isEmpty = false) (HCP2 : Hid (∀ w, Calls Tryz.prog 86 #[.string r1, .string ⟨#[46]⟩] w fun e w' => e = .returned (.tuple #[.string a, .bool true]) ∧ w' = w)) (HC2 : Hid (∀ w : World, Calls Tryz.prog 87 #[.string a] w fun e w' => e = .returned (.tuple #[.string fr, .string r2]) ∧ Below w.heap.size w w')) (hfr : fr.toList.isEmpty = false) (HEX : Hid (∀ w : World, Calls Tryz.prog 88 #[.string r2] w fun q w' => q = .returned (.tuple #[.int .i64 0, .bool false]) ∧ Below w.heap.size w w')) :
    Calls Tryz.prog 75 #[.string s] w fun q w' => q = .returned (.tuple #[.agg #[.bool false, .string ⟨#[]⟩, .int .i64 0], .bool false]) ∧ Below w.heap.size w w' := by
  go_enter Tryz.func75, Tryz.ntmps75
  go_wp2_with fail
  refine (HCP1.out _).mono ?_
  rintro q w0 ⟨rfl, rfl⟩
  go_wp2_with fail
  refine (HC1.out _).mono ?_
  rintro q w1 ⟨rfl, hb1⟩
  have f0_0 : w1.frozen? ⟨w.heap.size, 0, none⟩ = false := carryF hb1 (v := .bool false) (by first | with_reducible assumption | go_simp) (by first | with_reducible assumption | go_simp)
  have f0_1 : w1.frozen? ⟨w.heap.size, 1, none⟩ = false := carryF hb1 (v := .string ⟨#[]⟩) (by first | with_reducible assumption | go_simp) (by first | with_reducible assumption | go_simp)
  have f0_2 : w1.frozen? ⟨w.heap.size, 2, none⟩ = false := carryF hb1 (v := .int .i64 0) (by first | with_reducible assumption | go_simp) (by first | with_reducible assumption | go_simp)
  have c0_0 : w1.cell? ⟨w.heap.size, 0, none⟩ = some (.bool false) := carry hb1 (by first | with_reducible assumption | go_simp)
  have c0_1 : w1.cell? ⟨w.heap.size, 1, none⟩ = some (.string ⟨#[]⟩) := carry hb1 (by first | with_reducible assumption | go_simp)
  have c0_2 : w1.cell? ⟨w.heap.size, 2, none⟩ = some (.int .i64 0) := carry hb1 (by first | with_reducible assumption | go_simp)
  have z0 : w.heap.size < w1.heap.size := by have := hb1.size; first | omega | (simp at this; omega)
  have HBB := Lib.hid ((by repeat (first | with_reducible exact Below.refl _ _ | with_reducible refine Below.setCell ?_ (by first | omega | (simp; done) | (simp; omega)) _ | with_reducible refine Below.drew ?_ | with_reducible refine belowN ?_ _ | with_reducible refine Below.alloc ?_ (by first | omega | (simp; done) | (simp; omega)) _) : Below w.heap.size w _).trans (hb1.mono (by first | omega | (simp; done) | (simp; omega))))
  clear hb1
  go_wp2_with fail
  refine (HCP2.out _).mono ?_
  rintro q w2 ⟨rfl, rfl⟩
  go_wp2_with fail
  refine (HC2.out _).mono ?_
  rintro q w3 ⟨rfl, hb1⟩
  have f0_0 : w3.frozen? ⟨w.heap.size, 0, none⟩ = false := carryF hb1 (v := .bool false) (by first | with_reducible assumption | go_simp) (by first | with_reducible assumption | go_simp)
  have f0_1 : w3.frozen? ⟨w.heap.size, 1, none⟩ = false := carryF hb1 (v := .string ⟨#[]⟩) (by first | with_reducible assumption | go_simp) (by first | with_reducible assumption | go_simp)
  have f0_2 : w3.frozen? ⟨w.heap.size, 2, none⟩ = false := carryF hb1 (v := .int .i64 0) (by first | with_reducible assumption | go_simp) (by first | with_reducible assumption | go_simp)
  have c0_0 : w3.cell? ⟨w.heap.size, 0, none⟩ = some (.bool false) := carry hb1 (by first | with_reducible assumption | go_simp)
  have c0_1 : w3.cell? ⟨w.heap.size, 1, none⟩ = some (.string ⟨#[]⟩) := carry hb1 (by first | with_reducible assumption | go_simp)
  have c0_2 : w3.cell? ⟨w.heap.size, 2, none⟩ = some (.int .i64 0) := carry hb1 (by first | with_reducible assumption | go_simp)
  have z0 : w.heap.size < w3.heap.size := by have := hb1.size; first | omega | (simp at this; omega)
  have HBB := Lib.hid ((by repeat (first | with_reducible exact HBB.out | with_reducible refine Below.setCell ?_ (by first | omega | (simp; done) | (simp; omega)) _ | with_reducible refine Below.drew ?_ | with_reducible refine belowN ?_ _ | with_reducible refine Below.alloc ?_ (by first | omega | (simp; done) | (simp; omega)) _) : Below w.heap.size w _).trans (hb1.mono (by first | omega | (simp; done) | (simp; omega))))
  clear hb1
  go_wp2_with fail
  refine (HEX.out _).mono ?_
  rintro q w4 ⟨rfl, hb1⟩
  have f0_0 : w4.frozen? ⟨w.heap.size, 0, none⟩ = false := carryF hb1 (v := .bool false) (by first | with_reducible assumption | go_simp) (by first | with_reducible assumption | go_simp)
  have f0_1 : w4.frozen? ⟨w.heap.size, 1, none⟩ = false := carryF hb1 (v := .string ⟨#[]⟩) (by first | with_reducible assumption | go_simp) (by first | with_reducible assumption | go_simp)
  have f0_2 : w4.frozen? ⟨w.heap.size, 2, none⟩ = false := carryF hb1 (v := .int .i64 0) (by first | with_reducible assumption | go_simp) (by first | with_reducible assumption | go_simp)
  have c0_0 : w4.cell? ⟨w.heap.size, 0, none⟩ = some (.bool false) := carry hb1 (by first | with_reducible assumption | go_simp)
  have c0_1 : w4.cell? ⟨w.heap.size, 1, none⟩ = some (.string ⟨#[]⟩) := carry hb1 (by first | with_reducible assumption | go_simp)
  have c0_2 : w4.cell? ⟨w.heap.size, 2, none⟩ = some (.int .i64 0) := carry hb1 (by first | with_reducible assumption | go_simp)
  have z0 : w.heap.size < w4.heap.size := by have := hb1.size; first | omega | (simp at this; omega)
  have HBB := Lib.hid ((by repeat (first | with_reducible exact HBB.out | with_reducible refine Below.setCell ?_ (by first | omega | (simp; done) | (simp; omega)) _ | with_reducible refine Below.drew ?_ | with_reducible refine belowN ?_ _ | with_reducible refine Below.alloc ?_ (by first | omega | (simp; done) | (simp; omega)) _) : Below w.heap.size w _).trans (hb1.mono (by first | omega | (simp; done) | (simp; omega))))
  clear hb1
  go_wp2_with fail
  refine bodyPost_ret (v := .tuple #[.agg #[.bool false, .string ⟨#[]⟩, .int .i64 0], .bool false]) (by simp [results, Tryz.results75, go_sem, c0_0, c0_1, c0_2]) rfl ⟨rfl, by repeat (first | with_reducible exact HBB.out | with_reducible exact Below.refl _ _ | with_reducible refine Below.drew ?_ | with_reducible refine belowN ?_ _ | with_reducible refine Below.setCell ?_ (by first | omega | (simp; done) | (simp; omega)) _ | with_reducible refine Below.alloc ?_ (by first | omega | (simp; done) | (simp; omega)) _)⟩

set_option maxRecDepth 100000 in
set_option maxHeartbeats 1600000 in
theorem nof_bad_f (s r0 wh r1 a fr r2 wf D : ByteArray) (neg : Bool) (e : Int) (w : World) (HCP1 : Hid (∀ w, Calls Tryz.prog 86 #[.string s, .string ⟨#[45]⟩] w fun e w' => e = .returned (.tuple #[.string r0, .bool neg]) ∧ w' = w)) (HC1 : Hid (∀ w : World, Calls Tryz.prog 87 #[.string r0] w fun e w' => e = .returned (.tuple #[.string wh, .string r1]) ∧ Below w.heap.size w w')) (hs : (s.size : Int) ≤ 60) (hw : wh.toList.isEmpty = false) (HCP2 : Hid (∀ w, Calls Tryz.prog 86 #[.string r1, .string ⟨#[46]⟩] w fun e w' => e = .returned (.tuple #[.string a, .bool false]) ∧ w' = w)) (HEX : Hid (∀ w : World, Calls Tryz.prog 88 #[.string r1] w fun q w' => q = .returned (.tuple #[.int .i64 0, .bool false]) ∧ Below w.heap.size w w')) :
    Calls Tryz.prog 75 #[.string s] w fun q w' => q = .returned (.tuple #[.agg #[.bool false, .string ⟨#[]⟩, .int .i64 0], .bool false]) ∧ Below w.heap.size w w' := by
  go_enter Tryz.func75, Tryz.ntmps75
  go_wp2_with fail
  refine (HCP1.out _).mono ?_
  rintro q w0 ⟨rfl, rfl⟩
  go_wp2_with fail
  refine (HC1.out _).mono ?_
  rintro q w1 ⟨rfl, hb1⟩
  have f0_0 : w1.frozen? ⟨w.heap.size, 0, none⟩ = false := carryF hb1 (v := .bool false) (by first | with_reducible assumption | go_simp) (by first | with_reducible assumption | go_simp)
  have f0_1 : w1.frozen? ⟨w.heap.size, 1, none⟩ = false := carryF hb1 (v := .string ⟨#[]⟩) (by first | with_reducible assumption | go_simp) (by first | with_reducible assumption | go_simp)
  have f0_2 : w1.frozen? ⟨w.heap.size, 2, none⟩ = false := carryF hb1 (v := .int .i64 0) (by first | with_reducible assumption | go_simp) (by first | with_reducible assumption | go_simp)
  have c0_0 : w1.cell? ⟨w.heap.size, 0, none⟩ = some (.bool false) := carry hb1 (by first | with_reducible assumption | go_simp)
  have c0_1 : w1.cell? ⟨w.heap.size, 1, none⟩ = some (.string ⟨#[]⟩) := carry hb1 (by first | with_reducible assumption | go_simp)
  have c0_2 : w1.cell? ⟨w.heap.size, 2, none⟩ = some (.int .i64 0) := carry hb1 (by first | with_reducible assumption | go_simp)
  have z0 : w.heap.size < w1.heap.size := by have := hb1.size; first | omega | (simp at this; omega)
  have HBB := Lib.hid ((by repeat (first | with_reducible exact Below.refl _ _ | with_reducible refine Below.setCell ?_ (by first | omega | (simp; done) | (simp; omega)) _ | with_reducible refine Below.drew ?_ | with_reducible refine belowN ?_ _ | with_reducible refine Below.alloc ?_ (by first | omega | (simp; done) | (simp; omega)) _) : Below w.heap.size w _).trans (hb1.mono (by first | omega | (simp; done) | (simp; omega))))
  clear hb1
  go_wp2_with fail
  refine (HCP2.out _).mono ?_
  rintro q w2 ⟨rfl, rfl⟩
  go_wp2_with fail
  refine (HEX.out _).mono ?_
  rintro q w4 ⟨rfl, hb1⟩
  have f0_0 : w4.frozen? ⟨w.heap.size, 0, none⟩ = false := carryF hb1 (v := .bool false) (by first | with_reducible assumption | go_simp) (by first | with_reducible assumption | go_simp)
  have f0_1 : w4.frozen? ⟨w.heap.size, 1, none⟩ = false := carryF hb1 (v := .string ⟨#[]⟩) (by first | with_reducible assumption | go_simp) (by first | with_reducible assumption | go_simp)
  have f0_2 : w4.frozen? ⟨w.heap.size, 2, none⟩ = false := carryF hb1 (v := .int .i64 0) (by first | with_reducible assumption | go_simp) (by first | with_reducible assumption | go_simp)
  have c0_0 : w4.cell? ⟨w.heap.size, 0, none⟩ = some (.bool false) := carry hb1 (by first | with_reducible assumption | go_simp)
  have c0_1 : w4.cell? ⟨w.heap.size, 1, none⟩ = some (.string ⟨#[]⟩) := carry hb1 (by first | with_reducible assumption | go_simp)
  have c0_2 : w4.cell? ⟨w.heap.size, 2, none⟩ = some (.int .i64 0) := carry hb1 (by first | with_reducible assumption | go_simp)
  have z0 : w.heap.size < w4.heap.size := by have := hb1.size; first | omega | (simp at this; omega)
  have HBB := Lib.hid ((by repeat (first | with_reducible exact HBB.out | with_reducible refine Below.setCell ?_ (by first | omega | (simp; done) | (simp; omega)) _ | with_reducible refine Below.drew ?_ | with_reducible refine belowN ?_ _ | with_reducible refine Below.alloc ?_ (by first | omega | (simp; done) | (simp; omega)) _) : Below w.heap.size w _).trans (hb1.mono (by first | omega | (simp; done) | (simp; omega))))
  clear hb1
  go_wp2_with fail
  refine bodyPost_ret (v := .tuple #[.agg #[.bool false, .string ⟨#[]⟩, .int .i64 0], .bool false]) (by simp [results, Tryz.results75, go_sem, c0_0, c0_1, c0_2]) rfl ⟨rfl, by repeat (first | with_reducible exact HBB.out | with_reducible exact Below.refl _ _ | with_reducible refine Below.drew ?_ | with_reducible refine belowN ?_ _ | with_reducible refine Below.setCell ?_ (by first | omega | (simp; done) | (simp; omega)) _ | with_reducible refine Below.alloc ?_ (by first | omega | (simp; done) | (simp; omega)) _)⟩

set_option maxRecDepth 100000 in
set_option maxHeartbeats 1600000 in
theorem nof_ok_t (s r0 wh r1 a fr r2 wf D : ByteArray) (neg : Bool) (e : Int) (w : World) (HCP1 : Hid (∀ w, Calls Tryz.prog 86 #[.string s, .string ⟨#[45]⟩] w fun e w' => e = .returned (.tuple #[.string r0, .bool neg]) ∧ w' = w)) (HC1 : Hid (∀ w : World, Calls Tryz.prog 87 #[.string r0] w fun e w' => e = .returned (.tuple #[.string wh, .string r1]) ∧ Below w.heap.size w w')) (hs : (s.size : Int) ≤ 60) (hw : wh.toList.isEmpty = false) (HCP2 : Hid (∀ w, Calls Tryz.prog 86 #[.string r1, .string ⟨#[46]⟩] w fun e w' => e = .returned (.tuple #[.string a, .bool true]) ∧ w' = w)) (HC2 : Hid (∀ w : World, Calls Tryz.prog 87 #[.string a] w fun e w' => e = .returned (.tuple #[.string fr, .string r2]) ∧ Below w.heap.size w w')) (hfr : fr.toList.isEmpty = false) (HEX : Hid (∀ w : World, Calls Tryz.prog 88 #[.string r2] w fun q w' => q = .returned (.tuple #[.int .i64 e, .bool true]) ∧ Below w.heap.size w w')) (hadd : ∀ w, (Op.stringOp .add wh fr).run Tryz.prog w = .ok (.string wf) w) (HTL : Hid (∀ w, Calls Tryz.prog 89 #[.string wf, .string ⟨#[48]⟩] w fun e w' => e = .returned (.string D) ∧ w' = w)) (he1 : -1000 ≤ e) (he2 : e ≤ 1000) (n : Nat) (hn : fr.size = n) (hn2 : n ≤ 60) :
    Calls Tryz.prog 75 #[.string s] w fun q w' => q = .returned (.tuple #[.agg #[.bool neg, .string D, .int .i64 (e - (n : Int))], .bool true]) ∧ Below w.heap.size w w' := by
  go_enter Tryz.func75, Tryz.ntmps75
  go_wp2_with fail
  refine (HCP1.out _).mono ?_
  rintro q w0 ⟨rfl, rfl⟩
  go_wp2_with fail
  refine (HC1.out _).mono ?_
  rintro q w1 ⟨rfl, hb1⟩
  have f0_0 : w1.frozen? ⟨w.heap.size, 0, none⟩ = false := carryF hb1 (v := .bool false) (by first | with_reducible assumption | go_simp) (by first | with_reducible assumption | go_simp)
  have f0_1 : w1.frozen? ⟨w.heap.size, 1, none⟩ = false := carryF hb1 (v := .string ⟨#[]⟩) (by first | with_reducible assumption | go_simp) (by first | with_reducible assumption | go_simp)
  have f0_2 : w1.frozen? ⟨w.heap.size, 2, none⟩ = false := carryF hb1 (v := .int .i64 0) (by first | with_reducible assumption | go_simp) (by first | with_reducible assumption | go_simp)
  have c0_0 : w1.cell? ⟨w.heap.size, 0, none⟩ = some (.bool false) := carry hb1 (by first | with_reducible assumption | go_simp)
  have c0_1 : w1.cell? ⟨w.heap.size, 1, none⟩ = some (.string ⟨#[]⟩) := carry hb1 (by first | with_reducible assumption | go_simp)
  have c0_2 : w1.cell? ⟨w.heap.size, 2, none⟩ = some (.int .i64 0) := carry hb1 (by first | with_reducible assumption | go_simp)
  have z0 : w.heap.size < w1.heap.size := by have := hb1.size; first | omega | (simp at this; omega)
  have HBB := Lib.hid ((by repeat (first | with_reducible exact Below.refl _ _ | with_reducible refine Below.setCell ?_ (by first | omega | (simp; done) | (simp; omega)) _ | with_reducible refine Below.drew ?_ | with_reducible refine belowN ?_ _ | with_reducible refine Below.alloc ?_ (by first | omega | (simp; done) | (simp; omega)) _) : Below w.heap.size w _).trans (hb1.mono (by first | omega | (simp; done) | (simp; omega))))
  clear hb1
  go_wp2_with fail
  refine (HCP2.out _).mono ?_
  rintro q w2 ⟨rfl, rfl⟩
  go_wp2_with fail
  refine (HC2.out _).mono ?_
  rintro q w3 ⟨rfl, hb1⟩
  have f0_0 : w3.frozen? ⟨w.heap.size, 0, none⟩ = false := carryF hb1 (v := .bool false) (by first | with_reducible assumption | go_simp) (by first | with_reducible assumption | go_simp)
  have f0_1 : w3.frozen? ⟨w.heap.size, 1, none⟩ = false := carryF hb1 (v := .string ⟨#[]⟩) (by first | with_reducible assumption | go_simp) (by first | with_reducible assumption | go_simp)
  have f0_2 : w3.frozen? ⟨w.heap.size, 2, none⟩ = false := carryF hb1 (v := .int .i64 0) (by first | with_reducible assumption | go_simp) (by first | with_reducible assumption | go_simp)
  have c0_0 : w3.cell? ⟨w.heap.size, 0, none⟩ = some (.bool false) := carry hb1 (by first | with_reducible assumption | go_simp)
  have c0_1 : w3.cell? ⟨w.heap.size, 1, none⟩ = some (.string ⟨#[]⟩) := carry hb1 (by first | with_reducible assumption | go_simp)
  have c0_2 : w3.cell? ⟨w.heap.size, 2, none⟩ = some (.int .i64 0) := carry hb1 (by first | with_reducible assumption | go_simp)
  have z0 : w.heap.size < w3.heap.size := by have := hb1.size; first | omega | (simp at this; omega)
  have HBB := Lib.hid ((by repeat (first | with_reducible exact HBB.out | with_reducible refine Below.setCell ?_ (by first | omega | (simp; done) | (simp; omega)) _ | with_reducible refine Below.drew ?_ | with_reducible refine belowN ?_ _ | with_reducible refine Below.alloc ?_ (by first | omega | (simp; done) | (simp; omega)) _) : Below w.heap.size w _).trans (hb1.mono (by first | omega | (simp; done) | (simp; omega))))
  clear hb1
  go_wp2_with fail
  refine (HEX.out _).mono ?_
  rintro q w4 ⟨rfl, hb1⟩
  have f0_0 : w4.frozen? ⟨w.heap.size, 0, none⟩ = false := carryF hb1 (v := .bool false) (by first | with_reducible assumption | go_simp) (by first | with_reducible assumption | go_simp)
  have f0_1 : w4.frozen? ⟨w.heap.size, 1, none⟩ = false := carryF hb1 (v := .string ⟨#[]⟩) (by first | with_reducible assumption | go_simp) (by first | with_reducible assumption | go_simp)
  have f0_2 : w4.frozen? ⟨w.heap.size, 2, none⟩ = false := carryF hb1 (v := .int .i64 0) (by first | with_reducible assumption | go_simp) (by first | with_reducible assumption | go_simp)
  have c0_0 : w4.cell? ⟨w.heap.size, 0, none⟩ = some (.bool false) := carry hb1 (by first | with_reducible assumption | go_simp)
  have c0_1 : w4.cell? ⟨w.heap.size, 1, none⟩ = some (.string ⟨#[]⟩) := carry hb1 (by first | with_reducible assumption | go_simp)
  have c0_2 : w4.cell? ⟨w.heap.size, 2, none⟩ = some (.int .i64 0) := carry hb1 (by first | with_reducible assumption | go_simp)
  have z0 : w.heap.size < w4.heap.size := by have := hb1.size; first | omega | (simp at this; omega)
  have HBB := Lib.hid ((by repeat (first | with_reducible exact HBB.out | with_reducible refine Below.setCell ?_ (by first | omega | (simp; done) | (simp; omega)) _ | with_reducible refine Below.drew ?_ | with_reducible refine belowN ?_ _ | with_reducible refine Below.alloc ?_ (by first | omega | (simp; done) | (simp; omega)) _) : Below w.heap.size w _).trans (hb1.mono (by first | omega | (simp; done) | (simp; omega))))
  clear hb1
  go_wp2_with fail
  refine (HTL.out _).mono ?_
  rintro q w5 ⟨rfl, rfl⟩
  go_wp2_with fail
  refine bodyPost_ret (v := .tuple #[.agg #[.bool neg, .string D, .int .i64 (e - (n : Int))], .bool true]) (by simp [results, Tryz.results75, go_sem, c0_0, c0_1, c0_2]) rfl ⟨rfl, by repeat (first | with_reducible exact HBB.out | with_reducible exact Below.refl _ _ | with_reducible refine Below.drew ?_ | with_reducible refine belowN ?_ _ | with_reducible refine Below.setCell ?_ (by first | omega | (simp; done) | (simp; omega)) _ | with_reducible refine Below.alloc ?_ (by first | omega | (simp; done) | (simp; omega)) _)⟩

set_option maxRecDepth 100000 in
set_option maxHeartbeats 1600000 in
theorem nof_ok_f (s r0 wh r1 a fr r2 wf D : ByteArray) (neg : Bool) (e : Int) (w : World) (HCP1 : Hid (∀ w, Calls Tryz.prog 86 #[.string s, .string ⟨#[45]⟩] w fun e w' => e = .returned (.tuple #[.string r0, .bool neg]) ∧ w' = w)) (HC1 : Hid (∀ w : World, Calls Tryz.prog 87 #[.string r0] w fun e w' => e = .returned (.tuple #[.string wh, .string r1]) ∧ Below w.heap.size w w')) (hs : (s.size : Int) ≤ 60) (hw : wh.toList.isEmpty = false) (HCP2 : Hid (∀ w, Calls Tryz.prog 86 #[.string r1, .string ⟨#[46]⟩] w fun e w' => e = .returned (.tuple #[.string a, .bool false]) ∧ w' = w)) (HEX : Hid (∀ w : World, Calls Tryz.prog 88 #[.string r1] w fun q w' => q = .returned (.tuple #[.int .i64 e, .bool true]) ∧ Below w.heap.size w w')) (hadd : ∀ w, (Op.stringOp .add wh ⟨#[]⟩).run Tryz.prog w = .ok (.string wf) w) (HTL : Hid (∀ w, Calls Tryz.prog 89 #[.string wf, .string ⟨#[48]⟩] w fun e w' => e = .returned (.string D) ∧ w' = w)) (he1 : -1000 ≤ e) (he2 : e ≤ 1000) (n : Nat) :
    Calls Tryz.prog 75 #[.string s] w fun q w' => q = .returned (.tuple #[.agg #[.bool neg, .string D, .int .i64 e], .bool true]) ∧ Below w.heap.size w w' := by
  go_enter Tryz.func75, Tryz.ntmps75
  go_wp2_with fail
  refine (HCP1.out _).mono ?_
  rintro q w0 ⟨rfl, rfl⟩
  go_wp2_with fail
  refine (HC1.out _).mono ?_
  rintro q w1 ⟨rfl, hb1⟩
  have f0_0 : w1.frozen? ⟨w.heap.size, 0, none⟩ = false := carryF hb1 (v := .bool false) (by first | with_reducible assumption | go_simp) (by first | with_reducible assumption | go_simp)
  have f0_1 : w1.frozen? ⟨w.heap.size, 1, none⟩ = false := carryF hb1 (v := .string ⟨#[]⟩) (by first | with_reducible assumption | go_simp) (by first | with_reducible assumption | go_simp)
  have f0_2 : w1.frozen? ⟨w.heap.size, 2, none⟩ = false := carryF hb1 (v := .int .i64 0) (by first | with_reducible assumption | go_simp) (by first | with_reducible assumption | go_simp)
  have c0_0 : w1.cell? ⟨w.heap.size, 0, none⟩ = some (.bool false) := carry hb1 (by first | with_reducible assumption | go_simp)
  have c0_1 : w1.cell? ⟨w.heap.size, 1, none⟩ = some (.string ⟨#[]⟩) := carry hb1 (by first | with_reducible assumption | go_simp)
  have c0_2 : w1.cell? ⟨w.heap.size, 2, none⟩ = some (.int .i64 0) := carry hb1 (by first | with_reducible assumption | go_simp)
  have z0 : w.heap.size < w1.heap.size := by have := hb1.size; first | omega | (simp at this; omega)
  have HBB := Lib.hid ((by repeat (first | with_reducible exact Below.refl _ _ | with_reducible refine Below.setCell ?_ (by first | omega | (simp; done) | (simp; omega)) _ | with_reducible refine Below.drew ?_ | with_reducible refine belowN ?_ _ | with_reducible refine Below.alloc ?_ (by first | omega | (simp; done) | (simp; omega)) _) : Below w.heap.size w _).trans (hb1.mono (by first | omega | (simp; done) | (simp; omega))))
  clear hb1
  go_wp2_with fail
  refine (HCP2.out _).mono ?_
  rintro q w2 ⟨rfl, rfl⟩
  go_wp2_with fail
  refine (HEX.out _).mono ?_
  rintro q w4 ⟨rfl, hb1⟩
  have f0_0 : w4.frozen? ⟨w.heap.size, 0, none⟩ = false := carryF hb1 (v := .bool false) (by first | with_reducible assumption | go_simp) (by first | with_reducible assumption | go_simp)
  have f0_1 : w4.frozen? ⟨w.heap.size, 1, none⟩ = false := carryF hb1 (v := .string ⟨#[]⟩) (by first | with_reducible assumption | go_simp) (by first | with_reducible assumption | go_simp)
  have f0_2 : w4.frozen? ⟨w.heap.size, 2, none⟩ = false := carryF hb1 (v := .int .i64 0) (by first | with_reducible assumption | go_simp) (by first | with_reducible assumption | go_simp)
  have c0_0 : w4.cell? ⟨w.heap.size, 0, none⟩ = some (.bool false) := carry hb1 (by first | with_reducible assumption | go_simp)
  have c0_1 : w4.cell? ⟨w.heap.size, 1, none⟩ = some (.string ⟨#[]⟩) := carry hb1 (by first | with_reducible assumption | go_simp)
  have c0_2 : w4.cell? ⟨w.heap.size, 2, none⟩ = some (.int .i64 0) := carry hb1 (by first | with_reducible assumption | go_simp)
  have z0 : w.heap.size < w4.heap.size := by have := hb1.size; first | omega | (simp at this; omega)
  have HBB := Lib.hid ((by repeat (first | with_reducible exact HBB.out | with_reducible refine Below.setCell ?_ (by first | omega | (simp; done) | (simp; omega)) _ | with_reducible refine Below.drew ?_ | with_reducible refine belowN ?_ _ | with_reducible refine Below.alloc ?_ (by first | omega | (simp; done) | (simp; omega)) _) : Below w.heap.size w _).trans (hb1.mono (by first | omega | (simp; done) | (simp; omega))))
  clear hb1
  go_wp2_with fail
  refine (HTL.out _).mono ?_
  rintro q w5 ⟨rfl, rfl⟩
  go_wp2_with fail
  refine bodyPost_ret (v := .tuple #[.agg #[.bool neg, .string D, .int .i64 e], .bool true]) (by simp [results, Tryz.results75, go_sem, c0_0, c0_1, c0_2]) rfl ⟨rfl, by repeat (first | with_reducible exact HBB.out | with_reducible exact Below.refl _ _ | with_reducible refine Below.drew ?_ | with_reducible refine belowN ?_ _ | with_reducible refine Below.setCell ?_ (by first | omega | (simp; done) | (simp; omega)) _ | with_reducible refine Below.alloc ?_ (by first | omega | (simp; done) | (simp; omega)) _)⟩

end Go.Proofs.YtbfknapmhkpgcaaGreatDoor
