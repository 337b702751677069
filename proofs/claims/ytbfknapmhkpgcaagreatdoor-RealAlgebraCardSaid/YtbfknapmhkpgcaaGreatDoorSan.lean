/-
  PACKAGE real: sanity, which every law calls.
-/
import Derived.Test.YtbfknapmhkpgcaaGreatDoorSanN

namespace Go.Proofs.YtbfknapmhkpgcaaGreatDoor
open Go.RowKit
set_option linter.unusedVariables false

set_option maxRecDepth 100000 in
set_option maxHeartbeats 1600000 in
theorem two_any (n : Int) (w : World) (h1 : -1000 ≤ n) (h2 : n ≤ 1000) :
    Calls Tryz.prog 36 #[.int .i64 n] w fun r w' => r = .returned (realV 8388608 (n - 23)) ∧ Below w.heap.size w w' := by
  have hw : wrap64 (n - 23) = n - 23 := wrap_in _ (by omega) (by omega)
  go_enter Tryz.func36, Tryz.ntmps36
  go_wp2_with fail
  refine bodyPost_ret (v := realV 8388608 (n - 23)) (by simp [results, Tryz.results36, go_sem]) rfl ⟨rfl, by repeat (first | with_reducible exact HBB.out | with_reducible exact Below.refl _ _ | with_reducible refine Below.drew ?_ | with_reducible refine belowN ?_ _ | with_reducible refine Below.setCell ?_ (by first | omega | (simp; done) | (simp; omega)) _ | with_reducible refine Below.alloc ?_ (by first | omega | (simp; done) | (simp; omega)) _)⟩

set_option maxRecDepth 100000 in
set_option maxHeartbeats 1600000 in
theorem is_er (a b c m e : Int) (w : World) (h : (c == 0) = false) :
    Calls Tryz.prog 8 #[realV a b, .int .i64 c, realV m e] w fun r w' => r = .returned (.bool false) ∧ Below w.heap.size w w' := by
  go_enter Tryz.func8, Tryz.ntmps8
  go_wp2_with fail
  go_ret
  exact ⟨rfl, by repeat (first | with_reducible exact HBB.out | with_reducible exact Below.refl _ _ | with_reducible refine Below.drew ?_ | with_reducible refine belowN ?_ _ | with_reducible refine Below.setCell ?_ (by first | omega | (simp; done) | (simp; omega)) _ | with_reducible refine Below.alloc ?_ (by first | omega | (simp; done) | (simp; omega)) _)⟩

set_option maxRecDepth 100000 in
set_option maxHeartbeats 1600000 in
theorem is_am (a b m e : Int) (w : World) (h : ¬ a = m) :
    Calls Tryz.prog 8 #[realV a b, .int .i64 0, realV m e] w fun r w' => r = .returned (.bool false) ∧ Below w.heap.size w w' := by
  go_enter Tryz.func8, Tryz.ntmps8
  go_wp2_with fail
  go_ret
  exact ⟨rfl, by repeat (first | with_reducible exact HBB.out | with_reducible exact Below.refl _ _ | with_reducible refine Below.drew ?_ | with_reducible refine belowN ?_ _ | with_reducible refine Below.setCell ?_ (by first | omega | (simp; done) | (simp; omega)) _ | with_reducible refine Below.alloc ?_ (by first | omega | (simp; done) | (simp; omega)) _)⟩

set_option maxRecDepth 100000 in
set_option maxHeartbeats 1600000 in
theorem is_be (a b e : Int) (w : World) (h : ¬ b = e) :
    Calls Tryz.prog 8 #[realV a b, .int .i64 0, realV a e] w fun r w' => r = .returned (.bool false) ∧ Below w.heap.size w w' := by
  go_enter Tryz.func8, Tryz.ntmps8
  go_wp2_with fail
  go_ret
  exact ⟨rfl, by repeat (first | with_reducible exact HBB.out | with_reducible exact Below.refl _ _ | with_reducible refine Below.drew ?_ | with_reducible refine belowN ?_ _ | with_reducible refine Below.setCell ?_ (by first | omega | (simp; done) | (simp; omega)) _ | with_reducible refine Below.alloc ?_ (by first | omega | (simp; done) | (simp; omega)) _)⟩

set_option maxRecDepth 100000 in
set_option maxHeartbeats 1600000 in
theorem is_yes (a b : Int) (w : World) :
    Calls Tryz.prog 8 #[realV a b, .int .i64 0, realV a b] w fun r w' => r = .returned (.bool true) ∧ Below w.heap.size w w' := by
  go_enter Tryz.func8, Tryz.ntmps8
  go_wp2_with fail
  go_ret
  exact ⟨rfl, by repeat (first | with_reducible exact HBB.out | with_reducible exact Below.refl _ _ | with_reducible refine Below.drew ?_ | with_reducible refine belowN ?_ _ | with_reducible refine Below.setCell ?_ (by first | omega | (simp; done) | (simp; omega)) _ | with_reducible refine Below.alloc ?_ (by first | omega | (simp; done) | (simp; omega)) _)⟩

set_option maxRecDepth 100000 in
set_option maxHeartbeats 1600000 in
theorem pow_none (n : Int) (w : World) (hn : n < 0) :
    Calls Tryz.prog 37 #[realV 0 0, .int .i64 n] w fun r w' => r = .returned (rE 0 0 5) ∧ Below w.heap.size w w' := by
  have HV : Hid (vr 0 0 = true) := Lib.hid (by decide)
  go_enter Tryz.func37, Tryz.ntmps37
  go_wp2_with fail
  refine (valid_is HV.out _ (by decide) (by decide)).mono ?_
  rintro r w1 ⟨rfl, hb1⟩
  have f2_0 : w1.frozen? ⟨w.heap.size + 1 + 1, 0, none⟩ = false := carryF hb1 (v := .int .i64 0) (by first | with_reducible assumption | go_simp) (by first | with_reducible assumption | go_simp)
  have f2_1 : w1.frozen? ⟨w.heap.size + 1 + 1, 1, none⟩ = false := carryF hb1 (v := .int .i64 0) (by first | with_reducible assumption | go_simp) (by first | with_reducible assumption | go_simp)
  have c0_0 : w1.cell? ⟨w.heap.size, 0, none⟩ = some (.int .i64 0) := carry hb1 (by first | with_reducible assumption | go_simp)
  have c0_1 : w1.cell? ⟨w.heap.size, 1, none⟩ = some (.int .i64 0) := carry hb1 (by first | with_reducible assumption | go_simp)
  have z0 : w.heap.size < w1.heap.size := by have := hb1.size; first | omega | (simp at this; omega)
  have c1_0 : w1.cell? ⟨w.heap.size + 1, 0, none⟩ = some (.int .i64 n) := carry hb1 (by first | with_reducible assumption | go_simp)
  have z1 : w.heap.size + 1 < w1.heap.size := by have := hb1.size; first | omega | (simp at this; omega)
  have c2_0 : w1.cell? ⟨w.heap.size + 1 + 1, 0, none⟩ = some (.int .i64 0) := carry hb1 (by first | with_reducible assumption | go_simp)
  have c2_1 : w1.cell? ⟨w.heap.size + 1 + 1, 1, none⟩ = some (.int .i64 0) := carry hb1 (by first | with_reducible assumption | go_simp)
  have z2 : w.heap.size + 1 + 1 < w1.heap.size := by have := hb1.size; first | omega | (simp at this; omega)
  have HBB := Lib.hid ((by repeat (first | with_reducible exact Below.refl _ _ | with_reducible refine Below.setCell ?_ (by first | omega | (simp; done) | (simp; omega)) _ | with_reducible refine Below.drew ?_ | with_reducible refine belowN ?_ _ | with_reducible refine Below.alloc ?_ (by first | omega | (simp; done) | (simp; omega)) _) : Below w.heap.size w _).trans (hb1.mono (by first | omega | (simp; done) | (simp; omega))))
  clear hb1
  go_wp2_with fail
  refine (zero_yes _).mono ?_
  rintro r w2 ⟨rfl, hb2⟩
  have f2_0 : w2.frozen? ⟨w.heap.size + 1 + 1, 0, none⟩ = false := carryF hb2 (v := .int .i64 0) (by first | with_reducible assumption | go_simp) (by first | with_reducible assumption | go_simp)
  have f2_1 : w2.frozen? ⟨w.heap.size + 1 + 1, 1, none⟩ = false := carryF hb2 (v := .int .i64 0) (by first | with_reducible assumption | go_simp) (by first | with_reducible assumption | go_simp)
  have c2_0 : w2.cell? ⟨w.heap.size + 1 + 1, 0, none⟩ = some (.int .i64 0) := carry hb2 (by first | with_reducible assumption | go_simp)
  have c2_1 : w2.cell? ⟨w.heap.size + 1 + 1, 1, none⟩ = some (.int .i64 0) := carry hb2 (by first | with_reducible assumption | go_simp)
  have z2 : w.heap.size + 1 + 1 < w2.heap.size := by have := hb2.size; first | omega | (simp at this; omega)
  have HBB := Lib.hid ((by repeat (first | with_reducible exact HBB.out | with_reducible refine Below.setCell ?_ (by first | omega | (simp; done) | (simp; omega)) _ | with_reducible refine Below.drew ?_ | with_reducible refine belowN ?_ _ | with_reducible refine Below.alloc ?_ (by first | omega | (simp; done) | (simp; omega)) _) : Below w.heap.size w _).trans (hb2.mono (by first | omega | (simp; done) | (simp; omega))))
  clear hb2
  go_wp2_with fail
  refine bodyPost_ret (v := rE 0 0 5) (by simp [results, Tryz.results37, go_sem, c2_0, c2_1]) rfl ⟨rfl, by repeat (first | with_reducible exact HBB.out | with_reducible exact Below.refl _ _ | with_reducible refine Below.drew ?_ | with_reducible refine belowN ?_ _ | with_reducible refine Below.setCell ?_ (by first | omega | (simp; done) | (simp; omega)) _ | with_reducible refine Below.alloc ?_ (by first | omega | (simp; done) | (simp; omega)) _)⟩

set_option maxRecDepth 100000 in
set_option maxHeartbeats 1600000 in
set_option maxHeartbeats 8000000 in
theorem san_any (w : World) (hT : P10 w) (hQ : TabQ w) (h20 : 0 < w.heap.size) (HDiv : Hid (∀ s, s ≤ 19 → DivOk (10 ^ s))) :
    Calls Tryz.prog 20 #[] w fun r w' => r = .returned (.bool true) ∧ Below w.heap.size w w' := by
  have HADD : Hid (∀ W : World, Calls Tryz.prog 33 #[realV 8388608 (-23), realV 8388608 (-47)] W fun r w' => r = .returned (rE 8388608 (-23) 0) ∧ Below W.heap.size W w') := Lib.hid (fun W => by have := add_ok 8388608 (-23) 8388608 (-47) W (Lib.hid (by decide)); rwa [s_add] at this)
  have HDIV : Hid (∀ W : World, Calls Tryz.prog 26 #[realV 8388608 (-23), realV 12582912 (-22)] W fun r w' => r = .returned (rE 11184811 (-25) 0) ∧ Below W.heap.size W w') := Lib.hid (fun W => by have := div_ok 8388608 (-23) 12582912 (-22) W (Lib.hid (by decide)) (Lib.hid (by decide)) (by decide); rwa [s_div] at this)
  have HPA : Hid (∀ W, Below w.heap.size w W → Calls Tryz.prog 48 #[.string ⟨#[48, 46, 49]⟩] W fun r w' => r = .returned (rE 13421773 (-27) 0) ∧ Below W.heap.size W w') := Lib.hid (fun W hW => by have := parse_any [48, 46, 49] W (by decide) (hT.kept hW (Nat.le_refl _)) HDiv; rwa [s_tenth] at this)
  have HPB : Hid (∀ W, Below w.heap.size w W → Calls Tryz.prog 48 #[.string ⟨#[49, 101, 54, 48]⟩] W fun r w' => r = .returned (rE 0 0 3) ∧ Below W.heap.size W w') := Lib.hid (fun W hW => by have := parse_any [49, 101, 54, 48] W (by decide) (hT.kept hW (Nat.le_refl _)) HDiv; rwa [s_1e60] at this)
  have HP3 : Hid (∀ W, Below w.heap.size w W → Calls Tryz.prog 49 #[realV 11184811 (-25)] W fun r w' => r = .returned (.tuple #[.string ⟨#[48, 46, 51, 51, 51, 51, 51, 51, 51, 52]⟩, .int .i64 0]) ∧ Below W.heap.size W w') := Lib.hid (fun W hW => by
    have hs := shG_of _ _ _ _ _ _ _ _ v3_n
    rw [it_3'.1, it_3'.2] at hs
    have := print_pos 11184811 (-25) _ 18 _ W (by decide) (by decide) rfl (of_decide_eq_true v3_z) (by decide) (by rw [v3_d, v3_k]; exact hs) (by decide) (by decide) (by decide) (by decide) (hT.kept hW (Nat.le_refl _)) (hQ.kept hW) (Nat.lt_of_lt_of_le h20 hW.size) HDiv
    rwa [show ((0 : Int) + ((8 : Nat) : Int) - ((8 : Nat) : Int)) = 0 from rfl, pr_3] at this)
  have HP7 : Hid (∀ W, Below w.heap.size w W → Calls Tryz.prog 49 #[realV 1 (-150)] W fun r w' => r = .returned (.tuple #[.string ⟨#[55, 46, 48, 101, 45, 52, 54]⟩, .int .i64 0]) ∧ Below W.heap.size W w') := Lib.hid (fun W hW => by
    have hs := shG_of _ _ _ _ _ _ _ _ vs_n
    rw [it_7'.1, it_7'.2] at hs
    have := print_pos 1 (-150) _ 1 _ W (by decide) (by decide) rfl (of_decide_eq_true vs_z) (by decide) (by rw [vs_k]; exact hs) (by decide) (by decide) (by decide) (by decide) (hT.kept hW (Nat.le_refl _)) (hQ.kept hW) (Nat.lt_of_lt_of_le h20 hW.size) HDiv
    rwa [show ((-45 : Int) + ((1 : Nat) : Int) - ((1 : Nat) : Int)) = -45 from rfl, pr_7] at this)
  have HEN : Hid (∀ W : World, Calls Tryz.prog 50 #[realV (-12582912) (-23)] W fun r w' => r = .returned (iE (-2) 0) ∧ Below W.heap.size W w') := Lib.hid (fun W => entier_ok (-12582912) (-23) W (Lib.hid (by decide)))
  have HRO : Hid (∀ W : World, Calls Tryz.prog 51 #[realV 10485760 (-22)] W fun r w' => r = .returned (iE 3 0) ∧ Below W.heap.size W w') := Lib.hid (fun W => round_ok 10485760 (-22) W (Lib.hid (by decide)))
  have HFI : Hid (∀ W : World, Calls Tryz.prog 10 #[.int .i64 16777217] W fun r w' => r = .returned (realV 8388608 1) ∧ Below W.heap.size W w') := Lib.hid (fun W => by have := fromInt_any 16777217 W (by decide) (by decide); rwa [s_int.1, s_int.2] at this)
  have HT0 : Hid (∀ W : World, Calls Tryz.prog 36 #[.int .i64 0] W fun r w' => r = .returned (realV 8388608 (-23)) ∧ Below W.heap.size W w') := Lib.hid (fun W => two_any 0 W (by decide) (by decide))
  have HT24 : Hid (∀ W : World, Calls Tryz.prog 36 #[.int .i64 (-24)] W fun r w' => r = .returned (realV 8388608 (-47)) ∧ Below W.heap.size W w') := Lib.hid (fun W => two_any (-24) W (by decide) (by decide))
  have HTP : Hid (∀ W : World, Calls Tryz.prog 36 #[.int .i64 24] W fun r w' => r = .returned (realV 8388608 1) ∧ Below W.heap.size W w') := Lib.hid (fun W => two_any 24 W (by decide) (by decide))
  have HBB := Lib.hid (Below.refl w.heap.size w)
  clear hT hQ h20
  go_enter Tryz.func20, Tryz.ntmps20
  go_wp2_with fail
  refine (HT0.out _).mono ?_
  rintro r w1 ⟨rfl, hb⟩
  have HBX := Lib.hid ((by repeat (first | with_reducible exact HBB.out | with_reducible exact Below.refl _ _ | with_reducible refine Below.drew ?_ | with_reducible refine belowN ?_ _ | with_reducible refine Below.setCell ?_ (by first | omega | (simp; done) | (simp; omega)) _ | with_reducible refine Below.alloc ?_ (by first | omega | (simp; done) | (simp; omega)) _) : Below w.heap.size w _).trans (hb.mono (by first | exact Nat.le_refl _ | (have := HBB.out.size; omega) | (have := HBB.out.size; simp <;> omega))))
  clear hb HBB
  have HBB := HBX
  clear HBX
  have hz_w1 := HBB.out.size
  go_wp2_with fail
  refine (HT24.out _).mono ?_
  rintro r w2 ⟨rfl, hb⟩
  have HBX := Lib.hid ((by repeat (first | with_reducible exact HBB.out | with_reducible exact Below.refl _ _ | with_reducible refine Below.drew ?_ | with_reducible refine belowN ?_ _ | with_reducible refine Below.setCell ?_ (by first | omega | (simp; done) | (simp; omega)) _ | with_reducible refine Below.alloc ?_ (by first | omega | (simp; done) | (simp; omega)) _) : Below w.heap.size w _).trans (hb.mono (by first | exact Nat.le_refl _ | (have := HBB.out.size; omega) | (have := HBB.out.size; simp <;> omega))))
  clear hb HBB
  have HBB := HBX
  clear HBX
  have hz_w2 := HBB.out.size
  go_wp2_with fail
  refine (HADD.out _).mono ?_
  rintro r w3 ⟨rfl, hb⟩
  have HBX := Lib.hid ((by repeat (first | with_reducible exact HBB.out | with_reducible exact Below.refl _ _ | with_reducible refine Below.drew ?_ | with_reducible refine belowN ?_ _ | with_reducible refine Below.setCell ?_ (by first | omega | (simp; done) | (simp; omega)) _ | with_reducible refine Below.alloc ?_ (by first | omega | (simp; done) | (simp; omega)) _) : Below w.heap.size w _).trans (hb.mono (by first | exact Nat.le_refl _ | (have := HBB.out.size; omega) | (have := HBB.out.size; simp <;> omega))))
  clear hb HBB
  have HBB := HBX
  clear HBX
  have hz_w3 := HBB.out.size
  go_wp2_with fail
  refine (HT0.out _).mono ?_
  rintro r w4 ⟨rfl, hb⟩
  have q1_0 : w4.cell? ⟨w3.heap.size, 0, none⟩ = some (.int .i64 8388608) := carry hb (by first | with_reducible assumption | go_simp)
  have q1_1 : w4.cell? ⟨w3.heap.size, 1, none⟩ = some (.int .i64 (-23)) := carry hb (by first | with_reducible assumption | go_simp)
  have qz1 : w3.heap.size < w4.heap.size := Nat.lt_of_lt_of_le (by first | with_reducible assumption | (simp <;> omega)) hb.size
  have c1_0 := q1_0
  have c1_1 := q1_1
  have z1 := qz1
  clear q1_0 q1_1 qz1
  have HBX := Lib.hid ((by repeat (first | with_reducible exact HBB.out | with_reducible exact Below.refl _ _ | with_reducible refine Below.drew ?_ | with_reducible refine belowN ?_ _ | with_reducible refine Below.setCell ?_ (by first | omega | (simp; done) | (simp; omega)) _ | with_reducible refine Below.alloc ?_ (by first | omega | (simp; done) | (simp; omega)) _) : Below w.heap.size w _).trans (hb.mono (by first | exact Nat.le_refl _ | (have := HBB.out.size; omega) | (have := HBB.out.size; simp <;> omega))))
  clear hb HBB
  have HBB := HBX
  clear HBX
  have hz_w4 := HBB.out.size
  go_wp2_with fail
  refine (HDIV.out _).mono ?_
  rintro r w5 ⟨rfl, hb⟩
  have q1_0 : w5.cell? ⟨w3.heap.size, 0, none⟩ = some (.int .i64 8388608) := carry hb (by first | with_reducible assumption | go_simp)
  have q1_1 : w5.cell? ⟨w3.heap.size, 1, none⟩ = some (.int .i64 (-23)) := carry hb (by first | with_reducible assumption | go_simp)
  have qz1 : w3.heap.size < w5.heap.size := Nat.lt_of_lt_of_le (by first | with_reducible assumption | (simp <;> omega)) hb.size
  clear c1_0 c1_1 z1
  have c1_0 := q1_0
  have c1_1 := q1_1
  have z1 := qz1
  clear q1_0 q1_1 qz1
  have HBX := Lib.hid ((by repeat (first | with_reducible exact HBB.out | with_reducible exact Below.refl _ _ | with_reducible refine Below.drew ?_ | with_reducible refine belowN ?_ _ | with_reducible refine Below.setCell ?_ (by first | omega | (simp; done) | (simp; omega)) _ | with_reducible refine Below.alloc ?_ (by first | omega | (simp; done) | (simp; omega)) _) : Below w.heap.size w _).trans (hb.mono (by first | exact Nat.le_refl _ | (have := HBB.out.size; omega) | (have := HBB.out.size; simp <;> omega))))
  clear hb HBB
  have HBB := HBX
  clear HBX
  have hz_w5 := HBB.out.size
  go_wp2_with fail
  refine (HPA.out _ (by repeat (first | with_reducible exact HBB.out | with_reducible exact Below.refl _ _ | with_reducible refine Below.drew ?_ | with_reducible refine belowN ?_ _ | with_reducible refine Below.setCell ?_ (by first | omega | (simp; done) | (simp; omega)) _ | with_reducible refine Below.alloc ?_ (by first | omega | (simp; done) | (simp; omega)) _))).mono ?_
  rintro r w6 ⟨rfl, hb⟩
  have q1_0 : w6.cell? ⟨w3.heap.size, 0, none⟩ = some (.int .i64 8388608) := carry hb (by first | with_reducible assumption | go_simp)
  have q1_1 : w6.cell? ⟨w3.heap.size, 1, none⟩ = some (.int .i64 (-23)) := carry hb (by first | with_reducible assumption | go_simp)
  have qz1 : w3.heap.size < w6.heap.size := Nat.lt_of_lt_of_le (by first | with_reducible assumption | (simp <;> omega)) hb.size
  have q3_0 : w6.cell? ⟨w5.heap.size, 0, none⟩ = some (.int .i64 11184811) := carry hb (by first | with_reducible assumption | go_simp)
  have q3_1 : w6.cell? ⟨w5.heap.size, 1, none⟩ = some (.int .i64 (-25)) := carry hb (by first | with_reducible assumption | go_simp)
  have qz3 : w5.heap.size < w6.heap.size := Nat.lt_of_lt_of_le (by first | with_reducible assumption | (simp <;> omega)) hb.size
  clear c1_0 c1_1 z1
  have c1_0 := q1_0
  have c1_1 := q1_1
  have z1 := qz1
  clear q1_0 q1_1 qz1
  have c3_0 := q3_0
  have c3_1 := q3_1
  have z3 := qz3
  clear q3_0 q3_1 qz3
  have HBX := Lib.hid ((by repeat (first | with_reducible exact HBB.out | with_reducible exact Below.refl _ _ | with_reducible refine Below.drew ?_ | with_reducible refine belowN ?_ _ | with_reducible refine Below.setCell ?_ (by first | omega | (simp; done) | (simp; omega)) _ | with_reducible refine Below.alloc ?_ (by first | omega | (simp; done) | (simp; omega)) _) : Below w.heap.size w _).trans (hb.mono (by first | exact Nat.le_refl _ | (have := HBB.out.size; omega) | (have := HBB.out.size; simp <;> omega))))
  clear hb HBB
  have HBB := HBX
  clear HBX
  have hz_w6 := HBB.out.size
  go_wp2_with fail
  refine (HP3.out _ (by repeat (first | with_reducible exact HBB.out | with_reducible exact Below.refl _ _ | with_reducible refine Below.drew ?_ | with_reducible refine belowN ?_ _ | with_reducible refine Below.setCell ?_ (by first | omega | (simp; done) | (simp; omega)) _ | with_reducible refine Below.alloc ?_ (by first | omega | (simp; done) | (simp; omega)) _))).mono ?_
  rintro r w7 ⟨rfl, hb⟩
  have q1_0 : w7.cell? ⟨w3.heap.size, 0, none⟩ = some (.int .i64 8388608) := carry hb (by first | with_reducible assumption | go_simp)
  have q1_1 : w7.cell? ⟨w3.heap.size, 1, none⟩ = some (.int .i64 (-23)) := carry hb (by first | with_reducible assumption | go_simp)
  have qz1 : w3.heap.size < w7.heap.size := Nat.lt_of_lt_of_le (by first | with_reducible assumption | (simp <;> omega)) hb.size
  have q3_0 : w7.cell? ⟨w5.heap.size, 0, none⟩ = some (.int .i64 11184811) := carry hb (by first | with_reducible assumption | go_simp)
  have q3_1 : w7.cell? ⟨w5.heap.size, 1, none⟩ = some (.int .i64 (-25)) := carry hb (by first | with_reducible assumption | go_simp)
  have qz3 : w5.heap.size < w7.heap.size := Nat.lt_of_lt_of_le (by first | with_reducible assumption | (simp <;> omega)) hb.size
  have q5_0 : w7.cell? ⟨w6.heap.size, 0, none⟩ = some (.int .i64 13421773) := carry hb (by first | with_reducible assumption | go_simp)
  have q5_1 : w7.cell? ⟨w6.heap.size, 1, none⟩ = some (.int .i64 (-27)) := carry hb (by first | with_reducible assumption | go_simp)
  have qz5 : w6.heap.size < w7.heap.size := Nat.lt_of_lt_of_le (by first | with_reducible assumption | (simp <;> omega)) hb.size
  clear c1_0 c1_1 z1
  clear c3_0 c3_1 z3
  have c1_0 := q1_0
  have c1_1 := q1_1
  have z1 := qz1
  clear q1_0 q1_1 qz1
  have c3_0 := q3_0
  have c3_1 := q3_1
  have z3 := qz3
  clear q3_0 q3_1 qz3
  have c5_0 := q5_0
  have c5_1 := q5_1
  have z5 := qz5
  clear q5_0 q5_1 qz5
  have HBX := Lib.hid ((by repeat (first | with_reducible exact HBB.out | with_reducible exact Below.refl _ _ | with_reducible refine Below.drew ?_ | with_reducible refine belowN ?_ _ | with_reducible refine Below.setCell ?_ (by first | omega | (simp; done) | (simp; omega)) _ | with_reducible refine Below.alloc ?_ (by first | omega | (simp; done) | (simp; omega)) _) : Below w.heap.size w _).trans (hb.mono (by first | exact Nat.le_refl _ | (have := HBB.out.size; omega) | (have := HBB.out.size; simp <;> omega))))
  clear hb HBB
  have HBB := HBX
  clear HBX
  have hz_w7 := HBB.out.size
  go_wp2_with fail
  have HB0 := HBB
  go_region_held3 (fun wx => wx.cell? ⟨w3.heap.size, 0, none⟩ = some (.int .i64 8388608) ∧ wx.cell? ⟨w3.heap.size, 1, none⟩ = some (.int .i64 (-23)) ∧ wx.cell? ⟨w5.heap.size, 0, none⟩ = some (.int .i64 11184811) ∧ wx.cell? ⟨w5.heap.size, 1, none⟩ = some (.int .i64 (-25)) ∧ wx.cell? ⟨w6.heap.size, 0, none⟩ = some (.int .i64 13421773) ∧ wx.cell? ⟨w6.heap.size, 1, none⟩ = some (.int .i64 (-27)) ∧ w3.heap.size < wx.heap.size ∧ w5.heap.size < wx.heap.size ∧ w6.heap.size < wx.heap.size ∧ Below w.heap.size w wx) (first | (go_keep; done) | ((try go_split_ands); (repeat' apply And.intro) <;> first | with_reducible assumption | (exact carry hbq (by with_reducible assumption)) | (exact carryF hbq (by with_reducible assumption) (by with_reducible assumption)) | (go_simp; done) | (simp only [World.size_alloc, World.size_drew]; omega) | (with_reducible exact HB0.out.drew) | (with_reducible exact HB0.out) | (with_reducible exact Below.drew (by with_reducible assumption)) | (exact Nat.lt_of_lt_of_le (by first | with_reducible assumption | (simp <;> omega)) hbq.size) | (simp <;> omega) | (exact Below.trans (by with_reducible assumption) (hbq.mono (by first | omega | (simp <;> omega))))))
  (first
    | (go_at_call 36; ((with_reducible refine (HT0.out _).mono ?_); rintro r wq ⟨rfl, hbq⟩))
    | (go_at_call 8; ((with_reducible refine (is_yes _ _ _).mono ?_); rintro r wq ⟨rfl, hbq⟩)))
  rename _ ∧ _ ∧ _ ∧ _ ∧ _ ∧ _ ∧ _ ∧ _ ∧ _ ∧ Below w.heap.size w _ => hS
  obtain ⟨_, _, _, _, _, _, _, _, _, xb⟩ := hS
  have HBX := Lib.hid xb
  clear xb HBB HB0 c1_0 c1_1 z1 c3_0 c3_1 z3 c5_0 c5_1 z5
  have HBB := HBX
  clear HBX
  go_wp2_with fail
  refine (HEN.out _).mono ?_
  rintro r w8 ⟨rfl, hb⟩
  have HBX := Lib.hid ((by repeat (first | with_reducible exact HBB.out | with_reducible exact Below.refl _ _ | with_reducible refine Below.drew ?_ | with_reducible refine belowN ?_ _ | with_reducible refine Below.setCell ?_ (by first | omega | (simp; done) | (simp; omega)) _ | with_reducible refine Below.alloc ?_ (by first | omega | (simp; done) | (simp; omega)) _) : Below w.heap.size w _).trans (hb.mono (by first | exact Nat.le_refl _ | (have := HBB.out.size; omega) | (have := HBB.out.size; simp <;> omega))))
  clear hb HBB
  have HBB := HBX
  clear HBX
  have hz_w8 := HBB.out.size
  go_wp2_with fail
  refine (HRO.out _).mono ?_
  rintro r w9 ⟨rfl, hb⟩
  have HBX := Lib.hid ((by repeat (first | with_reducible exact HBB.out | with_reducible exact Below.refl _ _ | with_reducible refine Below.drew ?_ | with_reducible refine belowN ?_ _ | with_reducible refine Below.setCell ?_ (by first | omega | (simp; done) | (simp; omega)) _ | with_reducible refine Below.alloc ?_ (by first | omega | (simp; done) | (simp; omega)) _) : Below w.heap.size w _).trans (hb.mono (by first | exact Nat.le_refl _ | (have := HBB.out.size; omega) | (have := HBB.out.size; simp <;> omega))))
  clear hb HBB
  have HBB := HBX
  clear HBX
  have hz_w9 := HBB.out.size
  go_wp2_with fail
  refine (HPB.out _ (by repeat (first | with_reducible exact HBB.out | with_reducible exact Below.refl _ _ | with_reducible refine Below.drew ?_ | with_reducible refine belowN ?_ _ | with_reducible refine Below.setCell ?_ (by first | omega | (simp; done) | (simp; omega)) _ | with_reducible refine Below.alloc ?_ (by first | omega | (simp; done) | (simp; omega)) _))).mono ?_
  rintro r w10 ⟨rfl, hb⟩
  have HBX := Lib.hid ((by repeat (first | with_reducible exact HBB.out | with_reducible exact Below.refl _ _ | with_reducible refine Below.drew ?_ | with_reducible refine belowN ?_ _ | with_reducible refine Below.setCell ?_ (by first | omega | (simp; done) | (simp; omega)) _ | with_reducible refine Below.alloc ?_ (by first | omega | (simp; done) | (simp; omega)) _) : Below w.heap.size w _).trans (hb.mono (by first | exact Nat.le_refl _ | (have := HBB.out.size; omega) | (have := HBB.out.size; simp <;> omega))))
  clear hb HBB
  have HBB := HBX
  clear HBX
  have hz_w10 := HBB.out.size
  go_wp2_with fail
  refine (pow_none (-1) _ (by decide)).mono ?_
  rintro r w11 ⟨rfl, hb⟩
  have HBX := Lib.hid ((by repeat (first | with_reducible exact HBB.out | with_reducible exact Below.refl _ _ | with_reducible refine Below.drew ?_ | with_reducible refine belowN ?_ _ | with_reducible refine Below.setCell ?_ (by first | omega | (simp; done) | (simp; omega)) _ | with_reducible refine Below.alloc ?_ (by first | omega | (simp; done) | (simp; omega)) _) : Below w.heap.size w _).trans (hb.mono (by first | exact Nat.le_refl _ | (have := HBB.out.size; omega) | (have := HBB.out.size; simp <;> omega))))
  clear hb HBB
  have HBB := HBX
  clear HBX
  have hz_w11 := HBB.out.size
  go_wp2_with fail
  refine (HP7.out _ (by repeat (first | with_reducible exact HBB.out | with_reducible exact Below.refl _ _ | with_reducible refine Below.drew ?_ | with_reducible refine belowN ?_ _ | with_reducible refine Below.setCell ?_ (by first | omega | (simp; done) | (simp; omega)) _ | with_reducible refine Below.alloc ?_ (by first | omega | (simp; done) | (simp; omega)) _))).mono ?_
  rintro r w12 ⟨rfl, hb⟩
  have HBX := Lib.hid ((by repeat (first | with_reducible exact HBB.out | with_reducible exact Below.refl _ _ | with_reducible refine Below.drew ?_ | with_reducible refine belowN ?_ _ | with_reducible refine Below.setCell ?_ (by first | omega | (simp; done) | (simp; omega)) _ | with_reducible refine Below.alloc ?_ (by first | omega | (simp; done) | (simp; omega)) _) : Below w.heap.size w _).trans (hb.mono (by first | exact Nat.le_refl _ | (have := HBB.out.size; omega) | (have := HBB.out.size; simp <;> omega))))
  clear hb HBB
  have HBB := HBX
  clear HBX
  have hz_w12 := HBB.out.size
  go_wp2_with fail
  refine (HFI.out _).mono ?_
  rintro r w13 ⟨rfl, hb⟩
  have HBX := Lib.hid ((by repeat (first | with_reducible exact HBB.out | with_reducible exact Below.refl _ _ | with_reducible refine Below.drew ?_ | with_reducible refine belowN ?_ _ | with_reducible refine Below.setCell ?_ (by first | omega | (simp; done) | (simp; omega)) _ | with_reducible refine Below.alloc ?_ (by first | omega | (simp; done) | (simp; omega)) _) : Below w.heap.size w _).trans (hb.mono (by first | exact Nat.le_refl _ | (have := HBB.out.size; omega) | (have := HBB.out.size; simp <;> omega))))
  clear hb HBB
  have HBB := HBX
  clear HBX
  have hz_w13 := HBB.out.size
  go_wp2_with fail
  refine (HTP.out _).mono ?_
  rintro r w14 ⟨rfl, hb⟩
  have HBX := Lib.hid ((by repeat (first | with_reducible exact HBB.out | with_reducible exact Below.refl _ _ | with_reducible refine Below.drew ?_ | with_reducible refine belowN ?_ _ | with_reducible refine Below.setCell ?_ (by first | omega | (simp; done) | (simp; omega)) _ | with_reducible refine Below.alloc ?_ (by first | omega | (simp; done) | (simp; omega)) _) : Below w.heap.size w _).trans (hb.mono (by first | exact Nat.le_refl _ | (have := HBB.out.size; omega) | (have := HBB.out.size; simp <;> omega))))
  clear hb HBB
  have HBB := HBX
  clear HBX
  have hz_w14 := HBB.out.size
  go_wp2_with fail
  go_ret
  exact ⟨rfl, HBB.out⟩

end Go.Proofs.YtbfknapmhkpgcaaGreatDoor
