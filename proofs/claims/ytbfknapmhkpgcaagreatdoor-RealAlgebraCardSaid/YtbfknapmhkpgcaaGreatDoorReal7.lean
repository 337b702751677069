/-
  PACKAGE real: Entier, Round.
-/
import Derived.Test.YtbfknapmhkpgcaaGreatDoorReal6

namespace Go.Proofs.YtbfknapmhkpgcaaGreatDoor
open Go.RowKit
set_option linter.unusedVariables false

theorem flo_bd (m e : Int) (h3 : -16777216 ≤ m) (h4 : m ≤ 16777216) : -4611686018427387904 ≤ flo m e ∧ flo m e ≤ 4611686018427387904 := by
  unfold flo
  split
  · have p := Int.pow_pos (n := 2) (m := (-e).toNat) (by decide)
    have a := @Int.le_ediv_iff_mul_le (-16777216) m (2 ^ (-e).toNat) p
    have b := @Int.ediv_lt_iff_lt_mul m 16777217 (2 ^ (-e).toNat) p
    have c := a.2 (by omega)
    have d := b.2 (by omega)
    omega
  · split
    · have := c3_bd m 0
      omega
    · exact mul_bd m _ h3 h4 (pow_le e.toNat (by omega))

def ent (m e : Int) : Int := flo m e

def rnd (m e : Int) : Int := (flo m (e + 1) + 1) / 2

def nI (n : Int) : Int := if inR n then n else 0

def eI (n : Int) : Int := if inR n then 0 else 3

abbrev oI (n : Int) : Value := iE (nI n) (eI n)

theorem ifi_a (n : Int) (w : World) :
    Calls Tryz.prog 79 #[.int .i64 n] w fun r w' => r = .returned (oI n) ∧ Below w.heap.size w w' := ifi_any n w

set_option maxRecDepth 100000 in
set_option maxHeartbeats 1600000 in
theorem entier_bad (m e : Int) (w : World) (HV : Hid (vr m e = false)) (h1 : -9223372036854775808 ≤ m) (h2 : m ≤ 9223372036854775807) :
    Calls Tryz.prog 50 #[realV m e] w fun r w' => r = .returned (iE 0 1) ∧ Below w.heap.size w w' := by
  go_enter Tryz.func50, Tryz.ntmps50
  go_wp2_with fail
  refine (valid_is HV.out _ h1 h2).mono ?_
  rintro r w1 ⟨rfl, hb1⟩
  have c00 : w1.cell? ⟨w.heap.size, 0, none⟩ = some (.int .i64 m) := carry hb1 (by first | assumption | go_simp)
  have c01 : w1.cell? ⟨w.heap.size, 1, none⟩ = some (.int .i64 e) := carry hb1 (by first | assumption | go_simp)
  have z0 : w.heap.size < w1.heap.size := by have := hb1.size; first | omega | (simp at this; omega)
  have HBB := Lib.hid ((by repeat (first | exact Below.refl _ _ | refine Below.setCell ?_ (by first | omega | (simp; done) | (simp; omega)) _ | refine Below.alloc ?_ (by first | omega | (simp; done) | (simp; omega)) _) : Below w.heap.size w _).trans (hb1.mono (by first | omega | (simp; done) | (simp; omega))))
  clear hb1
  go_wp2_with fail
  go_ret2
  exact ⟨rfl, HBB.out⟩

set_option maxRecDepth 100000 in
set_option maxHeartbeats 1600000 in
theorem entier_ok (m e : Int) (w : World) (HV : Hid (vr m e = true))  :
    Calls Tryz.prog 50 #[realV m e] w fun r w' => r = .returned (oI (ent m e)) ∧ Below w.heap.size w w' := by
  obtain ⟨v1, v2, v3, v4⟩ := vr_bd HV.out
  go_enter Tryz.func50, Tryz.ntmps50
  go_wp2_with fail
  refine (valid_is HV.out _ (by omega) (by omega)).mono ?_
  rintro r w1 ⟨rfl, hb1⟩
  have c00 : w1.cell? ⟨w.heap.size, 0, none⟩ = some (.int .i64 m) := carry hb1 (by first | assumption | go_simp)
  have c01 : w1.cell? ⟨w.heap.size, 1, none⟩ = some (.int .i64 e) := carry hb1 (by first | assumption | go_simp)
  have z0 : w.heap.size < w1.heap.size := by have := hb1.size; first | omega | (simp at this; omega)
  have HBB := Lib.hid ((by repeat (first | exact Below.refl _ _ | refine Below.setCell ?_ (by first | omega | (simp; done) | (simp; omega)) _ | refine Below.alloc ?_ (by first | omega | (simp; done) | (simp; omega)) _) : Below w.heap.size w _).trans (hb1.mono (by first | omega | (simp; done) | (simp; omega))))
  clear hb1
  go_wp2_with fail
  refine (floor_any m e _ (by omega) (by omega) (by omega)).mono ?_
  rintro r w2 ⟨rfl, hb2⟩
  have c00 : w2.cell? ⟨w.heap.size, 0, none⟩ = some (.int .i64 m) := carry hb2 (by first | assumption | go_simp)
  have c01 : w2.cell? ⟨w.heap.size, 1, none⟩ = some (.int .i64 e) := carry hb2 (by first | assumption | go_simp)
  have z0 : w.heap.size < w2.heap.size := by have := hb2.size; first | omega | (simp at this; omega)
  have HBB := Lib.hid ((by repeat (first | exact HBB.out | refine Below.setCell ?_ (by first | omega | (simp; done) | (simp; omega)) _ | refine Below.alloc ?_ (by first | omega | (simp; done) | (simp; omega)) _) : Below w.heap.size w _).trans (hb2.mono (by first | omega | (simp; done) | (simp; omega))))
  clear hb2
  have FB := flo_bd m e (by omega) (by omega)
  go_wp2_with fail
  refine (ifi_a _ _).mono ?_
  rintro r w3 ⟨rfl, hb3⟩
  have c00 : w3.cell? ⟨w.heap.size, 0, none⟩ = some (.int .i64 m) := carry hb3 (by first | assumption | go_simp)
  have c01 : w3.cell? ⟨w.heap.size, 1, none⟩ = some (.int .i64 e) := carry hb3 (by first | assumption | go_simp)
  have z0 : w.heap.size < w3.heap.size := by have := hb3.size; first | omega | (simp at this; omega)
  have HBB := Lib.hid ((by repeat (first | exact HBB.out | refine Below.setCell ?_ (by first | omega | (simp; done) | (simp; omega)) _ | refine Below.alloc ?_ (by first | omega | (simp; done) | (simp; omega)) _) : Below w.heap.size w _).trans (hb3.mono (by first | omega | (simp; done) | (simp; omega))))
  clear hb3
  go_wp2_with fail
  go_ret2
  exact ⟨rfl, HBB.out⟩

set_option maxRecDepth 100000 in
set_option maxHeartbeats 1600000 in
theorem round_bad (m e : Int) (w : World) (HV : Hid (vr m e = false)) (h1 : -9223372036854775808 ≤ m) (h2 : m ≤ 9223372036854775807) :
    Calls Tryz.prog 51 #[realV m e] w fun r w' => r = .returned (iE 0 1) ∧ Below w.heap.size w w' := by
  go_enter Tryz.func51, Tryz.ntmps51
  go_wp2_with fail
  refine (valid_is HV.out _ h1 h2).mono ?_
  rintro r w1 ⟨rfl, hb1⟩
  have c00 : w1.cell? ⟨w.heap.size, 0, none⟩ = some (.int .i64 m) := carry hb1 (by first | assumption | go_simp)
  have c01 : w1.cell? ⟨w.heap.size, 1, none⟩ = some (.int .i64 e) := carry hb1 (by first | assumption | go_simp)
  have z0 : w.heap.size < w1.heap.size := by have := hb1.size; first | omega | (simp at this; omega)
  have HBB := Lib.hid ((by repeat (first | exact Below.refl _ _ | refine Below.setCell ?_ (by first | omega | (simp; done) | (simp; omega)) _ | refine Below.alloc ?_ (by first | omega | (simp; done) | (simp; omega)) _) : Below w.heap.size w _).trans (hb1.mono (by first | omega | (simp; done) | (simp; omega))))
  clear hb1
  go_wp2_with fail
  go_ret2
  exact ⟨rfl, HBB.out⟩

set_option maxRecDepth 100000 in
set_option maxHeartbeats 1600000 in
theorem round_ok (m e : Int) (w : World) (HV : Hid (vr m e = true))  :
    Calls Tryz.prog 51 #[realV m e] w fun r w' => r = .returned (oI (rnd m e)) ∧ Below w.heap.size w w' := by
  obtain ⟨v1, v2, v3, v4⟩ := vr_bd HV.out
  go_enter Tryz.func51, Tryz.ntmps51
  go_wp2_with fail
  refine (valid_is HV.out _ (by omega) (by omega)).mono ?_
  rintro r w1 ⟨rfl, hb1⟩
  have c00 : w1.cell? ⟨w.heap.size, 0, none⟩ = some (.int .i64 m) := carry hb1 (by first | assumption | go_simp)
  have c01 : w1.cell? ⟨w.heap.size, 1, none⟩ = some (.int .i64 e) := carry hb1 (by first | assumption | go_simp)
  have z0 : w.heap.size < w1.heap.size := by have := hb1.size; first | omega | (simp at this; omega)
  have HBB := Lib.hid ((by repeat (first | exact Below.refl _ _ | refine Below.setCell ?_ (by first | omega | (simp; done) | (simp; omega)) _ | refine Below.alloc ?_ (by first | omega | (simp; done) | (simp; omega)) _) : Below w.heap.size w _).trans (hb1.mono (by first | omega | (simp; done) | (simp; omega))))
  clear hb1
  go_wp2_with fail
  refine (floor_any m (e + 1) _ (by omega) (by omega) (by omega)).mono ?_
  rintro r w2 ⟨rfl, hb2⟩
  have c00 : w2.cell? ⟨w.heap.size, 0, none⟩ = some (.int .i64 m) := carry hb2 (by first | assumption | go_simp)
  have c01 : w2.cell? ⟨w.heap.size, 1, none⟩ = some (.int .i64 e) := carry hb2 (by first | assumption | go_simp)
  have z0 : w.heap.size < w2.heap.size := by have := hb2.size; first | omega | (simp at this; omega)
  have HBB := Lib.hid ((by repeat (first | exact HBB.out | refine Below.setCell ?_ (by first | omega | (simp; done) | (simp; omega)) _ | refine Below.alloc ?_ (by first | omega | (simp; done) | (simp; omega)) _) : Below w.heap.size w _).trans (hb2.mono (by first | omega | (simp; done) | (simp; omega))))
  clear hb2
  have FB := flo_bd m (e + 1) (by omega) (by omega)
  go_wp2_with fail
  
  refine (ifi_a _ _).mono ?_
  rintro r w3 ⟨rfl, hb3⟩
  have c00 : w3.cell? ⟨w.heap.size, 0, none⟩ = some (.int .i64 m) := carry hb3 (by first | assumption | go_simp)
  have c01 : w3.cell? ⟨w.heap.size, 1, none⟩ = some (.int .i64 e) := carry hb3 (by first | assumption | go_simp)
  have z0 : w.heap.size < w3.heap.size := by have := hb3.size; first | omega | (simp at this; omega)
  have HBB := Lib.hid ((by repeat (first | exact HBB.out | refine Below.setCell ?_ (by first | omega | (simp; done) | (simp; omega)) _ | refine Below.alloc ?_ (by first | omega | (simp; done) | (simp; omega)) _) : Below w.heap.size w _).trans (hb3.mono (by first | omega | (simp; done) | (simp; omega))))
  clear hb3
  go_wp2_with fail
  go_ret2
  exact ⟨rfl, HBB.out⟩

end Go.Proofs.YtbfknapmhkpgcaaGreatDoor
