/-
  IntegerTight: the walk.
-/
import Derived.Test.YtnhieokegidibaaTightC
import Derived.Test.YtnhieokegidibaaQuo
import Derived.Test.YtnhieokegidibaaWide
import Derived.Lib.SmallJoins
import Derived.Outline

namespace Go.Proofs.Ytnhieokegidibaa.integerTight
open Go.RowKit
set_option linter.unusedVariables false

def OSt (l0 u0 l1 u1 : Int) (w wr : World) : Prop :=
  wr.cell? ⟨w.heap.size, 0, none⟩ = some (.int .i64 l0) ∧ wr.cell? ⟨w.heap.size, 1, none⟩ = some (.int .i64 u0) ∧ wr.cell? ⟨w.heap.size + 1, 0, none⟩ = some (.int .i64 l1) ∧ wr.cell? ⟨w.heap.size + 1, 1, none⟩ = some (.int .i64 u1) ∧ w.heap.size < wr.heap.size ∧ w.heap.size + 1 < wr.heap.size ∧ Below w.heap.size w wr
def ISt (B : Nat) (l0 u0 l1 u1 L Hh K O : Int) (w wi : World) : Prop :=
  wi.cell? ⟨w.heap.size, 0, none⟩ = some (.int .i64 l0) ∧ wi.cell? ⟨w.heap.size, 1, none⟩ = some (.int .i64 u0) ∧ wi.cell? ⟨w.heap.size + 1, 0, none⟩ = some (.int .i64 l1) ∧ wi.cell? ⟨w.heap.size + 1, 1, none⟩ = some (.int .i64 u1) ∧ wi.cell? ⟨B, 0, none⟩ = some (.int .i64 L) ∧ wi.cell? ⟨B, 1, none⟩ = some (.int .i64 Hh) ∧ wi.cell? ⟨B, 2, none⟩ = some (.int .i64 K) ∧ wi.cell? ⟨B, 3, none⟩ = some (.int .i64 O) ∧ wi.frozen? ⟨B, 0, none⟩ = false ∧ wi.frozen? ⟨B, 1, none⟩ = false ∧ wi.frozen? ⟨B, 2, none⟩ = false ∧ wi.frozen? ⟨B, 3, none⟩ = false ∧ wi.cell? ⟨B + 1, 0, none⟩ = some (.int .i64 l0) ∧ wi.cell? ⟨B + 1, 1, none⟩ = some (.int .i64 l0) ∧ wi.cell? ⟨B + 1, 2, none⟩ = some (.int .i64 u0) ∧ wi.cell? ⟨B + 1, 3, none⟩ = some (.int .i64 u0) ∧ wi.cell? ⟨B + 1 + 1, 0, none⟩ = some (.int .i64 l1) ∧ wi.cell? ⟨B + 1 + 1, 1, none⟩ = some (.int .i64 u1) ∧ wi.cell? ⟨B + 1 + 1, 2, none⟩ = some (.int .i64 l1) ∧ wi.cell? ⟨B + 1 + 1, 3, none⟩ = some (.int .i64 u1) ∧ w.heap.size < wi.heap.size ∧ w.heap.size + 1 < wi.heap.size ∧ B < wi.heap.size ∧ B + 1 < wi.heap.size ∧ B + 1 + 1 < wi.heap.size ∧ Below w.heap.size w wi
abbrev IStv (B : Nat) (l0 u0 l1 u1 : Int) (v : Bool → Bool → Int) (w : World) (j : Nat) (wi : World) : Prop := ISt B l0 u0 l1 u1 (fLo v j) (fHi v j) (fOk v j) (fOut v j) w wi
theorem far_ {w : World} {b b' o o' : Nat} {v u : Value} (h : b' ≠ b) (e : w.cell? ⟨b, o, none⟩ = some u) : (w.setCell ⟨b', o', none⟩ v).cell? ⟨b, o, none⟩ = some u := (World.cell?_setCell_other w _ _ v (fun k => h (congrArg Addr.block k))).trans e
theorem off_ {w : World} {b o o' : Nat} {v u : Value} (h : o' ≠ o) (e : w.cell? ⟨b, o, none⟩ = some u) : (w.setCell ⟨b, o', none⟩ v).cell? ⟨b, o, none⟩ = some u := (World.cell?_setCell_other w _ _ v (fun k => h (congrArg Addr.off k))).trans e
theorem frz_ {w : World} {p a : Addr} {v : Value} (e : w.frozen? a = false) : (w.setCell p v).frozen? a = false := by rw [World.frozen?_setCell]; exact e
theorem siz_ {w : World} {p : Addr} {v : Value} {b : Nat} (e : b < w.heap.size) : b < (w.setCell p v).heap.size := by simpa using e

theorem set0_ {B : Nat} {l0 u0 l1 u1 L Hh K O : Int} {w w' : World} (x : Int) (h : ISt B l0 u0 l1 u1 L Hh K O w w') (hN : w.heap.size + 1 < B) : ISt B l0 u0 l1 u1 x Hh K O w (w'.setCell ⟨B, 0, none⟩ (.int .i64 x)) := by
  obtain ⟨a0, a1, b0, b1, F0, F1, F2, F3, Z0, Z1, Z2, Z3, x0, x1, x2, x3, y0, y1, y2, y3, z0, z1, z2, z3, z4, hBq⟩ := h
  exact ⟨far_ (by omega) a0, far_ (by omega) a1, far_ (by omega) b0, far_ (by omega) b1, World.cell?_setCell_same w' _ _ F0, off_ (by decide) F1, off_ (by decide) F2, off_ (by decide) F3, frz_ Z0, frz_ Z1, frz_ Z2, frz_ Z3, far_ (by omega) x0, far_ (by omega) x1, far_ (by omega) x2, far_ (by omega) x3, far_ (by omega) y0, far_ (by omega) y1, far_ (by omega) y2, far_ (by omega) y3, siz_ z0, siz_ z1, siz_ z2, siz_ z3, siz_ z4, hBq.setCell (by show w.heap.size ≤ B; omega) _⟩

theorem set1_ {B : Nat} {l0 u0 l1 u1 L Hh K O : Int} {w w' : World} (x : Int) (h : ISt B l0 u0 l1 u1 L Hh K O w w') (hN : w.heap.size + 1 < B) : ISt B l0 u0 l1 u1 L x K O w (w'.setCell ⟨B, 1, none⟩ (.int .i64 x)) := by
  obtain ⟨a0, a1, b0, b1, F0, F1, F2, F3, Z0, Z1, Z2, Z3, x0, x1, x2, x3, y0, y1, y2, y3, z0, z1, z2, z3, z4, hBq⟩ := h
  exact ⟨far_ (by omega) a0, far_ (by omega) a1, far_ (by omega) b0, far_ (by omega) b1, off_ (by decide) F0, World.cell?_setCell_same w' _ _ F1, off_ (by decide) F2, off_ (by decide) F3, frz_ Z0, frz_ Z1, frz_ Z2, frz_ Z3, far_ (by omega) x0, far_ (by omega) x1, far_ (by omega) x2, far_ (by omega) x3, far_ (by omega) y0, far_ (by omega) y1, far_ (by omega) y2, far_ (by omega) y3, siz_ z0, siz_ z1, siz_ z2, siz_ z3, siz_ z4, hBq.setCell (by show w.heap.size ≤ B; omega) _⟩

theorem set2_ {B : Nat} {l0 u0 l1 u1 L Hh K O : Int} {w w' : World} (x : Int) (h : ISt B l0 u0 l1 u1 L Hh K O w w') (hN : w.heap.size + 1 < B) : ISt B l0 u0 l1 u1 L Hh x O w (w'.setCell ⟨B, 2, none⟩ (.int .i64 x)) := by
  obtain ⟨a0, a1, b0, b1, F0, F1, F2, F3, Z0, Z1, Z2, Z3, x0, x1, x2, x3, y0, y1, y2, y3, z0, z1, z2, z3, z4, hBq⟩ := h
  exact ⟨far_ (by omega) a0, far_ (by omega) a1, far_ (by omega) b0, far_ (by omega) b1, off_ (by decide) F0, off_ (by decide) F1, World.cell?_setCell_same w' _ _ F2, off_ (by decide) F3, frz_ Z0, frz_ Z1, frz_ Z2, frz_ Z3, far_ (by omega) x0, far_ (by omega) x1, far_ (by omega) x2, far_ (by omega) x3, far_ (by omega) y0, far_ (by omega) y1, far_ (by omega) y2, far_ (by omega) y3, siz_ z0, siz_ z1, siz_ z2, siz_ z3, siz_ z4, hBq.setCell (by show w.heap.size ≤ B; omega) _⟩

theorem set3_ {B : Nat} {l0 u0 l1 u1 L Hh K O : Int} {w w' : World} (x : Int) (h : ISt B l0 u0 l1 u1 L Hh K O w w') (hN : w.heap.size + 1 < B) : ISt B l0 u0 l1 u1 L Hh K x w (w'.setCell ⟨B, 3, none⟩ (.int .i64 x)) := by
  obtain ⟨a0, a1, b0, b1, F0, F1, F2, F3, Z0, Z1, Z2, Z3, x0, x1, x2, x3, y0, y1, y2, y3, z0, z1, z2, z3, z4, hBq⟩ := h
  exact ⟨far_ (by omega) a0, far_ (by omega) a1, far_ (by omega) b0, far_ (by omega) b1, off_ (by decide) F0, off_ (by decide) F1, off_ (by decide) F2, World.cell?_setCell_same w' _ _ F3, frz_ Z0, frz_ Z1, frz_ Z2, frz_ Z3, far_ (by omega) x0, far_ (by omega) x1, far_ (by omega) x2, far_ (by omega) x3, far_ (by omega) y0, far_ (by omega) y1, far_ (by omega) y2, far_ (by omega) y3, siz_ z0, siz_ z1, siz_ z2, siz_ z3, siz_ z4, hBq.setCell (by show w.heap.size ≤ B; omega) _⟩

theorem drew_ {B : Nat} {l0 u0 l1 u1 L Hh K O : Int} {w w' : World} (h : ISt B l0 u0 l1 u1 L Hh K O w w') (n : Nat) : ISt B l0 u0 l1 u1 L Hh K O w (w'.drewN n) := by
  obtain ⟨a0, a1, b0, b1, F0, F1, F2, F3, Z0, Z1, Z2, Z3, x0, x1, x2, x3, y0, y1, y2, y3, z0, z1, z2, z3, z4, hBq⟩ := h
  exact ⟨a0, a1, b0, b1, F0, F1, F2, F3, Z0, Z1, Z2, Z3, x0, x1, x2, x3, y0, y1, y2, y3, z0, z1, z2, z3, z4, hBq.trans (Go.Joins.below_draws _ _ n)⟩
theorem st_out {B : Nat} {l0 u0 l1 u1 L Hh K O : Int} {w wi : World} (h : ISt B l0 u0 l1 u1 L Hh K O w wi) (hN : w.heap.size + 1 < B) : ISt B l0 u0 l1 u1 L Hh K (O + 1) w (wi.setCell ⟨B, 3, none⟩ (.int .i64 (O + 1))) := set3_ _ h hN
theorem st_more {B : Nat} {l0 u0 l1 u1 L Hh K O : Int} {w wi : World} (z : Int) (h : ISt B l0 u0 l1 u1 L Hh K O w wi) (hN : w.heap.size + 1 < B) : ISt B l0 u0 l1 u1 (mn L z) (mx Hh z) (K + 1) O w (((wi.setCell ⟨B, 2, none⟩ (.int .i64 (K + 1))).setCell ⟨B, 0, none⟩ (.int .i64 (mn L z))).setCell ⟨B, 1, none⟩ (.int .i64 (mx Hh z))) := set1_ _ (set0_ _ (set2_ _ h hN) hN) hN
theorem st_first {B : Nat} {l0 u0 l1 u1 L Hh K O : Int} {w wi : World} (z : Int) (h : ISt B l0 u0 l1 u1 L Hh K O w wi) (hN : w.heap.size + 1 < B) : ISt B l0 u0 l1 u1 (mn z z) (mx z z) 1 O w (((((wi.setCell ⟨B, 0, none⟩ (.int .i64 z)).setCell ⟨B, 1, none⟩ (.int .i64 z)).setCell ⟨B, 2, none⟩ (.int .i64 1)).setCell ⟨B, 0, none⟩ (.int .i64 (mn z z))).setCell ⟨B, 1, none⟩ (.int .i64 (mx z z))) := set1_ _ (set0_ _ (set2_ _ (set1_ _ (set0_ _ h hN) hN) hN) hN) hN
theorem apply_q {op x y n e : Int} (w : World) (h0 : 0 ≤ op) (h2 : op ≤ 2) (hb : bth x y = true) (h : exV (gOp op x y) = n ∧ exE (gOp op x y) = e) :
    Calls Try.prog 20 #[.int .i64 op, .int .i64 x, .int .i64 y] w fun e' w' => e' = .returned (pairI n e) ∧ w' = w := by
  obtain ⟨rfl, rfl⟩ := h
  exact (apply_any op x y w h0 h2 hb).mono fun _ _ k => ⟨k.1, k.2.symm⟩
theorem spread_is {op la ua lb ub L H E : Int} {M : Bool} (h : opL la ua lb ub (gF op la ua lb ub) = L ∧ opH la ua lb ub (gF op la ua lb ub) = H ∧ opM la ua lb ub (gF op la ua lb ub) = M ∧ opE la ua lb ub (gF op la ua lb ub) = E) (w : World) (h0 : 0 ≤ op) (h2 : op ≤ 2) :
    Calls Try.prog 22 #[.int .i64 op, spanV la ua, spanV lb ub] w fun e' w' => e' = .returned (opV L H M E) ∧ Below w.heap.size w w' := by
  obtain ⟨rfl, rfl, rfl, rfl⟩ := h
  exact spread_any op la ua lb ub w h0 h2

set_option maxRecDepth 100000 in
set_option maxHeartbeats 12000000 in
theorem bad1 (l0 u0 l1 u1 : Int) (w : World) (HA : Hid (vsp l0 u0 = false)) :
    Calls Try.prog 4 #[spanV l0 u0, spanV l1 u1] w fun e w' => e = .returned (.bool true) ∧ Below w.heap.size w w' := by
  go_enter Try.func4, Try.ntmps4
  go_wp2_with fail
  refine (wide_any _).mono ?_
  rintro e w1 ⟨rfl, hb1⟩
  have a0_1 : w1.cell? ⟨w.heap.size, 0, none⟩ = some (.int .i64 l0) := carry hb1 (by go_simp)
  have a1_1 : w1.cell? ⟨w.heap.size, 1, none⟩ = some (.int .i64 u0) := carry hb1 (by go_simp)
  have az_1 : w.heap.size < w1.heap.size := by have := hb1.size; first | omega | (simp at this; omega)
  have b0_1 : w1.cell? ⟨w.heap.size + 1, 0, none⟩ = some (.int .i64 l1) := carry hb1 (by go_simp)
  have b1_1 : w1.cell? ⟨w.heap.size + 1, 1, none⟩ = some (.int .i64 u1) := carry hb1 (by go_simp)
  have bz_1 : w.heap.size + 1 < w1.heap.size := by have := hb1.size; first | omega | (simp at this; omega)
  have HB_1 := Lib.hid ((by repeat (first | exact Below.refl _ _ | refine Below.drew ?_ | refine Below.setCell ?_ (by first | omega | (simp; done) | (simp; omega)) _ | refine Below.alloc ?_ (by first | omega | (simp; done) | (simp; omega)) _) : Below w.heap.size w _).trans (hb1.mono (by first | omega | (simp; done) | (simp; omega))))
  have nz_1 : w.heap.size ≤ w1.heap.size := HB_1.out.size
  clear hb1
  go_wp2_with fail
  refine (vspan_is HA.out _).mono ?_
  rintro e w2 ⟨rfl, hb2⟩
  have a0_2 : w2.cell? ⟨w.heap.size, 0, none⟩ = some (.int .i64 l0) := carry hb2 (by go_simp)
  have a1_2 : w2.cell? ⟨w.heap.size, 1, none⟩ = some (.int .i64 u0) := carry hb2 (by go_simp)
  have az_2 : w.heap.size < w2.heap.size := by have := hb2.size; first | omega | (simp at this; omega)
  have b0_2 : w2.cell? ⟨w.heap.size + 1, 0, none⟩ = some (.int .i64 l1) := carry hb2 (by go_simp)
  have b1_2 : w2.cell? ⟨w.heap.size + 1, 1, none⟩ = some (.int .i64 u1) := carry hb2 (by go_simp)
  have bz_2 : w.heap.size + 1 < w2.heap.size := by have := hb2.size; first | omega | (simp at this; omega)
  have HB_2 := Lib.hid ((by repeat (first | exact HB_1.out | refine Below.drew ?_ | refine Below.setCell ?_ (by first | omega | (simp; done) | (simp; omega)) _ | refine Below.alloc ?_ (by first | omega | (simp; done) | (simp; omega)) _) : Below w.heap.size w _).trans (hb2.mono (by first | omega | (simp; done) | (simp; omega))))
  have nz_2 : w.heap.size ≤ w2.heap.size := HB_2.out.size
  clear hb2 a0_1 a1_1 b0_1 b1_1 HB_1
  go_wp2_with fail
  go_ret
  exact ⟨rfl, by repeat (first | exact HB_2.out | refine Below.drew ?_ | refine Below.setCell ?_ (by first | omega | (simp; done) | (simp; omega)) _ | refine Below.alloc ?_ (by first | omega | (simp; done) | (simp; omega)) _)⟩

set_option maxRecDepth 100000 in
set_option maxHeartbeats 12000000 in
theorem bad2 (l0 u0 l1 u1 : Int) (w : World) (HA : Hid (vsp l0 u0 = true)) (HB : Hid (vsp l1 u1 = false)) :
    Calls Try.prog 4 #[spanV l0 u0, spanV l1 u1] w fun e w' => e = .returned (.bool true) ∧ Below w.heap.size w w' := by
  go_enter Try.func4, Try.ntmps4
  go_wp2_with fail
  refine (wide_any _).mono ?_
  rintro e w1 ⟨rfl, hb1⟩
  have a0_1 : w1.cell? ⟨w.heap.size, 0, none⟩ = some (.int .i64 l0) := carry hb1 (by go_simp)
  have a1_1 : w1.cell? ⟨w.heap.size, 1, none⟩ = some (.int .i64 u0) := carry hb1 (by go_simp)
  have az_1 : w.heap.size < w1.heap.size := by have := hb1.size; first | omega | (simp at this; omega)
  have b0_1 : w1.cell? ⟨w.heap.size + 1, 0, none⟩ = some (.int .i64 l1) := carry hb1 (by go_simp)
  have b1_1 : w1.cell? ⟨w.heap.size + 1, 1, none⟩ = some (.int .i64 u1) := carry hb1 (by go_simp)
  have bz_1 : w.heap.size + 1 < w1.heap.size := by have := hb1.size; first | omega | (simp at this; omega)
  have HB_1 := Lib.hid ((by repeat (first | exact Below.refl _ _ | refine Below.drew ?_ | refine Below.setCell ?_ (by first | omega | (simp; done) | (simp; omega)) _ | refine Below.alloc ?_ (by first | omega | (simp; done) | (simp; omega)) _) : Below w.heap.size w _).trans (hb1.mono (by first | omega | (simp; done) | (simp; omega))))
  have nz_1 : w.heap.size ≤ w1.heap.size := HB_1.out.size
  clear hb1
  go_wp2_with fail
  refine (vspan_is HA.out _).mono ?_
  rintro e w2 ⟨rfl, hb2⟩
  have a0_2 : w2.cell? ⟨w.heap.size, 0, none⟩ = some (.int .i64 l0) := carry hb2 (by go_simp)
  have a1_2 : w2.cell? ⟨w.heap.size, 1, none⟩ = some (.int .i64 u0) := carry hb2 (by go_simp)
  have az_2 : w.heap.size < w2.heap.size := by have := hb2.size; first | omega | (simp at this; omega)
  have b0_2 : w2.cell? ⟨w.heap.size + 1, 0, none⟩ = some (.int .i64 l1) := carry hb2 (by go_simp)
  have b1_2 : w2.cell? ⟨w.heap.size + 1, 1, none⟩ = some (.int .i64 u1) := carry hb2 (by go_simp)
  have bz_2 : w.heap.size + 1 < w2.heap.size := by have := hb2.size; first | omega | (simp at this; omega)
  have HB_2 := Lib.hid ((by repeat (first | exact HB_1.out | refine Below.drew ?_ | refine Below.setCell ?_ (by first | omega | (simp; done) | (simp; omega)) _ | refine Below.alloc ?_ (by first | omega | (simp; done) | (simp; omega)) _) : Below w.heap.size w _).trans (hb2.mono (by first | omega | (simp; done) | (simp; omega))))
  have nz_2 : w.heap.size ≤ w2.heap.size := HB_2.out.size
  clear hb2 a0_1 a1_1 b0_1 b1_1 HB_1
  go_wp2_with fail
  refine (vspan_is HB.out _).mono ?_
  rintro e w3 ⟨rfl, hb3⟩
  have a0_3 : w3.cell? ⟨w.heap.size, 0, none⟩ = some (.int .i64 l0) := carry hb3 (by go_simp)
  have a1_3 : w3.cell? ⟨w.heap.size, 1, none⟩ = some (.int .i64 u0) := carry hb3 (by go_simp)
  have az_3 : w.heap.size < w3.heap.size := by have := hb3.size; first | omega | (simp at this; omega)
  have b0_3 : w3.cell? ⟨w.heap.size + 1, 0, none⟩ = some (.int .i64 l1) := carry hb3 (by go_simp)
  have b1_3 : w3.cell? ⟨w.heap.size + 1, 1, none⟩ = some (.int .i64 u1) := carry hb3 (by go_simp)
  have bz_3 : w.heap.size + 1 < w3.heap.size := by have := hb3.size; first | omega | (simp at this; omega)
  have HB_3 := Lib.hid ((by repeat (first | exact HB_2.out | refine Below.drew ?_ | refine Below.setCell ?_ (by first | omega | (simp; done) | (simp; omega)) _ | refine Below.alloc ?_ (by first | omega | (simp; done) | (simp; omega)) _) : Below w.heap.size w _).trans (hb3.mono (by first | omega | (simp; done) | (simp; omega))))
  have nz_3 : w.heap.size ≤ w3.heap.size := HB_3.out.size
  clear hb3 a0_2 a1_2 b0_2 b1_2 HB_2
  go_wp2_with fail
  go_ret
  exact ⟨rfl, by repeat (first | exact HB_3.out | refine Below.drew ?_ | refine Below.setCell ?_ (by first | omega | (simp; done) | (simp; omega)) _ | refine Below.alloc ?_ (by first | omega | (simp; done) | (simp; omega)) _)⟩

set_option maxRecDepth 100000 in
set_option maxHeartbeats 12000000 in
theorem main (l0 u0 l1 u1 : Int) (w : World) (HA : Hid (vsp l0 u0 = true)) (HB : Hid (vsp l1 u1 = true)) :
    Calls Try.prog 4 #[spanV l0 u0, spanV l1 u1] w fun e w' => e = .returned (.bool true) ∧ Below w.heap.size w w' := by
  go_enter Try.func4, Try.ntmps4
  go_wp2_with fail
  refine (wide_any _).mono ?_
  rintro e w1 ⟨rfl, hb1⟩
  have a0_1 : w1.cell? ⟨w.heap.size, 0, none⟩ = some (.int .i64 l0) := carry hb1 (by go_simp)
  have a1_1 : w1.cell? ⟨w.heap.size, 1, none⟩ = some (.int .i64 u0) := carry hb1 (by go_simp)
  have az_1 : w.heap.size < w1.heap.size := by have := hb1.size; first | omega | (simp at this; omega)
  have b0_1 : w1.cell? ⟨w.heap.size + 1, 0, none⟩ = some (.int .i64 l1) := carry hb1 (by go_simp)
  have b1_1 : w1.cell? ⟨w.heap.size + 1, 1, none⟩ = some (.int .i64 u1) := carry hb1 (by go_simp)
  have bz_1 : w.heap.size + 1 < w1.heap.size := by have := hb1.size; first | omega | (simp at this; omega)
  have HB_1 := Lib.hid ((by repeat (first | exact Below.refl _ _ | refine Below.drew ?_ | refine Below.setCell ?_ (by first | omega | (simp; done) | (simp; omega)) _ | refine Below.alloc ?_ (by first | omega | (simp; done) | (simp; omega)) _) : Below w.heap.size w _).trans (hb1.mono (by first | omega | (simp; done) | (simp; omega))))
  have nz_1 : w.heap.size ≤ w1.heap.size := HB_1.out.size
  clear hb1
  go_wp2_with fail
  refine (vspan_is HA.out _).mono ?_
  rintro e w2 ⟨rfl, hb2⟩
  have a0_2 : w2.cell? ⟨w.heap.size, 0, none⟩ = some (.int .i64 l0) := carry hb2 (by go_simp)
  have a1_2 : w2.cell? ⟨w.heap.size, 1, none⟩ = some (.int .i64 u0) := carry hb2 (by go_simp)
  have az_2 : w.heap.size < w2.heap.size := by have := hb2.size; first | omega | (simp at this; omega)
  have b0_2 : w2.cell? ⟨w.heap.size + 1, 0, none⟩ = some (.int .i64 l1) := carry hb2 (by go_simp)
  have b1_2 : w2.cell? ⟨w.heap.size + 1, 1, none⟩ = some (.int .i64 u1) := carry hb2 (by go_simp)
  have bz_2 : w.heap.size + 1 < w2.heap.size := by have := hb2.size; first | omega | (simp at this; omega)
  have HB_2 := Lib.hid ((by repeat (first | exact HB_1.out | refine Below.drew ?_ | refine Below.setCell ?_ (by first | omega | (simp; done) | (simp; omega)) _ | refine Below.alloc ?_ (by first | omega | (simp; done) | (simp; omega)) _) : Below w.heap.size w _).trans (hb2.mono (by first | omega | (simp; done) | (simp; omega))))
  have nz_2 : w.heap.size ≤ w2.heap.size := HB_2.out.size
  clear hb2 a0_1 a1_1 b0_1 b1_1 HB_1
  go_wp2_with fail
  refine (vspan_is HB.out _).mono ?_
  rintro e w3 ⟨rfl, hb3⟩
  have a0_3 : w3.cell? ⟨w.heap.size, 0, none⟩ = some (.int .i64 l0) := carry hb3 (by go_simp)
  have a1_3 : w3.cell? ⟨w.heap.size, 1, none⟩ = some (.int .i64 u0) := carry hb3 (by go_simp)
  have az_3 : w.heap.size < w3.heap.size := by have := hb3.size; first | omega | (simp at this; omega)
  have b0_3 : w3.cell? ⟨w.heap.size + 1, 0, none⟩ = some (.int .i64 l1) := carry hb3 (by go_simp)
  have b1_3 : w3.cell? ⟨w.heap.size + 1, 1, none⟩ = some (.int .i64 u1) := carry hb3 (by go_simp)
  have bz_3 : w.heap.size + 1 < w3.heap.size := by have := hb3.size; first | omega | (simp at this; omega)
  have HB_3 := Lib.hid ((by repeat (first | exact HB_2.out | refine Below.drew ?_ | refine Below.setCell ?_ (by first | omega | (simp; done) | (simp; omega)) _ | refine Below.alloc ?_ (by first | omega | (simp; done) | (simp; omega)) _) : Below w.heap.size w _).trans (hb3.mono (by first | omega | (simp; done) | (simp; omega))))
  have nz_3 : w.heap.size ≤ w3.heap.size := HB_3.out.size
  clear hb3 a0_2 a1_2 b0_2 b1_2 HB_2
  have hbs : bsp l0 u0 l1 u1 = true := by simp [bsp, HA.out, HB.out]
  have ⟨⟨⟨v1, v2⟩, ⟨v3, v4⟩, v5⟩, ⟨v6, v7⟩, ⟨v8, v9⟩, v10⟩ := bsp_iff.1 hbs
  have HBS := Lib.hid hbs
  clear hbs
  go_wp2_with fail
  have HBX := HB_3
  go_loopw [6] (fun i wr => ∃ k : Nat, k ≤ 3 ∧ i = .int .i64 k ∧ OSt l0 u0 l1 u1 w wr) (fun i _ => 3 - (intOf i).toNat)
  case atStart =>
    refine ⟨0, by omega, rfl, ?_⟩
    unfold OSt
    exact ⟨by first | assumption | (go_simp; done) | (go_simp; rfl) | (refine (World.cell?_alloc_lt _ _ _ ?_).trans ?_ <;> first | (go_simp; done) | (go_simp; rfl) | (simp; omega) | (refine (World.cell?_alloc_lt _ _ _ ?_).trans ?_ <;> first | (go_simp; done) | (go_simp; rfl) | (simp; omega))), by first | assumption | (go_simp; done) | (go_simp; rfl) | (refine (World.cell?_alloc_lt _ _ _ ?_).trans ?_ <;> first | (go_simp; done) | (go_simp; rfl) | (simp; omega) | (refine (World.cell?_alloc_lt _ _ _ ?_).trans ?_ <;> first | (go_simp; done) | (go_simp; rfl) | (simp; omega))), by first | assumption | (go_simp; done) | (go_simp; rfl) | (refine (World.cell?_alloc_lt _ _ _ ?_).trans ?_ <;> first | (go_simp; done) | (go_simp; rfl) | (simp; omega) | (refine (World.cell?_alloc_lt _ _ _ ?_).trans ?_ <;> first | (go_simp; done) | (go_simp; rfl) | (simp; omega))), by first | assumption | (go_simp; done) | (go_simp; rfl) | (refine (World.cell?_alloc_lt _ _ _ ?_).trans ?_ <;> first | (go_simp; done) | (go_simp; rfl) | (simp; omega) | (refine (World.cell?_alloc_lt _ _ _ ?_).trans ?_ <;> first | (go_simp; done) | (go_simp; rfl) | (simp; omega))), by first | assumption | (simp; done) | (simp; assumption) | (simp; omega), by first | assumption | (simp; done) | (simp; assumption) | (simp; omega), by repeat (first | assumption | exact HBX.out | refine Below.trans ?_ (Go.Joins.below_draws _ _ _) | refine Below.drew ?_ | refine Below.setCell ?_ (by first | omega | (simp; done) | (simp; omega)) _ | refine Below.alloc ?_ (by first | omega | (simp; done) | (simp; omega)) _)⟩
  case round =>
    clear HBX a0_3 a1_3 b0_3 b1_3 HB_3
    obtain ⟨k, hk, rfl, hS⟩ := hrel
    obtain ⟨wo, rfl⟩ : ∃ wo : World, wo = wr := ⟨_, rfl⟩
    obtain ⟨a0, a1, b0, b1, z0, z1, hBq⟩ := hS
    by_cases hlt : k < 3
    · have k0 : 0 ≤ (k : Int) := by omega
      have k2 : (k : Int) ≤ 2 := by omega
      have HBX := Lib.hid hBq
      have hd3 : decide ((k : Int) < 3) = true := decide_eq_true (by omega)
      go_wp2_with fail
      go_loopw [10] (fun i wi => ∃ j : Nat, j ≤ 4 ∧ i = .int .i64 j ∧ IStv wo.heap.size l0 u0 l1 u1 (gF k l0 u0 l1 u1) w j wi) (fun i _ => 4 - (intOf i).toNat)
      case atStart =>
        refine ⟨0, by omega, rfl, ?_⟩
        unfold IStv ISt
        exact ⟨by first | assumption | (go_simp; done) | (go_simp; rfl) | (refine (World.cell?_alloc_lt _ _ _ ?_).trans ?_ <;> first | (go_simp; done) | (go_simp; rfl) | (simp; omega) | (refine (World.cell?_alloc_lt _ _ _ ?_).trans ?_ <;> first | (go_simp; done) | (go_simp; rfl) | (simp; omega))), by first | assumption | (go_simp; done) | (go_simp; rfl) | (refine (World.cell?_alloc_lt _ _ _ ?_).trans ?_ <;> first | (go_simp; done) | (go_simp; rfl) | (simp; omega) | (refine (World.cell?_alloc_lt _ _ _ ?_).trans ?_ <;> first | (go_simp; done) | (go_simp; rfl) | (simp; omega))), by first | assumption | (go_simp; done) | (go_simp; rfl) | (refine (World.cell?_alloc_lt _ _ _ ?_).trans ?_ <;> first | (go_simp; done) | (go_simp; rfl) | (simp; omega) | (refine (World.cell?_alloc_lt _ _ _ ?_).trans ?_ <;> first | (go_simp; done) | (go_simp; rfl) | (simp; omega))), by first | assumption | (go_simp; done) | (go_simp; rfl) | (refine (World.cell?_alloc_lt _ _ _ ?_).trans ?_ <;> first | (go_simp; done) | (go_simp; rfl) | (simp; omega) | (refine (World.cell?_alloc_lt _ _ _ ?_).trans ?_ <;> first | (go_simp; done) | (go_simp; rfl) | (simp; omega))), by first | assumption | (go_simp; done) | (go_simp; rfl) | (refine (World.cell?_alloc_lt _ _ _ ?_).trans ?_ <;> first | (go_simp; done) | (go_simp; rfl) | (simp; omega) | (refine (World.cell?_alloc_lt _ _ _ ?_).trans ?_ <;> first | (go_simp; done) | (go_simp; rfl) | (simp; omega))), by first | assumption | (go_simp; done) | (go_simp; rfl) | (refine (World.cell?_alloc_lt _ _ _ ?_).trans ?_ <;> first | (go_simp; done) | (go_simp; rfl) | (simp; omega) | (refine (World.cell?_alloc_lt _ _ _ ?_).trans ?_ <;> first | (go_simp; done) | (go_simp; rfl) | (simp; omega))), by first | assumption | (go_simp; done) | (go_simp; rfl) | (refine (World.cell?_alloc_lt _ _ _ ?_).trans ?_ <;> first | (go_simp; done) | (go_simp; rfl) | (simp; omega) | (refine (World.cell?_alloc_lt _ _ _ ?_).trans ?_ <;> first | (go_simp; done) | (go_simp; rfl) | (simp; omega))), by first | assumption | (go_simp; done) | (go_simp; rfl) | (refine (World.cell?_alloc_lt _ _ _ ?_).trans ?_ <;> first | (go_simp; done) | (go_simp; rfl) | (simp; omega) | (refine (World.cell?_alloc_lt _ _ _ ?_).trans ?_ <;> first | (go_simp; done) | (go_simp; rfl) | (simp; omega))), by first | assumption | (go_simp; done) | (go_simp; rfl) | (refine (World.cell?_alloc_lt _ _ _ ?_).trans ?_ <;> first | (go_simp; done) | (go_simp; rfl) | (simp; omega) | (refine (World.cell?_alloc_lt _ _ _ ?_).trans ?_ <;> first | (go_simp; done) | (go_simp; rfl) | (simp; omega))), by first | assumption | (go_simp; done) | (go_simp; rfl) | (refine (World.cell?_alloc_lt _ _ _ ?_).trans ?_ <;> first | (go_simp; done) | (go_simp; rfl) | (simp; omega) | (refine (World.cell?_alloc_lt _ _ _ ?_).trans ?_ <;> first | (go_simp; done) | (go_simp; rfl) | (simp; omega))), by first | assumption | (go_simp; done) | (go_simp; rfl) | (refine (World.cell?_alloc_lt _ _ _ ?_).trans ?_ <;> first | (go_simp; done) | (go_simp; rfl) | (simp; omega) | (refine (World.cell?_alloc_lt _ _ _ ?_).trans ?_ <;> first | (go_simp; done) | (go_simp; rfl) | (simp; omega))), by first | assumption | (go_simp; done) | (go_simp; rfl) | (refine (World.cell?_alloc_lt _ _ _ ?_).trans ?_ <;> first | (go_simp; done) | (go_simp; rfl) | (simp; omega) | (refine (World.cell?_alloc_lt _ _ _ ?_).trans ?_ <;> first | (go_simp; done) | (go_simp; rfl) | (simp; omega))), by first | assumption | (go_simp; done) | (go_simp; rfl) | (refine (World.cell?_alloc_lt _ _ _ ?_).trans ?_ <;> first | (go_simp; done) | (go_simp; rfl) | (simp; omega) | (refine (World.cell?_alloc_lt _ _ _ ?_).trans ?_ <;> first | (go_simp; done) | (go_simp; rfl) | (simp; omega))), by first | assumption | (go_simp; done) | (go_simp; rfl) | (refine (World.cell?_alloc_lt _ _ _ ?_).trans ?_ <;> first | (go_simp; done) | (go_simp; rfl) | (simp; omega) | (refine (World.cell?_alloc_lt _ _ _ ?_).trans ?_ <;> first | (go_simp; done) | (go_simp; rfl) | (simp; omega))), by first | assumption | (go_simp; done) | (go_simp; rfl) | (refine (World.cell?_alloc_lt _ _ _ ?_).trans ?_ <;> first | (go_simp; done) | (go_simp; rfl) | (simp; omega) | (refine (World.cell?_alloc_lt _ _ _ ?_).trans ?_ <;> first | (go_simp; done) | (go_simp; rfl) | (simp; omega))), by first | assumption | (go_simp; done) | (go_simp; rfl) | (refine (World.cell?_alloc_lt _ _ _ ?_).trans ?_ <;> first | (go_simp; done) | (go_simp; rfl) | (simp; omega) | (refine (World.cell?_alloc_lt _ _ _ ?_).trans ?_ <;> first | (go_simp; done) | (go_simp; rfl) | (simp; omega))), by first | assumption | (go_simp; done) | (go_simp; rfl) | (refine (World.cell?_alloc_lt _ _ _ ?_).trans ?_ <;> first | (go_simp; done) | (go_simp; rfl) | (simp; omega) | (refine (World.cell?_alloc_lt _ _ _ ?_).trans ?_ <;> first | (go_simp; done) | (go_simp; rfl) | (simp; omega))), by first | assumption | (go_simp; done) | (go_simp; rfl) | (refine (World.cell?_alloc_lt _ _ _ ?_).trans ?_ <;> first | (go_simp; done) | (go_simp; rfl) | (simp; omega) | (refine (World.cell?_alloc_lt _ _ _ ?_).trans ?_ <;> first | (go_simp; done) | (go_simp; rfl) | (simp; omega))), by first | assumption | (go_simp; done) | (go_simp; rfl) | (refine (World.cell?_alloc_lt _ _ _ ?_).trans ?_ <;> first | (go_simp; done) | (go_simp; rfl) | (simp; omega) | (refine (World.cell?_alloc_lt _ _ _ ?_).trans ?_ <;> first | (go_simp; done) | (go_simp; rfl) | (simp; omega))), by first | assumption | (go_simp; done) | (go_simp; rfl) | (refine (World.cell?_alloc_lt _ _ _ ?_).trans ?_ <;> first | (go_simp; done) | (go_simp; rfl) | (simp; omega) | (refine (World.cell?_alloc_lt _ _ _ ?_).trans ?_ <;> first | (go_simp; done) | (go_simp; rfl) | (simp; omega))), by first | assumption | (simp; done) | (simp; assumption) | (simp; omega), by first | assumption | (simp; done) | (simp; assumption) | (simp; omega), by first | assumption | (simp; done) | (simp; assumption) | (simp; omega), by first | assumption | (simp; done) | (simp; assumption) | (simp; omega), by first | assumption | (simp; done) | (simp; assumption) | (simp; omega), by repeat (first | assumption | exact HBX.out | refine Below.trans ?_ (Go.Joins.below_draws _ _ _) | refine Below.drew ?_ | refine Below.setCell ?_ (by first | omega | (simp; done) | (simp; omega)) _ | refine Below.alloc ?_ (by first | omega | (simp; done) | (simp; omega)) _)⟩
      case round =>
        clear a0 a1 b0 b1 z0 hBq HBX
        have hN := z1
        clear z1
        obtain ⟨j, hj, rfl, hS⟩ := hrel
        obtain ⟨wi, rfl⟩ : ∃ wi : World, wi = wr := ⟨_, rfl⟩
        have HS0 := Lib.hid (show ISt wo.heap.size l0 u0 l1 u1 (fLo (gF k l0 u0 l1 u1) j) (fHi (gF k l0 u0 l1 u1) j) (fOk (gF k l0 u0 l1 u1) j) (fOut (gF k l0 u0 l1 u1) j) w wi from hS)
        obtain ⟨a0, a1, b0, b1, F0, F1, F2, F3, Z0, Z1, Z2, Z3, x0, x1, x2, x3, y0, y1, y2, y3, z0, z1, z2, z3, z4, hBq⟩ := hS
        by_cases hlj : j < 4
        · obtain ⟨xv, yv, hxy, xk, yk, hbt⟩ : ∃ xv yv : Int, en (gF k l0 u0 l1 u1) j = gOp k xv yv ∧ wi.cell? ⟨wo.heap.size + 1, j, none⟩ = some (.int .i64 xv) ∧ wi.cell? ⟨wo.heap.size + 1 + 1, j, none⟩ = some (.int .i64 yv) ∧ bth xv yv = true := by
            rcases (show j = 0 ∨ j = 1 ∨ j = 2 ∨ j = 3 by omega) with rfl | rfl | rfl | rfl
            · exact ⟨l0, l1, rfl, x0, y0, bth_mk (vld_mk ⟨v1, v2⟩) (vld_mk ⟨v6, v7⟩)⟩
            · exact ⟨l0, u1, rfl, x1, y1, bth_mk (vld_mk ⟨v1, v2⟩) (vld_mk ⟨v8, v9⟩)⟩
            · exact ⟨u0, l1, rfl, x2, y2, bth_mk (vld_mk ⟨v3, v4⟩) (vld_mk ⟨v6, v7⟩)⟩
            · exact ⟨u0, u1, rfl, x3, y3, bth_mk (vld_mk ⟨v3, v4⟩) (vld_mk ⟨v8, v9⟩)⟩
          have HXY := Lib.hid hxy
          have HBT := Lib.hid hbt
          clear hxy hbt
          have ⟨kb0, kb1⟩ := fOk_bd (gF k l0 u0 l1 u1) j
          have ⟨ob0, ob1⟩ := fOut_bd (gF k l0 u0 l1 u1) j
          have j4 : (j : Int) ≤ 4 := by omega
          generalize hL : fLo (gF k l0 u0 l1 u1) j = L at *
          generalize hH : fHi (gF k l0 u0 l1 u1) j = Hh at *
          generalize hK : fOk (gF k l0 u0 l1 u1) j = K at *
          generalize hO : fOut (gF k l0 u0 l1 u1) j = O at *
          have HL := Lib.hid (And.intro (And.intro hL hH) (And.intro hK hO))
          clear hL hH hK hO
          cases hz : vld (gOp k xv yv)
          · have HAp := Lib.hid (show exV (gOp k xv yv) = 0 ∧ exE (gOp k xv yv) = 3 from by simp [exV, exE, hz])
            have HK := Lib.hid (show fLo (gF k l0 u0 l1 u1) (j + 1) = L ∧ fHi (gF k l0 u0 l1 u1) (j + 1) = Hh ∧ fOk (gF k l0 u0 l1 u1) (j + 1) = K ∧ fOut (gF k l0 u0 l1 u1) (j + 1) = O + 1 from by
              simp only [fLo, fHi, fOk, fOut, HXY.out, hz, HL.out.1.1, HL.out.1.2, HL.out.2.1, HL.out.2.2, Bool.false_eq_true, if_false, and_self])
            clear hz
            go_wp2_with fail
            go_quiet ((go_at_call 20; exact Calls.quiet_of_same (apply_q _ k0 k2 HBT.out HAp.out)))
            go_wp2_with fail
            refine (meets_out _ _ _ O _ (by decide) ob0 (by omega) (by go_simp) (by go_simp)).mono ?_
            rintro e w' ⟨rfl, rfl⟩
            go_wp2_with fail
            go_roundw
            case rel =>
              first | refine ⟨(j + 1 : Nat), by omega, by go_num, ?_⟩ | ((repeat apply Exists.intro); refine And.intro ?_ rfl; refine ⟨j + 1, by omega, by go_num, ?_⟩)
              unfold IStv
              rw [HK.out.1, HK.out.2.1, HK.out.2.2.1, HK.out.2.2.2]
              exact st_out (drew_ HS0.out _) hN
            case measure => simp [intOf]; omega
          · cases hk : (K == 0)
            · have hK1 : 1 ≤ K := by have := beq_eq_false_iff_ne.1 hk; omega
              have HAp := Lib.hid (show exV (gOp k xv yv) = gOp k xv yv ∧ exE (gOp k xv yv) = 0 from by simp [exV, exE, hz])
              have HK := Lib.hid (show fLo (gF k l0 u0 l1 u1) (j + 1) = mn L (gOp k xv yv) ∧ fHi (gF k l0 u0 l1 u1) (j + 1) = mx Hh (gOp k xv yv) ∧ fOk (gF k l0 u0 l1 u1) (j + 1) = K + 1 ∧ fOut (gF k l0 u0 l1 u1) (j + 1) = O from by
                have hk0 : ¬ K = 0 := beq_eq_false_iff_ne.1 hk
                simp only [fLo, fHi, fOk, fOut, HXY.out, hz, HL.out.1.1, HL.out.1.2, HL.out.2.1, HL.out.2.2, if_true, if_neg hk0, and_self])
              have HKK := Lib.hid hk
              clear hz hk
              go_wp2_with fail
              go_quiet ((go_at_call 20; exact Calls.quiet_of_same (apply_q _ k0 k2 HBT.out HAp.out)))
              generalize gOp k xv yv = z at *
              go_wp2_with fail
              refine (meets_more _ _ L Hh K _ hK1 (by omega) HKK.out (by go_simp) (by go_simp) (by go_simp) (by go_simp) (by go_simp) (by go_simp)).mono ?_
              rintro e w' ⟨rfl, rfl⟩
              go_wp2_with fail
              go_roundw
              case rel =>
                first | refine ⟨(j + 1 : Nat), by omega, by go_num, ?_⟩ | ((repeat apply Exists.intro); refine And.intro ?_ rfl; refine ⟨j + 1, by omega, by go_num, ?_⟩)
                unfold IStv
                rw [HK.out.1, HK.out.2.1, HK.out.2.2.1, HK.out.2.2.2]
                exact st_more _ (drew_ HS0.out _) hN
              case measure => simp [intOf]; omega
            · obtain rfl : K = 0 := beq_iff_eq.1 hk
              have HAp := Lib.hid (show exV (gOp k xv yv) = gOp k xv yv ∧ exE (gOp k xv yv) = 0 from by simp [exV, exE, hz])
              have HK := Lib.hid (show fLo (gF k l0 u0 l1 u1) (j + 1) = mn (gOp k xv yv) (gOp k xv yv) ∧ fHi (gF k l0 u0 l1 u1) (j + 1) = mx (gOp k xv yv) (gOp k xv yv) ∧ fOk (gF k l0 u0 l1 u1) (j + 1) = 1 ∧ fOut (gF k l0 u0 l1 u1) (j + 1) = O from by
                simp only [fLo, fHi, fOk, fOut, HXY.out, hz, HL.out.1.1, HL.out.1.2, HL.out.2.1, HL.out.2.2, if_true, Int.zero_add, and_self, and_true]
                unfold mn mx
                simp)
              clear hz hk
              go_wp2_with fail
              go_quiet ((go_at_call 20; exact Calls.quiet_of_same (apply_q _ k0 k2 HBT.out HAp.out)))
              generalize gOp k xv yv = z at *
              go_wp2_with fail
              refine (meets_first _ _ L Hh _ (by go_simp) (by go_simp) (by go_simp) (by go_simp) (by go_simp) (by go_simp)).mono ?_
              rintro e w' ⟨rfl, rfl⟩
              go_wp2_with fail
              go_roundw
              case rel =>
                first | refine ⟨(j + 1 : Nat), by omega, by go_num, ?_⟩ | ((repeat apply Exists.intro); refine And.intro ?_ rfl; refine ⟨j + 1, by omega, by go_num, ?_⟩)
                unfold IStv
                rw [HK.out.1, HK.out.2.1, HK.out.2.2.1, HK.out.2.2.2]
                exact st_first _ (drew_ HS0.out _) hN
              case measure => simp [intOf]; omega
        · obtain rfl : j = 4 := by omega
          have ⟨kb0, kb1⟩ := fOk_bd (gF k l0 u0 l1 u1) 4
          have ⟨ob0, ob1⟩ := fOut_bd (gF k l0 u0 l1 u1) 4
          have e1 : ∀ v, opL l0 u0 l1 u1 v = cutL (low4 v) (high4 v) ∧ opH l0 u0 l1 u1 v = cutH (low4 v) (high4 v) ∧ opM l0 u0 l1 u1 v = cutM (low4 v) (high4 v) ∧ opE l0 u0 l1 u1 v = cutE (low4 v) (high4 v) :=
            fun v => by simp [opL, opH, opM, opE, HBS.out]
          have E1 := Lib.hid (e1 (gF k l0 u0 l1 u1))
          clear e1
          cases hok : okC (low4 (gF k l0 u0 l1 u1)) (high4 (gF k l0 u0 l1 u1))
          · have HS := Lib.hid (show opL l0 u0 l1 u1 (gF k l0 u0 l1 u1) = 0 ∧ opH l0 u0 l1 u1 (gF k l0 u0 l1 u1) = 0 ∧ opM l0 u0 l1 u1 (gF k l0 u0 l1 u1) = false ∧ opE l0 u0 l1 u1 (gF k l0 u0 l1 u1) = 3 from by
              rw [E1.out.1, E1.out.2.1, E1.out.2.2.1, E1.out.2.2.2]; simp [cutL, cutH, cutM, cutE, hok])
            rw [fin_no _ hok] at F2
            clear hok
            go_wp2_with fail
            refine (spread_is HS.out _ k0 k2).mono ?_
            rintro e w3 ⟨rfl, hb3⟩
            have a0 : w3.cell? ⟨w.heap.size, 0, none⟩ = some (.int .i64 l0) := carry hb3 a0
            have a1 : w3.cell? ⟨w.heap.size, 1, none⟩ = some (.int .i64 u0) := carry hb3 a1
            have b0 : w3.cell? ⟨w.heap.size + 1, 0, none⟩ = some (.int .i64 l1) := carry hb3 b0
            have b1 : w3.cell? ⟨w.heap.size + 1, 1, none⟩ = some (.int .i64 u1) := carry hb3 b1
            have F0 : w3.cell? ⟨wo.heap.size, 0, none⟩ = some (.int .i64 (fLo (gF k l0 u0 l1 u1) 4)) := carry hb3 F0
            have F1 : w3.cell? ⟨wo.heap.size, 1, none⟩ = some (.int .i64 (fHi (gF k l0 u0 l1 u1) 4)) := carry hb3 F1
            have F2 : w3.cell? ⟨wo.heap.size, 2, none⟩ = some (.int .i64 0) := carry hb3 F2
            have F3 : w3.cell? ⟨wo.heap.size, 3, none⟩ = some (.int .i64 (fOut (gF k l0 u0 l1 u1) 4)) := carry hb3 F3
            have z0 : w.heap.size < w3.heap.size := by have := hb3.size; omega
            have z1 : w.heap.size + 1 < w3.heap.size := by have := hb3.size; omega
            have z2 : wo.heap.size < w3.heap.size := by have := hb3.size; omega
            have HBX := Lib.hid (hBq.trans (hb3.mono (by omega)))
            clear hb3 hBq
            go_wp2_with fail
            go_roundw
            case rel =>
              first | refine ⟨(k + 1 : Nat), by omega, by go_num, ?_⟩ | ((repeat apply Exists.intro); refine And.intro ?_ rfl; refine ⟨k + 1, by omega, by go_num, ?_⟩)
              unfold OSt
              exact ⟨by first | assumption | (go_simp; done) | (go_simp; rfl) | (refine (World.cell?_alloc_lt _ _ _ ?_).trans ?_ <;> first | (go_simp; done) | (go_simp; rfl) | (simp; omega) | (refine (World.cell?_alloc_lt _ _ _ ?_).trans ?_ <;> first | (go_simp; done) | (go_simp; rfl) | (simp; omega))), by first | assumption | (go_simp; done) | (go_simp; rfl) | (refine (World.cell?_alloc_lt _ _ _ ?_).trans ?_ <;> first | (go_simp; done) | (go_simp; rfl) | (simp; omega) | (refine (World.cell?_alloc_lt _ _ _ ?_).trans ?_ <;> first | (go_simp; done) | (go_simp; rfl) | (simp; omega))), by first | assumption | (go_simp; done) | (go_simp; rfl) | (refine (World.cell?_alloc_lt _ _ _ ?_).trans ?_ <;> first | (go_simp; done) | (go_simp; rfl) | (simp; omega) | (refine (World.cell?_alloc_lt _ _ _ ?_).trans ?_ <;> first | (go_simp; done) | (go_simp; rfl) | (simp; omega))), by first | assumption | (go_simp; done) | (go_simp; rfl) | (refine (World.cell?_alloc_lt _ _ _ ?_).trans ?_ <;> first | (go_simp; done) | (go_simp; rfl) | (simp; omega) | (refine (World.cell?_alloc_lt _ _ _ ?_).trans ?_ <;> first | (go_simp; done) | (go_simp; rfl) | (simp; omega))), by first | assumption | (simp; done) | (simp; assumption) | (simp; omega), by first | assumption | (simp; done) | (simp; assumption) | (simp; omega), by repeat (first | assumption | exact HBX.out | refine Below.trans ?_ (Go.Joins.below_draws _ _ _) | refine Below.drew ?_ | refine Below.setCell ?_ (by first | omega | (simp; done) | (simp; omega)) _ | refine Below.alloc ?_ (by first | omega | (simp; done) | (simp; omega)) _)⟩
            case measure => simp [intOf]; omega
          · cases hm : cutM (low4 (gF k l0 u0 l1 u1)) (high4 (gF k l0 u0 l1 u1))
            · have ⟨q1, q2, q3⟩ := fin_in _ hok hm
              have HS := Lib.hid (show opL l0 u0 l1 u1 (gF k l0 u0 l1 u1) = fLo (gF k l0 u0 l1 u1) 4 ∧ opH l0 u0 l1 u1 (gF k l0 u0 l1 u1) = fHi (gF k l0 u0 l1 u1) 4 ∧ opM l0 u0 l1 u1 (gF k l0 u0 l1 u1) = false ∧ opE l0 u0 l1 u1 (gF k l0 u0 l1 u1) = 0 from by
                rw [E1.out.1, E1.out.2.1, E1.out.2.2.1, E1.out.2.2.2, q2, q3, hm]; simp [cutE, hok])
              rw [q1] at F3
              clear hok hm q1 q2 q3
              generalize fLo (gF k l0 u0 l1 u1) 4 = L at *
              generalize fHi (gF k l0 u0 l1 u1) 4 = Hh at *
              go_wp2_with fail
              refine (spread_is HS.out _ k0 k2).mono ?_
              rintro e w3 ⟨rfl, hb3⟩
              have a0 : w3.cell? ⟨w.heap.size, 0, none⟩ = some (.int .i64 l0) := carry hb3 a0
              have a1 : w3.cell? ⟨w.heap.size, 1, none⟩ = some (.int .i64 u0) := carry hb3 a1
              have b0 : w3.cell? ⟨w.heap.size + 1, 0, none⟩ = some (.int .i64 l1) := carry hb3 b0
              have b1 : w3.cell? ⟨w.heap.size + 1, 1, none⟩ = some (.int .i64 u1) := carry hb3 b1
              have F0 : w3.cell? ⟨wo.heap.size, 0, none⟩ = some (.int .i64 L) := carry hb3 F0
              have F1 : w3.cell? ⟨wo.heap.size, 1, none⟩ = some (.int .i64 Hh) := carry hb3 F1
              have F2 : w3.cell? ⟨wo.heap.size, 2, none⟩ = some (.int .i64 (fOk (gF k l0 u0 l1 u1) 4)) := carry hb3 F2
              have F3 : w3.cell? ⟨wo.heap.size, 3, none⟩ = some (.int .i64 0) := carry hb3 F3
              have z0 : w.heap.size < w3.heap.size := by have := hb3.size; omega
              have z1 : w.heap.size + 1 < w3.heap.size := by have := hb3.size; omega
              have z2 : wo.heap.size < w3.heap.size := by have := hb3.size; omega
              have HBX := Lib.hid (hBq.trans (hb3.mono (by omega)))
              clear hb3 hBq
              go_wp2_with fail
              go_roundw
              case rel =>
                first | refine ⟨(k + 1 : Nat), by omega, by go_num, ?_⟩ | ((repeat apply Exists.intro); refine And.intro ?_ rfl; refine ⟨k + 1, by omega, by go_num, ?_⟩)
                unfold OSt
                exact ⟨by first | assumption | (go_simp; done) | (go_simp; rfl) | (refine (World.cell?_alloc_lt _ _ _ ?_).trans ?_ <;> first | (go_simp; done) | (go_simp; rfl) | (simp; omega) | (refine (World.cell?_alloc_lt _ _ _ ?_).trans ?_ <;> first | (go_simp; done) | (go_simp; rfl) | (simp; omega))), by first | assumption | (go_simp; done) | (go_simp; rfl) | (refine (World.cell?_alloc_lt _ _ _ ?_).trans ?_ <;> first | (go_simp; done) | (go_simp; rfl) | (simp; omega) | (refine (World.cell?_alloc_lt _ _ _ ?_).trans ?_ <;> first | (go_simp; done) | (go_simp; rfl) | (simp; omega))), by first | assumption | (go_simp; done) | (go_simp; rfl) | (refine (World.cell?_alloc_lt _ _ _ ?_).trans ?_ <;> first | (go_simp; done) | (go_simp; rfl) | (simp; omega) | (refine (World.cell?_alloc_lt _ _ _ ?_).trans ?_ <;> first | (go_simp; done) | (go_simp; rfl) | (simp; omega))), by first | assumption | (go_simp; done) | (go_simp; rfl) | (refine (World.cell?_alloc_lt _ _ _ ?_).trans ?_ <;> first | (go_simp; done) | (go_simp; rfl) | (simp; omega) | (refine (World.cell?_alloc_lt _ _ _ ?_).trans ?_ <;> first | (go_simp; done) | (go_simp; rfl) | (simp; omega))), by first | assumption | (simp; done) | (simp; assumption) | (simp; omega), by first | assumption | (simp; done) | (simp; assumption) | (simp; omega), by repeat (first | assumption | exact HBX.out | refine Below.trans ?_ (Go.Joins.below_draws _ _ _) | refine Below.drew ?_ | refine Below.setCell ?_ (by first | omega | (simp; done) | (simp; omega)) _ | refine Below.alloc ?_ (by first | omega | (simp; done) | (simp; omega)) _)⟩
              case measure => simp [intOf]; omega
            · have q1 := fin_out _ hok hm
              have HS := Lib.hid (show opL l0 u0 l1 u1 (gF k l0 u0 l1 u1) = cutL (low4 (gF k l0 u0 l1 u1)) (high4 (gF k l0 u0 l1 u1)) ∧ opH l0 u0 l1 u1 (gF k l0 u0 l1 u1) = cutH (low4 (gF k l0 u0 l1 u1)) (high4 (gF k l0 u0 l1 u1)) ∧ opM l0 u0 l1 u1 (gF k l0 u0 l1 u1) = true ∧ opE l0 u0 l1 u1 (gF k l0 u0 l1 u1) = 0 from by
                rw [E1.out.1, E1.out.2.1, E1.out.2.2.1, E1.out.2.2.2, hm]; simp [cutE, hok])
              have q2 : decide (0 < fOut (gF k l0 u0 l1 u1) 4) = true := decide_eq_true q1
              clear hok hm
              generalize cutL (low4 (gF k l0 u0 l1 u1)) (high4 (gF k l0 u0 l1 u1)) = L at *
              generalize cutH (low4 (gF k l0 u0 l1 u1)) (high4 (gF k l0 u0 l1 u1)) = Hh at *
              generalize fOut (gF k l0 u0 l1 u1) 4 = O at *
              go_wp2_with fail
              refine (spread_is HS.out _ k0 k2).mono ?_
              rintro e w3 ⟨rfl, hb3⟩
              have a0 : w3.cell? ⟨w.heap.size, 0, none⟩ = some (.int .i64 l0) := carry hb3 a0
              have a1 : w3.cell? ⟨w.heap.size, 1, none⟩ = some (.int .i64 u0) := carry hb3 a1
              have b0 : w3.cell? ⟨w.heap.size + 1, 0, none⟩ = some (.int .i64 l1) := carry hb3 b0
              have b1 : w3.cell? ⟨w.heap.size + 1, 1, none⟩ = some (.int .i64 u1) := carry hb3 b1
              have F0 : w3.cell? ⟨wo.heap.size, 0, none⟩ = some (.int .i64 (fLo (gF k l0 u0 l1 u1) 4)) := carry hb3 F0
              have F1 : w3.cell? ⟨wo.heap.size, 1, none⟩ = some (.int .i64 (fHi (gF k l0 u0 l1 u1) 4)) := carry hb3 F1
              have F2 : w3.cell? ⟨wo.heap.size, 2, none⟩ = some (.int .i64 (fOk (gF k l0 u0 l1 u1) 4)) := carry hb3 F2
              have F3 : w3.cell? ⟨wo.heap.size, 3, none⟩ = some (.int .i64 O) := carry hb3 F3
              have z0 : w.heap.size < w3.heap.size := by have := hb3.size; omega
              have z1 : w.heap.size + 1 < w3.heap.size := by have := hb3.size; omega
              have z2 : wo.heap.size < w3.heap.size := by have := hb3.size; omega
              have HBX := Lib.hid (hBq.trans (hb3.mono (by omega)))
              clear hb3 hBq
              go_wp2_with fail
              go_roundw
              case rel =>
                first | refine ⟨(k + 1 : Nat), by omega, by go_num, ?_⟩ | ((repeat apply Exists.intro); refine And.intro ?_ rfl; refine ⟨k + 1, by omega, by go_num, ?_⟩)
                unfold OSt
                exact ⟨by first | assumption | (go_simp; done) | (go_simp; rfl) | (refine (World.cell?_alloc_lt _ _ _ ?_).trans ?_ <;> first | (go_simp; done) | (go_simp; rfl) | (simp; omega) | (refine (World.cell?_alloc_lt _ _ _ ?_).trans ?_ <;> first | (go_simp; done) | (go_simp; rfl) | (simp; omega))), by first | assumption | (go_simp; done) | (go_simp; rfl) | (refine (World.cell?_alloc_lt _ _ _ ?_).trans ?_ <;> first | (go_simp; done) | (go_simp; rfl) | (simp; omega) | (refine (World.cell?_alloc_lt _ _ _ ?_).trans ?_ <;> first | (go_simp; done) | (go_simp; rfl) | (simp; omega))), by first | assumption | (go_simp; done) | (go_simp; rfl) | (refine (World.cell?_alloc_lt _ _ _ ?_).trans ?_ <;> first | (go_simp; done) | (go_simp; rfl) | (simp; omega) | (refine (World.cell?_alloc_lt _ _ _ ?_).trans ?_ <;> first | (go_simp; done) | (go_simp; rfl) | (simp; omega))), by first | assumption | (go_simp; done) | (go_simp; rfl) | (refine (World.cell?_alloc_lt _ _ _ ?_).trans ?_ <;> first | (go_simp; done) | (go_simp; rfl) | (simp; omega) | (refine (World.cell?_alloc_lt _ _ _ ?_).trans ?_ <;> first | (go_simp; done) | (go_simp; rfl) | (simp; omega))), by first | assumption | (simp; done) | (simp; assumption) | (simp; omega), by first | assumption | (simp; done) | (simp; assumption) | (simp; omega), by repeat (first | assumption | exact HBX.out | refine Below.trans ?_ (Go.Joins.below_draws _ _ _) | refine Below.drew ?_ | refine Below.setCell ?_ (by first | omega | (simp; done) | (simp; omega)) _ | refine Below.alloc ?_ (by first | omega | (simp; done) | (simp; omega)) _)⟩
              case measure => simp [intOf]; omega
    · obtain rfl : k = 3 := by omega
      go_wp2_with fail
      go_ret
      exact ⟨rfl, hBq⟩

theorem run (l0 u0 : Int) (l1 u1 : Int) (w : World) (wl0 : (Lit.int .i64 l0).wf = true) (wu0 : (Lit.int .i64 u0).wf = true) (wl1 : (Lit.int .i64 l1).wf = true) (wu1 : (Lit.int .i64 u1).wf = true) :
    Calls Try.prog 4 #[spanV l0 u0, spanV l1 u1] w fun e w' => e = .returned (.bool true) ∧ Below w.heap.size w w' := by
  cases ha : vsp l0 u0
  · exact bad1 l0 u0 l1 u1 w (Lib.hid ha)
  · cases hb : vsp l1 u1
    · exact bad2 l0 u0 l1 u1 w (Lib.hid ha) (Lib.hid hb)
    · exact main l0 u0 l1 u1 w (Lib.hid ha) (Lib.hid hb)

end Go.Proofs.Ytnhieokegidibaa.integerTight
