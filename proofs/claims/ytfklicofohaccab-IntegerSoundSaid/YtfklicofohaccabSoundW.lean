/- The walk of the statement IntegerSound. -/
import Derived.Test.YtfklicofohaccabProg
import Derived.Test.YtfklicofohaccabWide
import Derived.Test.YtfklicofohaccabBetween
import Derived.Test.YtfklicofohaccabQuoB
import Derived.WalkKit
import Derived.Below
import Derived.Lib.Hide

namespace Go.Proofs.Ytfklicofohaccab.integerSound
open Go.RowKit
set_option linter.unusedVariables false

theorem rin_is {n l u : Int} {b : Bool} (h : (decide (l ≤ n) && decide (n ≤ u)) = b) (w : World) :
    Calls Try.prog 10 #[.int .i64 n, spanV l u] w fun e w' => e = .returned (.bool b) ∧ Below w.heap.size w w' := by
  subst h
  exact rin_any n l u w

/-- the result is a member, or it is announced that there is none -/
def HeldOK (n e l u : Int) (m : Bool) (f : Int) : Prop := (e = 0 ∧ f = 0 ∧ l ≤ n ∧ n ≤ u) ∨ (e ≠ 0 ∧ f = 0 ∧ m = true) ∨ (e ≠ 0 ∧ f = e)

set_option maxRecDepth 100000 in
set_option maxHeartbeats 3000000 in
theorem held_any (n e l u : Int) (m : Bool) (f : Int) (w : World) (h : HeldOK n e l u m f) :
    Calls Try.prog 15 #[.int .i64 n, .int .i64 e, spanV l u, .bool m, .int .i64 f] w fun e w' => e = .returned (.bool true) ∧ Below w.heap.size w w' := by
  have hB0 : ∀ o1 : Obj, Below w.heap.size w (w.alloc o1) := fun _ => (Below.refl _ _).alloc (Nat.le_refl _) _
  have HB := Lib.hid hB0
  clear hB0
  rcases h with ⟨rfl, rfl, h1, h2⟩ | ⟨h1, rfl, rfl⟩ | ⟨h1, rfl⟩
  · have HI := Lib.hid (show (decide (l ≤ n) && decide (n ≤ u)) = true from by simp [h1, h2])
    clear h1 h2
    go_enter Try.func15, Try.ntmps15
    go_wp2_with fail
    refine (rin_is HI.out _).mono ?_
    rintro e w1 ⟨rfl, hb1⟩
    have HB1 := Lib.hid ((HB.out _).trans (hb1.mono (by simp)))
    clear hb1
    go_wp2_with fail
    go_ret
    exact ⟨rfl, HB1.out⟩
  · have h2 : (e == 0) = false := by simpa using h1
    clear h1
    go_enter Try.func15, Try.ntmps15
    go_wp2_with fail
    go_ret
    exact ⟨rfl, HB.out _⟩
  · have h2 : (f == 0) = false := by simpa using h1
    clear h1
    go_enter Try.func15, Try.ntmps15
    go_wp2_with fail
    go_ret
    exact ⟨rfl, HB.out _⟩

theorem clip_held {L U z : Int} (hz : L ≤ z ∧ z ≤ U) (v e : Int) (hv : v = exV z ∧ e = exE z) : HeldOK v e (cutL L U) (cutH L U) (cutM L U) (cutE L U) := by
  obtain ⟨rfl, rfl⟩ := hv
  cases hk : okC L U
  · have hv : vld z = false := by
      simp [okC] at hk
      apply vld_no
      by_cases h : L ≤ 2147483647
      · have := hk h; omega
      · omega
    exact .inr (.inr (by simp [exE, cutE, hk, hv]))
  · cases hv : vld z
    · have hz2 := vld_false hv
      refine .inr (.inl ⟨by simp [exE, hv], by simp [cutE, hk], ?_⟩)
      simp [cutM, hk]; omega
    · have hz2 := vld_iff.1 hv
      refine .inl ⟨by simp [exE, hv], by simp [cutE, hk], ?_, ?_⟩
      · simp only [cutL, hk, exV, hv, if_true]; unfold mx; split <;> omega
      · simp only [cutH, hk, exV, hv, if_true]; unfold mn; split <;> omega

/-- what is known of the quotients of spans -/
def QuoOK (la ua lb ub L U : Int) (m : Bool) (er : Int) : Prop :=
  (er = 0 ∧ (lb ≤ 0 → 0 ≤ ub → m = true) ∧ ∀ x y, la ≤ x ∧ x ≤ ua → lb ≤ y ∧ y ≤ ub → y ≠ 0 → L ≤ x.tdiv y ∧ x.tdiv y ≤ U) ∨ (er = 5 ∧ lb = 0 ∧ ub = 0)
theorem mn_le (x y : Int) : mn x y ≤ x ∧ mn x y ≤ y := by unfold mn; split <;> omega
theorem le_mx (x y : Int) : x ≤ mx x y ∧ y ≤ mx x y := by unfold mx; split <;> omega
theorem squo_any (la ua lb ub : Int) (w : World) (hb : bsp la ua lb ub = true) :
    Calls Try.prog 21 #[spanV la ua, spanV lb ub] w fun e w' => ∃ L U m er, e = .returned (opV L U m er) ∧ QuoOK la ua lb ub L U m er ∧ Below w.heap.size w w' := by
  have HB := Lib.hid hb
  by_cases h1 : lb ≤ -1
  · by_cases h2 : 1 ≤ ub
    · refine (squo_both la ua lb ub w HB h1 h2).mono fun e w' h => ⟨_, _, _, _, h.1, .inl ⟨rfl, fun _ _ => rfl, fun x y hx hy h0 => ?_⟩, h.2⟩
      have a1 := mn_le (low4 (quoF la ua lb (-1))) (low4 (quoF la ua 1 ub))
      have a2 := le_mx (high4 (quoF la ua lb (-1))) (high4 (quoF la ua 1 ub))
      by_cases hn : y ≤ -1
      · have := quo_between (lo := lb) (hi := -1) hx ⟨hy.1, hn⟩ (.inr (by omega)); omega
      · have := quo_between (lo := 1) (hi := ub) hx ⟨by omega, hy.2⟩ (.inl (by omega)); omega
    · by_cases h3 : ub = 0
      · subst h3
        refine (squo_negz la ua lb w HB h1).mono fun e w' h => ⟨_, _, _, _, h.1, .inl ⟨rfl, fun _ _ => rfl, fun x y hx hy h0 => ?_⟩, h.2⟩
        exact quo_between (lo := lb) (hi := -1) hx ⟨hy.1, by omega⟩ (.inr (by omega))
      · refine (squo_neg la ua lb ub w HB (by omega)).mono fun e w' h => ⟨_, _, _, _, h.1, .inl ⟨rfl, fun _ _ => by omega, fun x y hx hy h0 => ?_⟩, h.2⟩
        exact quo_between (lo := lb) (hi := ub) hx hy (.inr (by omega))
  · by_cases h2 : 1 ≤ ub
    · by_cases h3 : lb = 0
      · subst h3
        refine (squo_posz la ua ub w HB h2).mono fun e w' h => ⟨_, _, _, _, h.1, .inl ⟨rfl, fun _ _ => rfl, fun x y hx hy h0 => ?_⟩, h.2⟩
        exact quo_between (lo := 1) (hi := ub) hx ⟨by omega, hy.2⟩ (.inl (by omega))
      · refine (squo_pos la ua lb ub w HB (by omega)).mono fun e w' h => ⟨_, _, _, _, h.1, .inl ⟨rfl, fun _ _ => by omega, fun x y hx hy h0 => ?_⟩, h.2⟩
        exact quo_between (lo := lb) (hi := ub) hx hy (.inl (by omega))
    · have h3 := bsp_iff.1 hb
      obtain rfl : lb = 0 := by omega
      obtain rfl : ub = 0 := by omega
      exact (squo_none la ua w HB).mono fun e w' h => ⟨_, _, _, _, h.1, .inr ⟨rfl, rfl, rfl⟩, h.2⟩
theorem quo_held {la ua lb ub L U : Int} {m : Bool} {er x y : Int} (h : QuoOK la ua lb ub L U m er) (hx : la ≤ x ∧ x ≤ ua) (hy : lb ≤ y ∧ y ≤ ub) (hb : bth x y = true) : HeldOK (quoV x y) (divE x y) L U m er := by
  by_cases h0 : y = 0
  · have e : divE x y = 5 := by rw [h0] at hb ⊢; simp [divE, hb]
    rcases h with ⟨rfl, k, _⟩ | ⟨rfl, _, _⟩
    · exact .inr (.inl ⟨by rw [e]; decide, rfl, k (by omega) (by omega)⟩)
    · exact .inr (.inr ⟨by rw [e]; decide, e.symm⟩)
  · have e : divE x y = 0 := divE_ok.2 ⟨hb, h0⟩
    have q : quoV x y = x.tdiv y := if_pos e
    rcases h with ⟨rfl, _, k⟩ | ⟨rfl, k1, k2⟩
    · exact .inl ⟨e, rfl, by rw [q]; exact (k x y hx hy h0).1, by rw [q]; exact (k x y hx hy h0).2⟩
    · omega

theorem neg_is {a v e : Int} (h : oneV a (-a) = v ∧ oneE a = e) (w : World) :
    Calls Try.prog 11 #[.int .i64 a] w fun e' w' => e' = .returned (pairI v e) ∧ w = w' := by
  obtain ⟨rfl, rfl⟩ := h
  exact neg_any a w
theorem sneg_is {la ua l u e : Int} (h : negL la ua = l ∧ negH la ua = u ∧ negE la ua = e) (w : World) :
    Calls Try.prog 12 #[spanV la ua] w fun e' w' => e' = .returned (spE l u e) ∧ Below w.heap.size w w' := by
  obtain ⟨rfl, rfl, rfl⟩ := h
  exact sneg_any la ua w
theorem scmp_is {la ua lb ub l u e : Int} (h : scmpL la ua lb ub = l ∧ scmpH la ua lb ub = u ∧ joinE la ua lb ub = e) (w : World) :
    Calls Try.prog 23 #[spanV la ua, spanV lb ub] w fun e' w' => e' = .returned (spE l u e) ∧ Below w.heap.size w w' := by
  obtain ⟨rfl, rfl, rfl⟩ := h
  exact scmp_any la ua lb ub w

set_option maxRecDepth 100000 in
set_option maxHeartbeats 3000000 in
theorem bad1 (l0 u0 l1 u1 x y : Int) (w : World)  (HA : Hid (vsp l0 u0 = false)) :
    Calls Try.prog 3 #[spanV l0 u0, spanV l1 u1, .int .i64 x, .int .i64 y] w fun e w' => e = .returned (.bool true) ∧ Below w.heap.size w w' := by
  go_enter Try.func3, Try.ntmps3
  go_wp2_with fail
  refine (wide_any _).mono ?_
  rintro e w1 ⟨rfl, hb1⟩
  have a0_1 : w1.cell? ⟨w.heap.size, 0, none⟩ = some (.int .i64 l0) := carry hb1 (by go_simp)
  have a1_1 : w1.cell? ⟨w.heap.size, 1, none⟩ = some (.int .i64 u0) := carry hb1 (by go_simp)
  have az_1 : w.heap.size < w1.heap.size := by have := hb1.size; first | omega | (simp at this; omega)
  have b0_1 : w1.cell? ⟨w.heap.size + 1, 0, none⟩ = some (.int .i64 l1) := carry hb1 (by go_simp)
  have b1_1 : w1.cell? ⟨w.heap.size + 1, 1, none⟩ = some (.int .i64 u1) := carry hb1 (by go_simp)
  have bz_1 : w.heap.size + 1 < w1.heap.size := by have := hb1.size; first | omega | (simp at this; omega)
  have HB_1 := Lib.hid ((by repeat (first | exact Below.refl _ _ | refine Below.drew ?_ | refine Below.setCell ?_ (by first | omega | (simp; done) | (simp; omega)) _ | refine Below.alloc ?_ (by first | omega | (simp; done) | (simp; omega)) _) : Below w.heap.size w _).trans (hb1.mono (by first | omega | (simp; done) | (simp; omega))))
  have nz_1 : w.heap.size ≤ w1.heap.size := HB_1.out.size
  clear hb1
  go_wp2_with fail
  refine (vspan_is HA.out _).mono ?_
  rintro e w2 ⟨rfl, hb2⟩
  have a0_2 : w2.cell? ⟨w.heap.size, 0, none⟩ = some (.int .i64 l0) := carry hb2 (by go_simp)
  have a1_2 : w2.cell? ⟨w.heap.size, 1, none⟩ = some (.int .i64 u0) := carry hb2 (by go_simp)
  have az_2 : w.heap.size < w2.heap.size := by have := hb2.size; first | omega | (simp at this; omega)
  have b0_2 : w2.cell? ⟨w.heap.size + 1, 0, none⟩ = some (.int .i64 l1) := carry hb2 (by go_simp)
  have b1_2 : w2.cell? ⟨w.heap.size + 1, 1, none⟩ = some (.int .i64 u1) := carry hb2 (by go_simp)
  have bz_2 : w.heap.size + 1 < w2.heap.size := by have := hb2.size; first | omega | (simp at this; omega)
  have HB_2 := Lib.hid ((by repeat (first | exact HB_1.out | refine Below.drew ?_ | refine Below.setCell ?_ (by first | omega | (simp; done) | (simp; omega)) _ | refine Below.alloc ?_ (by first | omega | (simp; done) | (simp; omega)) _) : Below w.heap.size w _).trans (hb2.mono (by first | omega | (simp; done) | (simp; omega))))
  have nz_2 : w.heap.size ≤ w2.heap.size := HB_2.out.size
  clear hb2 a0_1 a1_1 b0_1 b1_1 HB_1
  go_wp2_with fail
  go_ret
  exact ⟨rfl, by repeat (first | exact HB_2.out | refine Below.drew ?_ | refine Below.setCell ?_ (by first | omega | (simp; done) | (simp; omega)) _ | refine Below.alloc ?_ (by first | omega | (simp; done) | (simp; omega)) _)⟩

set_option maxRecDepth 100000 in
set_option maxHeartbeats 3000000 in
theorem bad2 (l0 u0 l1 u1 x y : Int) (w : World) (HA : Hid (vsp l0 u0 = true)) (HB : Hid (vsp l1 u1 = false)) :
    Calls Try.prog 3 #[spanV l0 u0, spanV l1 u1, .int .i64 x, .int .i64 y] w fun e w' => e = .returned (.bool true) ∧ Below w.heap.size w w' := by
  go_enter Try.func3, Try.ntmps3
  go_wp2_with fail
  refine (wide_any _).mono ?_
  rintro e w1 ⟨rfl, hb1⟩
  have a0_1 : w1.cell? ⟨w.heap.size, 0, none⟩ = some (.int .i64 l0) := carry hb1 (by go_simp)
  have a1_1 : w1.cell? ⟨w.heap.size, 1, none⟩ = some (.int .i64 u0) := carry hb1 (by go_simp)
  have az_1 : w.heap.size < w1.heap.size := by have := hb1.size; first | omega | (simp at this; omega)
  have b0_1 : w1.cell? ⟨w.heap.size + 1, 0, none⟩ = some (.int .i64 l1) := carry hb1 (by go_simp)
  have b1_1 : w1.cell? ⟨w.heap.size + 1, 1, none⟩ = some (.int .i64 u1) := carry hb1 (by go_simp)
  have bz_1 : w.heap.size + 1 < w1.heap.size := by have := hb1.size; first | omega | (simp at this; omega)
  have HB_1 := Lib.hid ((by repeat (first | exact Below.refl _ _ | refine Below.drew ?_ | refine Below.setCell ?_ (by first | omega | (simp; done) | (simp; omega)) _ | refine Below.alloc ?_ (by first | omega | (simp; done) | (simp; omega)) _) : Below w.heap.size w _).trans (hb1.mono (by first | omega | (simp; done) | (simp; omega))))
  have nz_1 : w.heap.size ≤ w1.heap.size := HB_1.out.size
  clear hb1
  go_wp2_with fail
  refine (vspan_is HA.out _).mono ?_
  rintro e w2 ⟨rfl, hb2⟩
  have a0_2 : w2.cell? ⟨w.heap.size, 0, none⟩ = some (.int .i64 l0) := carry hb2 (by go_simp)
  have a1_2 : w2.cell? ⟨w.heap.size, 1, none⟩ = some (.int .i64 u0) := carry hb2 (by go_simp)
  have az_2 : w.heap.size < w2.heap.size := by have := hb2.size; first | omega | (simp at this; omega)
  have b0_2 : w2.cell? ⟨w.heap.size + 1, 0, none⟩ = some (.int .i64 l1) := carry hb2 (by go_simp)
  have b1_2 : w2.cell? ⟨w.heap.size + 1, 1, none⟩ = some (.int .i64 u1) := carry hb2 (by go_simp)
  have bz_2 : w.heap.size + 1 < w2.heap.size := by have := hb2.size; first | omega | (simp at this; omega)
  have HB_2 := Lib.hid ((by repeat (first | exact HB_1.out | refine Below.drew ?_ | refine Below.setCell ?_ (by first | omega | (simp; done) | (simp; omega)) _ | refine Below.alloc ?_ (by first | omega | (simp; done) | (simp; omega)) _) : Below w.heap.size w _).trans (hb2.mono (by first | omega | (simp; done) | (simp; omega))))
  have nz_2 : w.heap.size ≤ w2.heap.size := HB_2.out.size
  clear hb2 a0_1 a1_1 b0_1 b1_1 HB_1
  go_wp2_with fail
  refine (vspan_is HB.out _).mono ?_
  rintro e w3 ⟨rfl, hb3⟩
  have a0_3 : w3.cell? ⟨w.heap.size, 0, none⟩ = some (.int .i64 l0) := carry hb3 (by go_simp)
  have a1_3 : w3.cell? ⟨w.heap.size, 1, none⟩ = some (.int .i64 u0) := carry hb3 (by go_simp)
  have az_3 : w.heap.size < w3.heap.size := by have := hb3.size; first | omega | (simp at this; omega)
  have b0_3 : w3.cell? ⟨w.heap.size + 1, 0, none⟩ = some (.int .i64 l1) := carry hb3 (by go_simp)
  have b1_3 : w3.cell? ⟨w.heap.size + 1, 1, none⟩ = some (.int .i64 u1) := carry hb3 (by go_simp)
  have bz_3 : w.heap.size + 1 < w3.heap.size := by have := hb3.size; first | omega | (simp at this; omega)
  have HB_3 := Lib.hid ((by repeat (first | exact HB_2.out | refine Below.drew ?_ | refine Below.setCell ?_ (by first | omega | (simp; done) | (simp; omega)) _ | refine Below.alloc ?_ (by first | omega | (simp; done) | (simp; omega)) _) : Below w.heap.size w _).trans (hb3.mono (by first | omega | (simp; done) | (simp; omega))))
  have nz_3 : w.heap.size ≤ w3.heap.size := HB_3.out.size
  clear hb3 a0_2 a1_2 b0_2 b1_2 HB_2
  go_wp2_with fail
  go_ret
  exact ⟨rfl, by repeat (first | exact HB_3.out | refine Below.drew ?_ | refine Below.setCell ?_ (by first | omega | (simp; done) | (simp; omega)) _ | refine Below.alloc ?_ (by first | omega | (simp; done) | (simp; omega)) _)⟩

set_option maxRecDepth 100000 in
set_option maxHeartbeats 3000000 in
theorem bad3 (l0 u0 l1 u1 x y : Int) (w : World) (HA : Hid (vsp l0 u0 = true)) (HB : Hid (vsp l1 u1 = true)) (HX : Hid ((decide (l0 ≤ x) && decide (x ≤ u0)) = false)) :
    Calls Try.prog 3 #[spanV l0 u0, spanV l1 u1, .int .i64 x, .int .i64 y] w fun e w' => e = .returned (.bool true) ∧ Below w.heap.size w w' := by
  go_enter Try.func3, Try.ntmps3
  go_wp2_with fail
  refine (wide_any _).mono ?_
  rintro e w1 ⟨rfl, hb1⟩
  have a0_1 : w1.cell? ⟨w.heap.size, 0, none⟩ = some (.int .i64 l0) := carry hb1 (by go_simp)
  have a1_1 : w1.cell? ⟨w.heap.size, 1, none⟩ = some (.int .i64 u0) := carry hb1 (by go_simp)
  have az_1 : w.heap.size < w1.heap.size := by have := hb1.size; first | omega | (simp at this; omega)
  have b0_1 : w1.cell? ⟨w.heap.size + 1, 0, none⟩ = some (.int .i64 l1) := carry hb1 (by go_simp)
  have b1_1 : w1.cell? ⟨w.heap.size + 1, 1, none⟩ = some (.int .i64 u1) := carry hb1 (by go_simp)
  have bz_1 : w.heap.size + 1 < w1.heap.size := by have := hb1.size; first | omega | (simp at this; omega)
  have HB_1 := Lib.hid ((by repeat (first | exact Below.refl _ _ | refine Below.drew ?_ | refine Below.setCell ?_ (by first | omega | (simp; done) | (simp; omega)) _ | refine Below.alloc ?_ (by first | omega | (simp; done) | (simp; omega)) _) : Below w.heap.size w _).trans (hb1.mono (by first | omega | (simp; done) | (simp; omega))))
  have nz_1 : w.heap.size ≤ w1.heap.size := HB_1.out.size
  clear hb1
  go_wp2_with fail
  refine (vspan_is HA.out _).mono ?_
  rintro e w2 ⟨rfl, hb2⟩
  have a0_2 : w2.cell? ⟨w.heap.size, 0, none⟩ = some (.int .i64 l0) := carry hb2 (by go_simp)
  have a1_2 : w2.cell? ⟨w.heap.size, 1, none⟩ = some (.int .i64 u0) := carry hb2 (by go_simp)
  have az_2 : w.heap.size < w2.heap.size := by have := hb2.size; first | omega | (simp at this; omega)
  have b0_2 : w2.cell? ⟨w.heap.size + 1, 0, none⟩ = some (.int .i64 l1) := carry hb2 (by go_simp)
  have b1_2 : w2.cell? ⟨w.heap.size + 1, 1, none⟩ = some (.int .i64 u1) := carry hb2 (by go_simp)
  have bz_2 : w.heap.size + 1 < w2.heap.size := by have := hb2.size; first | omega | (simp at this; omega)
  have HB_2 := Lib.hid ((by repeat (first | exact HB_1.out | refine Below.drew ?_ | refine Below.setCell ?_ (by first | omega | (simp; done) | (simp; omega)) _ | refine Below.alloc ?_ (by first | omega | (simp; done) | (simp; omega)) _) : Below w.heap.size w _).trans (hb2.mono (by first | omega | (simp; done) | (simp; omega))))
  have nz_2 : w.heap.size ≤ w2.heap.size := HB_2.out.size
  clear hb2 a0_1 a1_1 b0_1 b1_1 HB_1
  go_wp2_with fail
  refine (vspan_is HB.out _).mono ?_
  rintro e w3 ⟨rfl, hb3⟩
  have a0_3 : w3.cell? ⟨w.heap.size, 0, none⟩ = some (.int .i64 l0) := carry hb3 (by go_simp)
  have a1_3 : w3.cell? ⟨w.heap.size, 1, none⟩ = some (.int .i64 u0) := carry hb3 (by go_simp)
  have az_3 : w.heap.size < w3.heap.size := by have := hb3.size; first | omega | (simp at this; omega)
  have b0_3 : w3.cell? ⟨w.heap.size + 1, 0, none⟩ = some (.int .i64 l1) := carry hb3 (by go_simp)
  have b1_3 : w3.cell? ⟨w.heap.size + 1, 1, none⟩ = some (.int .i64 u1) := carry hb3 (by go_simp)
  have bz_3 : w.heap.size + 1 < w3.heap.size := by have := hb3.size; first | omega | (simp at this; omega)
  have HB_3 := Lib.hid ((by repeat (first | exact HB_2.out | refine Below.drew ?_ | refine Below.setCell ?_ (by first | omega | (simp; done) | (simp; omega)) _ | refine Below.alloc ?_ (by first | omega | (simp; done) | (simp; omega)) _) : Below w.heap.size w _).trans (hb3.mono (by first | omega | (simp; done) | (simp; omega))))
  have nz_3 : w.heap.size ≤ w3.heap.size := HB_3.out.size
  clear hb3 a0_2 a1_2 b0_2 b1_2 HB_2
  go_wp2_with fail
  refine (rin_is HX.out _).mono ?_
  rintro e w4 ⟨rfl, hb4⟩
  have a0_4 : w4.cell? ⟨w.heap.size, 0, none⟩ = some (.int .i64 l0) := carry hb4 (by go_simp)
  have a1_4 : w4.cell? ⟨w.heap.size, 1, none⟩ = some (.int .i64 u0) := carry hb4 (by go_simp)
  have az_4 : w.heap.size < w4.heap.size := by have := hb4.size; first | omega | (simp at this; omega)
  have b0_4 : w4.cell? ⟨w.heap.size + 1, 0, none⟩ = some (.int .i64 l1) := carry hb4 (by go_simp)
  have b1_4 : w4.cell? ⟨w.heap.size + 1, 1, none⟩ = some (.int .i64 u1) := carry hb4 (by go_simp)
  have bz_4 : w.heap.size + 1 < w4.heap.size := by have := hb4.size; first | omega | (simp at this; omega)
  have HB_4 := Lib.hid ((by repeat (first | exact HB_3.out | refine Below.drew ?_ | refine Below.setCell ?_ (by first | omega | (simp; done) | (simp; omega)) _ | refine Below.alloc ?_ (by first | omega | (simp; done) | (simp; omega)) _) : Below w.heap.size w _).trans (hb4.mono (by first | omega | (simp; done) | (simp; omega))))
  have nz_4 : w.heap.size ≤ w4.heap.size := HB_4.out.size
  clear hb4 a0_3 a1_3 b0_3 b1_3 HB_3
  go_wp2_with fail
  go_ret
  exact ⟨rfl, by repeat (first | exact HB_4.out | refine Below.drew ?_ | refine Below.setCell ?_ (by first | omega | (simp; done) | (simp; omega)) _ | refine Below.alloc ?_ (by first | omega | (simp; done) | (simp; omega)) _)⟩

set_option maxRecDepth 100000 in
set_option maxHeartbeats 3000000 in
theorem bad4 (l0 u0 l1 u1 x y : Int) (w : World) (HA : Hid (vsp l0 u0 = true)) (HB : Hid (vsp l1 u1 = true)) (HX : Hid ((decide (l0 ≤ x) && decide (x ≤ u0)) = true)) (HY : Hid ((decide (l1 ≤ y) && decide (y ≤ u1)) = false)) :
    Calls Try.prog 3 #[spanV l0 u0, spanV l1 u1, .int .i64 x, .int .i64 y] w fun e w' => e = .returned (.bool true) ∧ Below w.heap.size w w' := by
  go_enter Try.func3, Try.ntmps3
  go_wp2_with fail
  refine (wide_any _).mono ?_
  rintro e w1 ⟨rfl, hb1⟩
  have a0_1 : w1.cell? ⟨w.heap.size, 0, none⟩ = some (.int .i64 l0) := carry hb1 (by go_simp)
  have a1_1 : w1.cell? ⟨w.heap.size, 1, none⟩ = some (.int .i64 u0) := carry hb1 (by go_simp)
  have az_1 : w.heap.size < w1.heap.size := by have := hb1.size; first | omega | (simp at this; omega)
  have b0_1 : w1.cell? ⟨w.heap.size + 1, 0, none⟩ = some (.int .i64 l1) := carry hb1 (by go_simp)
  have b1_1 : w1.cell? ⟨w.heap.size + 1, 1, none⟩ = some (.int .i64 u1) := carry hb1 (by go_simp)
  have bz_1 : w.heap.size + 1 < w1.heap.size := by have := hb1.size; first | omega | (simp at this; omega)
  have HB_1 := Lib.hid ((by repeat (first | exact Below.refl _ _ | refine Below.drew ?_ | refine Below.setCell ?_ (by first | omega | (simp; done) | (simp; omega)) _ | refine Below.alloc ?_ (by first | omega | (simp; done) | (simp; omega)) _) : Below w.heap.size w _).trans (hb1.mono (by first | omega | (simp; done) | (simp; omega))))
  have nz_1 : w.heap.size ≤ w1.heap.size := HB_1.out.size
  clear hb1
  go_wp2_with fail
  refine (vspan_is HA.out _).mono ?_
  rintro e w2 ⟨rfl, hb2⟩
  have a0_2 : w2.cell? ⟨w.heap.size, 0, none⟩ = some (.int .i64 l0) := carry hb2 (by go_simp)
  have a1_2 : w2.cell? ⟨w.heap.size, 1, none⟩ = some (.int .i64 u0) := carry hb2 (by go_simp)
  have az_2 : w.heap.size < w2.heap.size := by have := hb2.size; first | omega | (simp at this; omega)
  have b0_2 : w2.cell? ⟨w.heap.size + 1, 0, none⟩ = some (.int .i64 l1) := carry hb2 (by go_simp)
  have b1_2 : w2.cell? ⟨w.heap.size + 1, 1, none⟩ = some (.int .i64 u1) := carry hb2 (by go_simp)
  have bz_2 : w.heap.size + 1 < w2.heap.size := by have := hb2.size; first | omega | (simp at this; omega)
  have HB_2 := Lib.hid ((by repeat (first | exact HB_1.out | refine Below.drew ?_ | refine Below.setCell ?_ (by first | omega | (simp; done) | (simp; omega)) _ | refine Below.alloc ?_ (by first | omega | (simp; done) | (simp; omega)) _) : Below w.heap.size w _).trans (hb2.mono (by first | omega | (simp; done) | (simp; omega))))
  have nz_2 : w.heap.size ≤ w2.heap.size := HB_2.out.size
  clear hb2 a0_1 a1_1 b0_1 b1_1 HB_1
  go_wp2_with fail
  refine (vspan_is HB.out _).mono ?_
  rintro e w3 ⟨rfl, hb3⟩
  have a0_3 : w3.cell? ⟨w.heap.size, 0, none⟩ = some (.int .i64 l0) := carry hb3 (by go_simp)
  have a1_3 : w3.cell? ⟨w.heap.size, 1, none⟩ = some (.int .i64 u0) := carry hb3 (by go_simp)
  have az_3 : w.heap.size < w3.heap.size := by have := hb3.size; first | omega | (simp at this; omega)
  have b0_3 : w3.cell? ⟨w.heap.size + 1, 0, none⟩ = some (.int .i64 l1) := carry hb3 (by go_simp)
  have b1_3 : w3.cell? ⟨w.heap.size + 1, 1, none⟩ = some (.int .i64 u1) := carry hb3 (by go_simp)
  have bz_3 : w.heap.size + 1 < w3.heap.size := by have := hb3.size; first | omega | (simp at this; omega)
  have HB_3 := Lib.hid ((by repeat (first | exact HB_2.out | refine Below.drew ?_ | refine Below.setCell ?_ (by first | omega | (simp; done) | (simp; omega)) _ | refine Below.alloc ?_ (by first | omega | (simp; done) | (simp; omega)) _) : Below w.heap.size w _).trans (hb3.mono (by first | omega | (simp; done) | (simp; omega))))
  have nz_3 : w.heap.size ≤ w3.heap.size := HB_3.out.size
  clear hb3 a0_2 a1_2 b0_2 b1_2 HB_2
  go_wp2_with fail
  refine (rin_is HX.out _).mono ?_
  rintro e w4 ⟨rfl, hb4⟩
  have a0_4 : w4.cell? ⟨w.heap.size, 0, none⟩ = some (.int .i64 l0) := carry hb4 (by go_simp)
  have a1_4 : w4.cell? ⟨w.heap.size, 1, none⟩ = some (.int .i64 u0) := carry hb4 (by go_simp)
  have az_4 : w.heap.size < w4.heap.size := by have := hb4.size; first | omega | (simp at this; omega)
  have b0_4 : w4.cell? ⟨w.heap.size + 1, 0, none⟩ = some (.int .i64 l1) := carry hb4 (by go_simp)
  have b1_4 : w4.cell? ⟨w.heap.size + 1, 1, none⟩ = some (.int .i64 u1) := carry hb4 (by go_simp)
  have bz_4 : w.heap.size + 1 < w4.heap.size := by have := hb4.size; first | omega | (simp at this; omega)
  have HB_4 := Lib.hid ((by repeat (first | exact HB_3.out | refine Below.drew ?_ | refine Below.setCell ?_ (by first | omega | (simp; done) | (simp; omega)) _ | refine Below.alloc ?_ (by first | omega | (simp; done) | (simp; omega)) _) : Below w.heap.size w _).trans (hb4.mono (by first | omega | (simp; done) | (simp; omega))))
  have nz_4 : w.heap.size ≤ w4.heap.size := HB_4.out.size
  clear hb4 a0_3 a1_3 b0_3 b1_3 HB_3
  go_wp2_with fail
  refine (rin_is HY.out _).mono ?_
  rintro e w5 ⟨rfl, hb5⟩
  have a0_5 : w5.cell? ⟨w.heap.size, 0, none⟩ = some (.int .i64 l0) := carry hb5 (by go_simp)
  have a1_5 : w5.cell? ⟨w.heap.size, 1, none⟩ = some (.int .i64 u0) := carry hb5 (by go_simp)
  have az_5 : w.heap.size < w5.heap.size := by have := hb5.size; first | omega | (simp at this; omega)
  have b0_5 : w5.cell? ⟨w.heap.size + 1, 0, none⟩ = some (.int .i64 l1) := carry hb5 (by go_simp)
  have b1_5 : w5.cell? ⟨w.heap.size + 1, 1, none⟩ = some (.int .i64 u1) := carry hb5 (by go_simp)
  have bz_5 : w.heap.size + 1 < w5.heap.size := by have := hb5.size; first | omega | (simp at this; omega)
  have HB_5 := Lib.hid ((by repeat (first | exact HB_4.out | refine Below.drew ?_ | refine Below.setCell ?_ (by first | omega | (simp; done) | (simp; omega)) _ | refine Below.alloc ?_ (by first | omega | (simp; done) | (simp; omega)) _) : Below w.heap.size w _).trans (hb5.mono (by first | omega | (simp; done) | (simp; omega))))
  have nz_5 : w.heap.size ≤ w5.heap.size := HB_5.out.size
  clear hb5 a0_4 a1_4 b0_4 b1_4 HB_4
  go_wp2_with fail
  go_ret
  exact ⟨rfl, by repeat (first | exact HB_5.out | refine Below.drew ?_ | refine Below.setCell ?_ (by first | omega | (simp; done) | (simp; omega)) _ | refine Below.alloc ?_ (by first | omega | (simp; done) | (simp; omega)) _)⟩

set_option maxRecDepth 100000 in
set_option maxHeartbeats 3000000 in
theorem main (l0 u0 l1 u1 x y : Int) (w : World) (HA : Hid (vsp l0 u0 = true)) (HB : Hid (vsp l1 u1 = true)) (HX : Hid ((decide (l0 ≤ x) && decide (x ≤ u0)) = true)) (HY : Hid ((decide (l1 ≤ y) && decide (y ≤ u1)) = true)) (Hadd : Hid (HeldOK (addV x y) (addE x y) (opL l0 u0 l1 u1 (addF l0 u0 l1 u1)) (opH l0 u0 l1 u1 (addF l0 u0 l1 u1)) (opM l0 u0 l1 u1 (addF l0 u0 l1 u1)) (opE l0 u0 l1 u1 (addF l0 u0 l1 u1)))) (Hsub : Hid (HeldOK (subV x y) (subE x y) (opL l0 u0 l1 u1 (subF l0 u0 l1 u1)) (opH l0 u0 l1 u1 (subF l0 u0 l1 u1)) (opM l0 u0 l1 u1 (subF l0 u0 l1 u1)) (opE l0 u0 l1 u1 (subF l0 u0 l1 u1)))) (Hmul : Hid (HeldOK (mulV x y) (mulE x y) (opL l0 u0 l1 u1 (mulF l0 u0 l1 u1)) (opH l0 u0 l1 u1 (mulF l0 u0 l1 u1)) (opM l0 u0 l1 u1 (mulF l0 u0 l1 u1)) (opE l0 u0 l1 u1 (mulF l0 u0 l1 u1)))) (HN : Hid (oneV x (-x) = -x ∧ oneE x = 0)) (HSN : Hid (negL l0 u0 = -u0 ∧ negH l0 u0 = -l0 ∧ negE l0 u0 = 0)) (HNI : Hid ((decide (-u0 ≤ -x) && decide (-x ≤ -l0)) = true)) (HBS : Hid (bsp l0 u0 l1 u1 = true)) (HXY : Hid ((l0 ≤ x ∧ x ≤ u0) ∧ (l1 ≤ y ∧ y ≤ u1) ∧ bth x y = true)) (HC : Hid (cmpV x y = cmp3 x y ∧ cmpE x y = 0)) (HSC : Hid (scmpL l0 u0 l1 u1 = low4 (cmpF l0 u0 l1 u1) ∧ scmpH l0 u0 l1 u1 = high4 (cmpF l0 u0 l1 u1) ∧ joinE l0 u0 l1 u1 = 0)) (HCI : Hid ((decide (low4 (cmpF l0 u0 l1 u1) ≤ cmp3 x y) && decide (cmp3 x y ≤ high4 (cmpF l0 u0 l1 u1))) = true)) :
    Calls Try.prog 3 #[spanV l0 u0, spanV l1 u1, .int .i64 x, .int .i64 y] w fun e w' => e = .returned (.bool true) ∧ Below w.heap.size w w' := by
  go_enter Try.func3, Try.ntmps3
  go_wp2_with fail
  refine (wide_any _).mono ?_
  rintro e w1 ⟨rfl, hb1⟩
  have a0_1 : w1.cell? ⟨w.heap.size, 0, none⟩ = some (.int .i64 l0) := carry hb1 (by go_simp)
  have a1_1 : w1.cell? ⟨w.heap.size, 1, none⟩ = some (.int .i64 u0) := carry hb1 (by go_simp)
  have az_1 : w.heap.size < w1.heap.size := by have := hb1.size; first | omega | (simp at this; omega)
  have b0_1 : w1.cell? ⟨w.heap.size + 1, 0, none⟩ = some (.int .i64 l1) := carry hb1 (by go_simp)
  have b1_1 : w1.cell? ⟨w.heap.size + 1, 1, none⟩ = some (.int .i64 u1) := carry hb1 (by go_simp)
  have bz_1 : w.heap.size + 1 < w1.heap.size := by have := hb1.size; first | omega | (simp at this; omega)
  have HB_1 := Lib.hid ((by repeat (first | exact Below.refl _ _ | refine Below.drew ?_ | refine Below.setCell ?_ (by first | omega | (simp; done) | (simp; omega)) _ | refine Below.alloc ?_ (by first | omega | (simp; done) | (simp; omega)) _) : Below w.heap.size w _).trans (hb1.mono (by first | omega | (simp; done) | (simp; omega))))
  have nz_1 : w.heap.size ≤ w1.heap.size := HB_1.out.size
  clear hb1
  go_wp2_with fail
  refine (vspan_is HA.out _).mono ?_
  rintro e w2 ⟨rfl, hb2⟩
  have a0_2 : w2.cell? ⟨w.heap.size, 0, none⟩ = some (.int .i64 l0) := carry hb2 (by go_simp)
  have a1_2 : w2.cell? ⟨w.heap.size, 1, none⟩ = some (.int .i64 u0) := carry hb2 (by go_simp)
  have az_2 : w.heap.size < w2.heap.size := by have := hb2.size; first | omega | (simp at this; omega)
  have b0_2 : w2.cell? ⟨w.heap.size + 1, 0, none⟩ = some (.int .i64 l1) := carry hb2 (by go_simp)
  have b1_2 : w2.cell? ⟨w.heap.size + 1, 1, none⟩ = some (.int .i64 u1) := carry hb2 (by go_simp)
  have bz_2 : w.heap.size + 1 < w2.heap.size := by have := hb2.size; first | omega | (simp at this; omega)
  have HB_2 := Lib.hid ((by repeat (first | exact HB_1.out | refine Below.drew ?_ | refine Below.setCell ?_ (by first | omega | (simp; done) | (simp; omega)) _ | refine Below.alloc ?_ (by first | omega | (simp; done) | (simp; omega)) _) : Below w.heap.size w _).trans (hb2.mono (by first | omega | (simp; done) | (simp; omega))))
  have nz_2 : w.heap.size ≤ w2.heap.size := HB_2.out.size
  clear hb2 a0_1 a1_1 b0_1 b1_1 HB_1
  go_wp2_with fail
  refine (vspan_is HB.out _).mono ?_
  rintro e w3 ⟨rfl, hb3⟩
  have a0_3 : w3.cell? ⟨w.heap.size, 0, none⟩ = some (.int .i64 l0) := carry hb3 (by go_simp)
  have a1_3 : w3.cell? ⟨w.heap.size, 1, none⟩ = some (.int .i64 u0) := carry hb3 (by go_simp)
  have az_3 : w.heap.size < w3.heap.size := by have := hb3.size; first | omega | (simp at this; omega)
  have b0_3 : w3.cell? ⟨w.heap.size + 1, 0, none⟩ = some (.int .i64 l1) := carry hb3 (by go_simp)
  have b1_3 : w3.cell? ⟨w.heap.size + 1, 1, none⟩ = some (.int .i64 u1) := carry hb3 (by go_simp)
  have bz_3 : w.heap.size + 1 < w3.heap.size := by have := hb3.size; first | omega | (simp at this; omega)
  have HB_3 := Lib.hid ((by repeat (first | exact HB_2.out | refine Below.drew ?_ | refine Below.setCell ?_ (by first | omega | (simp; done) | (simp; omega)) _ | refine Below.alloc ?_ (by first | omega | (simp; done) | (simp; omega)) _) : Below w.heap.size w _).trans (hb3.mono (by first | omega | (simp; done) | (simp; omega))))
  have nz_3 : w.heap.size ≤ w3.heap.size := HB_3.out.size
  clear hb3 a0_2 a1_2 b0_2 b1_2 HB_2
  go_wp2_with fail
  refine (rin_is HX.out _).mono ?_
  rintro e w4 ⟨rfl, hb4⟩
  have a0_4 : w4.cell? ⟨w.heap.size, 0, none⟩ = some (.int .i64 l0) := carry hb4 (by go_simp)
  have a1_4 : w4.cell? ⟨w.heap.size, 1, none⟩ = some (.int .i64 u0) := carry hb4 (by go_simp)
  have az_4 : w.heap.size < w4.heap.size := by have := hb4.size; first | omega | (simp at this; omega)
  have b0_4 : w4.cell? ⟨w.heap.size + 1, 0, none⟩ = some (.int .i64 l1) := carry hb4 (by go_simp)
  have b1_4 : w4.cell? ⟨w.heap.size + 1, 1, none⟩ = some (.int .i64 u1) := carry hb4 (by go_simp)
  have bz_4 : w.heap.size + 1 < w4.heap.size := by have := hb4.size; first | omega | (simp at this; omega)
  have HB_4 := Lib.hid ((by repeat (first | exact HB_3.out | refine Below.drew ?_ | refine Below.setCell ?_ (by first | omega | (simp; done) | (simp; omega)) _ | refine Below.alloc ?_ (by first | omega | (simp; done) | (simp; omega)) _) : Below w.heap.size w _).trans (hb4.mono (by first | omega | (simp; done) | (simp; omega))))
  have nz_4 : w.heap.size ≤ w4.heap.size := HB_4.out.size
  clear hb4 a0_3 a1_3 b0_3 b1_3 HB_3
  go_wp2_with fail
  refine (rin_is HY.out _).mono ?_
  rintro e w5 ⟨rfl, hb5⟩
  have a0_5 : w5.cell? ⟨w.heap.size, 0, none⟩ = some (.int .i64 l0) := carry hb5 (by go_simp)
  have a1_5 : w5.cell? ⟨w.heap.size, 1, none⟩ = some (.int .i64 u0) := carry hb5 (by go_simp)
  have az_5 : w.heap.size < w5.heap.size := by have := hb5.size; first | omega | (simp at this; omega)
  have b0_5 : w5.cell? ⟨w.heap.size + 1, 0, none⟩ = some (.int .i64 l1) := carry hb5 (by go_simp)
  have b1_5 : w5.cell? ⟨w.heap.size + 1, 1, none⟩ = some (.int .i64 u1) := carry hb5 (by go_simp)
  have bz_5 : w.heap.size + 1 < w5.heap.size := by have := hb5.size; first | omega | (simp at this; omega)
  have HB_5 := Lib.hid ((by repeat (first | exact HB_4.out | refine Below.drew ?_ | refine Below.setCell ?_ (by first | omega | (simp; done) | (simp; omega)) _ | refine Below.alloc ?_ (by first | omega | (simp; done) | (simp; omega)) _) : Below w.heap.size w _).trans (hb5.mono (by first | omega | (simp; done) | (simp; omega))))
  have nz_5 : w.heap.size ≤ w5.heap.size := HB_5.out.size
  clear hb5 a0_4 a1_4 b0_4 b1_4 HB_4
  go_wp2_with fail
  refine (neg_is HN.out _).mono ?_
  rintro e w' ⟨rfl, rfl⟩
  go_wp2_with fail
  refine (sneg_is HSN.out _).mono ?_
  rintro e w6 ⟨rfl, hb6⟩
  have a0_6 : w6.cell? ⟨w.heap.size, 0, none⟩ = some (.int .i64 l0) := carry hb6 (by go_simp)
  have a1_6 : w6.cell? ⟨w.heap.size, 1, none⟩ = some (.int .i64 u0) := carry hb6 (by go_simp)
  have az_6 : w.heap.size < w6.heap.size := by have := hb6.size; first | omega | (simp at this; omega)
  have b0_6 : w6.cell? ⟨w.heap.size + 1, 0, none⟩ = some (.int .i64 l1) := carry hb6 (by go_simp)
  have b1_6 : w6.cell? ⟨w.heap.size + 1, 1, none⟩ = some (.int .i64 u1) := carry hb6 (by go_simp)
  have bz_6 : w.heap.size + 1 < w6.heap.size := by have := hb6.size; first | omega | (simp at this; omega)
  have HB_6 := Lib.hid ((by repeat (first | exact HB_5.out | refine Below.drew ?_ | refine Below.setCell ?_ (by first | omega | (simp; done) | (simp; omega)) _ | refine Below.alloc ?_ (by first | omega | (simp; done) | (simp; omega)) _) : Below w.heap.size w _).trans (hb6.mono (by first | omega | (simp; done) | (simp; omega))))
  have nz_6 : w.heap.size ≤ w6.heap.size := HB_6.out.size
  clear hb6 a0_5 a1_5 b0_5 b1_5 HB_5
  go_wp2_with fail
  refine (rin_is HNI.out _).mono ?_
  rintro e w7 ⟨rfl, hb7⟩
  have a0_7 : w7.cell? ⟨w.heap.size, 0, none⟩ = some (.int .i64 l0) := carry hb7 (by go_simp)
  have a1_7 : w7.cell? ⟨w.heap.size, 1, none⟩ = some (.int .i64 u0) := carry hb7 (by go_simp)
  have az_7 : w.heap.size < w7.heap.size := by have := hb7.size; first | omega | (simp at this; omega)
  have b0_7 : w7.cell? ⟨w.heap.size + 1, 0, none⟩ = some (.int .i64 l1) := carry hb7 (by go_simp)
  have b1_7 : w7.cell? ⟨w.heap.size + 1, 1, none⟩ = some (.int .i64 u1) := carry hb7 (by go_simp)
  have bz_7 : w.heap.size + 1 < w7.heap.size := by have := hb7.size; first | omega | (simp at this; omega)
  have s0_7 : w7.cell? ⟨w6.heap.size, 0, none⟩ = some (.int .i64 (-u0)) := carry hb7 (by go_simp)
  have sf0_7 : w7.frozen? ⟨w6.heap.size, 0, none⟩ = false := carryF hb7 (v := .int .i64 (-u0)) (by go_simp) (by go_simp)
  have s1_7 : w7.cell? ⟨w6.heap.size, 1, none⟩ = some (.int .i64 (-l0)) := carry hb7 (by go_simp)
  have sf1_7 : w7.frozen? ⟨w6.heap.size, 1, none⟩ = false := carryF hb7 (v := .int .i64 (-l0)) (by go_simp) (by go_simp)
  have sz_7 : w6.heap.size < w7.heap.size := by have := hb7.size; first | omega | (simp at this; omega)
  have HB_7 := Lib.hid ((by repeat (first | exact HB_6.out | refine Below.drew ?_ | refine Below.setCell ?_ (by first | omega | (simp; done) | (simp; omega)) _ | refine Below.alloc ?_ (by first | omega | (simp; done) | (simp; omega)) _) : Below w.heap.size w _).trans (hb7.mono (by first | omega | (simp; done) | (simp; omega))))
  have nz_7 : w.heap.size ≤ w7.heap.size := HB_7.out.size
  clear hb7 a0_6 a1_6 b0_6 b1_6 HB_6
  go_wp2_with fail
  refine (add_any _ _ _).mono ?_
  rintro e w' ⟨rfl, rfl⟩
  go_wp2_with fail
  refine (sadd_any _ _ _ _ _).mono ?_
  rintro e w8 ⟨rfl, hb8⟩
  have a0_8 : w8.cell? ⟨w.heap.size, 0, none⟩ = some (.int .i64 l0) := carry hb8 (by go_simp)
  have a1_8 : w8.cell? ⟨w.heap.size, 1, none⟩ = some (.int .i64 u0) := carry hb8 (by go_simp)
  have az_8 : w.heap.size < w8.heap.size := by have := hb8.size; first | omega | (simp at this; omega)
  have b0_8 : w8.cell? ⟨w.heap.size + 1, 0, none⟩ = some (.int .i64 l1) := carry hb8 (by go_simp)
  have b1_8 : w8.cell? ⟨w.heap.size + 1, 1, none⟩ = some (.int .i64 u1) := carry hb8 (by go_simp)
  have bz_8 : w.heap.size + 1 < w8.heap.size := by have := hb8.size; first | omega | (simp at this; omega)
  have s0_8 : w8.cell? ⟨w6.heap.size, 0, none⟩ = some (.int .i64 (-u0)) := carry hb8 (by go_simp)
  have sf0_8 : w8.frozen? ⟨w6.heap.size, 0, none⟩ = false := carryF hb8 (v := .int .i64 (-u0)) (by go_simp) (by go_simp)
  have s1_8 : w8.cell? ⟨w6.heap.size, 1, none⟩ = some (.int .i64 (-l0)) := carry hb8 (by go_simp)
  have sf1_8 : w8.frozen? ⟨w6.heap.size, 1, none⟩ = false := carryF hb8 (v := .int .i64 (-l0)) (by go_simp) (by go_simp)
  have sz_8 : w6.heap.size < w8.heap.size := by have := hb8.size; first | omega | (simp at this; omega)
  have HB_8 := Lib.hid ((by repeat (first | exact HB_7.out | refine Below.drew ?_ | refine Below.setCell ?_ (by first | omega | (simp; done) | (simp; omega)) _ | refine Below.alloc ?_ (by first | omega | (simp; done) | (simp; omega)) _) : Below w.heap.size w _).trans (hb8.mono (by first | omega | (simp; done) | (simp; omega))))
  have nz_8 : w.heap.size ≤ w8.heap.size := HB_8.out.size
  clear hb8 a0_7 a1_7 b0_7 b1_7 s0_7 sf0_7 s1_7 sf1_7 HB_7
  go_wp2_with fail
  refine (held_any _ _ _ _ _ _ _ Hadd.out).mono ?_
  rintro e w9 ⟨rfl, hb9⟩
  have a0_9 : w9.cell? ⟨w.heap.size, 0, none⟩ = some (.int .i64 l0) := carry hb9 (by go_simp)
  have a1_9 : w9.cell? ⟨w.heap.size, 1, none⟩ = some (.int .i64 u0) := carry hb9 (by go_simp)
  have az_9 : w.heap.size < w9.heap.size := by have := hb9.size; first | omega | (simp at this; omega)
  have b0_9 : w9.cell? ⟨w.heap.size + 1, 0, none⟩ = some (.int .i64 l1) := carry hb9 (by go_simp)
  have b1_9 : w9.cell? ⟨w.heap.size + 1, 1, none⟩ = some (.int .i64 u1) := carry hb9 (by go_simp)
  have bz_9 : w.heap.size + 1 < w9.heap.size := by have := hb9.size; first | omega | (simp at this; omega)
  have s0_9 : w9.cell? ⟨w6.heap.size, 0, none⟩ = some (.int .i64 (opL l0 u0 l1 u1 (addF l0 u0 l1 u1))) := carry hb9 (by go_simp)
  have sf0_9 : w9.frozen? ⟨w6.heap.size, 0, none⟩ = false := carryF hb9 (v := .int .i64 (opL l0 u0 l1 u1 (addF l0 u0 l1 u1))) (by go_simp) (by go_simp)
  have s1_9 : w9.cell? ⟨w6.heap.size, 1, none⟩ = some (.int .i64 (opH l0 u0 l1 u1 (addF l0 u0 l1 u1))) := carry hb9 (by go_simp)
  have sf1_9 : w9.frozen? ⟨w6.heap.size, 1, none⟩ = false := carryF hb9 (v := .int .i64 (opH l0 u0 l1 u1 (addF l0 u0 l1 u1))) (by go_simp) (by go_simp)
  have sz_9 : w6.heap.size < w9.heap.size := by have := hb9.size; first | omega | (simp at this; omega)
  have HB_9 := Lib.hid ((by repeat (first | exact HB_8.out | refine Below.drew ?_ | refine Below.setCell ?_ (by first | omega | (simp; done) | (simp; omega)) _ | refine Below.alloc ?_ (by first | omega | (simp; done) | (simp; omega)) _) : Below w.heap.size w _).trans (hb9.mono (by first | omega | (simp; done) | (simp; omega))))
  have nz_9 : w.heap.size ≤ w9.heap.size := HB_9.out.size
  clear hb9 a0_8 a1_8 b0_8 b1_8 s0_8 sf0_8 s1_8 sf1_8 HB_8
  go_wp2_with fail
  refine (sub_any _ _ _).mono ?_
  rintro e w' ⟨rfl, rfl⟩
  go_wp2_with fail
  refine (ssub_any _ _ _ _ _).mono ?_
  rintro e w10 ⟨rfl, hb10⟩
  have a0_10 : w10.cell? ⟨w.heap.size, 0, none⟩ = some (.int .i64 l0) := carry hb10 (by go_simp)
  have a1_10 : w10.cell? ⟨w.heap.size, 1, none⟩ = some (.int .i64 u0) := carry hb10 (by go_simp)
  have az_10 : w.heap.size < w10.heap.size := by have := hb10.size; first | omega | (simp at this; omega)
  have b0_10 : w10.cell? ⟨w.heap.size + 1, 0, none⟩ = some (.int .i64 l1) := carry hb10 (by go_simp)
  have b1_10 : w10.cell? ⟨w.heap.size + 1, 1, none⟩ = some (.int .i64 u1) := carry hb10 (by go_simp)
  have bz_10 : w.heap.size + 1 < w10.heap.size := by have := hb10.size; first | omega | (simp at this; omega)
  have s0_10 : w10.cell? ⟨w6.heap.size, 0, none⟩ = some (.int .i64 (opL l0 u0 l1 u1 (addF l0 u0 l1 u1))) := carry hb10 (by go_simp)
  have sf0_10 : w10.frozen? ⟨w6.heap.size, 0, none⟩ = false := carryF hb10 (v := .int .i64 (opL l0 u0 l1 u1 (addF l0 u0 l1 u1))) (by go_simp) (by go_simp)
  have s1_10 : w10.cell? ⟨w6.heap.size, 1, none⟩ = some (.int .i64 (opH l0 u0 l1 u1 (addF l0 u0 l1 u1))) := carry hb10 (by go_simp)
  have sf1_10 : w10.frozen? ⟨w6.heap.size, 1, none⟩ = false := carryF hb10 (v := .int .i64 (opH l0 u0 l1 u1 (addF l0 u0 l1 u1))) (by go_simp) (by go_simp)
  have sz_10 : w6.heap.size < w10.heap.size := by have := hb10.size; first | omega | (simp at this; omega)
  have HB_10 := Lib.hid ((by repeat (first | exact HB_9.out | refine Below.drew ?_ | refine Below.setCell ?_ (by first | omega | (simp; done) | (simp; omega)) _ | refine Below.alloc ?_ (by first | omega | (simp; done) | (simp; omega)) _) : Below w.heap.size w _).trans (hb10.mono (by first | omega | (simp; done) | (simp; omega))))
  have nz_10 : w.heap.size ≤ w10.heap.size := HB_10.out.size
  clear hb10 a0_9 a1_9 b0_9 b1_9 s0_9 sf0_9 s1_9 sf1_9 HB_9
  go_wp2_with fail
  refine (held_any _ _ _ _ _ _ _ Hsub.out).mono ?_
  rintro e w11 ⟨rfl, hb11⟩
  have a0_11 : w11.cell? ⟨w.heap.size, 0, none⟩ = some (.int .i64 l0) := carry hb11 (by go_simp)
  have a1_11 : w11.cell? ⟨w.heap.size, 1, none⟩ = some (.int .i64 u0) := carry hb11 (by go_simp)
  have az_11 : w.heap.size < w11.heap.size := by have := hb11.size; first | omega | (simp at this; omega)
  have b0_11 : w11.cell? ⟨w.heap.size + 1, 0, none⟩ = some (.int .i64 l1) := carry hb11 (by go_simp)
  have b1_11 : w11.cell? ⟨w.heap.size + 1, 1, none⟩ = some (.int .i64 u1) := carry hb11 (by go_simp)
  have bz_11 : w.heap.size + 1 < w11.heap.size := by have := hb11.size; first | omega | (simp at this; omega)
  have s0_11 : w11.cell? ⟨w6.heap.size, 0, none⟩ = some (.int .i64 (opL l0 u0 l1 u1 (subF l0 u0 l1 u1))) := carry hb11 (by go_simp)
  have sf0_11 : w11.frozen? ⟨w6.heap.size, 0, none⟩ = false := carryF hb11 (v := .int .i64 (opL l0 u0 l1 u1 (subF l0 u0 l1 u1))) (by go_simp) (by go_simp)
  have s1_11 : w11.cell? ⟨w6.heap.size, 1, none⟩ = some (.int .i64 (opH l0 u0 l1 u1 (subF l0 u0 l1 u1))) := carry hb11 (by go_simp)
  have sf1_11 : w11.frozen? ⟨w6.heap.size, 1, none⟩ = false := carryF hb11 (v := .int .i64 (opH l0 u0 l1 u1 (subF l0 u0 l1 u1))) (by go_simp) (by go_simp)
  have sz_11 : w6.heap.size < w11.heap.size := by have := hb11.size; first | omega | (simp at this; omega)
  have HB_11 := Lib.hid ((by repeat (first | exact HB_10.out | refine Below.drew ?_ | refine Below.setCell ?_ (by first | omega | (simp; done) | (simp; omega)) _ | refine Below.alloc ?_ (by first | omega | (simp; done) | (simp; omega)) _) : Below w.heap.size w _).trans (hb11.mono (by first | omega | (simp; done) | (simp; omega))))
  have nz_11 : w.heap.size ≤ w11.heap.size := HB_11.out.size
  clear hb11 a0_10 a1_10 b0_10 b1_10 s0_10 sf0_10 s1_10 sf1_10 HB_10
  go_wp2_with fail
  refine (mul_any _ _ _).mono ?_
  rintro e w' ⟨rfl, rfl⟩
  go_wp2_with fail
  refine (smul_any _ _ _ _ _).mono ?_
  rintro e w12 ⟨rfl, hb12⟩
  have a0_12 : w12.cell? ⟨w.heap.size, 0, none⟩ = some (.int .i64 l0) := carry hb12 (by go_simp)
  have a1_12 : w12.cell? ⟨w.heap.size, 1, none⟩ = some (.int .i64 u0) := carry hb12 (by go_simp)
  have az_12 : w.heap.size < w12.heap.size := by have := hb12.size; first | omega | (simp at this; omega)
  have b0_12 : w12.cell? ⟨w.heap.size + 1, 0, none⟩ = some (.int .i64 l1) := carry hb12 (by go_simp)
  have b1_12 : w12.cell? ⟨w.heap.size + 1, 1, none⟩ = some (.int .i64 u1) := carry hb12 (by go_simp)
  have bz_12 : w.heap.size + 1 < w12.heap.size := by have := hb12.size; first | omega | (simp at this; omega)
  have s0_12 : w12.cell? ⟨w6.heap.size, 0, none⟩ = some (.int .i64 (opL l0 u0 l1 u1 (subF l0 u0 l1 u1))) := carry hb12 (by go_simp)
  have sf0_12 : w12.frozen? ⟨w6.heap.size, 0, none⟩ = false := carryF hb12 (v := .int .i64 (opL l0 u0 l1 u1 (subF l0 u0 l1 u1))) (by go_simp) (by go_simp)
  have s1_12 : w12.cell? ⟨w6.heap.size, 1, none⟩ = some (.int .i64 (opH l0 u0 l1 u1 (subF l0 u0 l1 u1))) := carry hb12 (by go_simp)
  have sf1_12 : w12.frozen? ⟨w6.heap.size, 1, none⟩ = false := carryF hb12 (v := .int .i64 (opH l0 u0 l1 u1 (subF l0 u0 l1 u1))) (by go_simp) (by go_simp)
  have sz_12 : w6.heap.size < w12.heap.size := by have := hb12.size; first | omega | (simp at this; omega)
  have HB_12 := Lib.hid ((by repeat (first | exact HB_11.out | refine Below.drew ?_ | refine Below.setCell ?_ (by first | omega | (simp; done) | (simp; omega)) _ | refine Below.alloc ?_ (by first | omega | (simp; done) | (simp; omega)) _) : Below w.heap.size w _).trans (hb12.mono (by first | omega | (simp; done) | (simp; omega))))
  have nz_12 : w.heap.size ≤ w12.heap.size := HB_12.out.size
  clear hb12 a0_11 a1_11 b0_11 b1_11 s0_11 sf0_11 s1_11 sf1_11 HB_11
  go_wp2_with fail
  refine (held_any _ _ _ _ _ _ _ Hmul.out).mono ?_
  rintro e w13 ⟨rfl, hb13⟩
  have a0_13 : w13.cell? ⟨w.heap.size, 0, none⟩ = some (.int .i64 l0) := carry hb13 (by go_simp)
  have a1_13 : w13.cell? ⟨w.heap.size, 1, none⟩ = some (.int .i64 u0) := carry hb13 (by go_simp)
  have az_13 : w.heap.size < w13.heap.size := by have := hb13.size; first | omega | (simp at this; omega)
  have b0_13 : w13.cell? ⟨w.heap.size + 1, 0, none⟩ = some (.int .i64 l1) := carry hb13 (by go_simp)
  have b1_13 : w13.cell? ⟨w.heap.size + 1, 1, none⟩ = some (.int .i64 u1) := carry hb13 (by go_simp)
  have bz_13 : w.heap.size + 1 < w13.heap.size := by have := hb13.size; first | omega | (simp at this; omega)
  have s0_13 : w13.cell? ⟨w6.heap.size, 0, none⟩ = some (.int .i64 (opL l0 u0 l1 u1 (mulF l0 u0 l1 u1))) := carry hb13 (by go_simp)
  have sf0_13 : w13.frozen? ⟨w6.heap.size, 0, none⟩ = false := carryF hb13 (v := .int .i64 (opL l0 u0 l1 u1 (mulF l0 u0 l1 u1))) (by go_simp) (by go_simp)
  have s1_13 : w13.cell? ⟨w6.heap.size, 1, none⟩ = some (.int .i64 (opH l0 u0 l1 u1 (mulF l0 u0 l1 u1))) := carry hb13 (by go_simp)
  have sf1_13 : w13.frozen? ⟨w6.heap.size, 1, none⟩ = false := carryF hb13 (v := .int .i64 (opH l0 u0 l1 u1 (mulF l0 u0 l1 u1))) (by go_simp) (by go_simp)
  have sz_13 : w6.heap.size < w13.heap.size := by have := hb13.size; first | omega | (simp at this; omega)
  have HB_13 := Lib.hid ((by repeat (first | exact HB_12.out | refine Below.drew ?_ | refine Below.setCell ?_ (by first | omega | (simp; done) | (simp; omega)) _ | refine Below.alloc ?_ (by first | omega | (simp; done) | (simp; omega)) _) : Below w.heap.size w _).trans (hb13.mono (by first | omega | (simp; done) | (simp; omega))))
  have nz_13 : w.heap.size ≤ w13.heap.size := HB_13.out.size
  clear hb13 a0_12 a1_12 b0_12 b1_12 s0_12 sf0_12 s1_12 sf1_12 HB_12
  go_wp2_with fail
  refine (quo_any _ _ _).mono ?_
  rintro e w' ⟨rfl, rfl⟩
  go_wp2_with fail
  refine (squo_any _ _ _ _ _ HBS.out).mono ?_
  rintro e w14 ⟨LQ, UQ, mq, eq, rfl, HQ, hb14⟩
  have a0_14 : w14.cell? ⟨w.heap.size, 0, none⟩ = some (.int .i64 l0) := carry hb14 (by go_simp)
  have a1_14 : w14.cell? ⟨w.heap.size, 1, none⟩ = some (.int .i64 u0) := carry hb14 (by go_simp)
  have az_14 : w.heap.size < w14.heap.size := by have := hb14.size; first | omega | (simp at this; omega)
  have b0_14 : w14.cell? ⟨w.heap.size + 1, 0, none⟩ = some (.int .i64 l1) := carry hb14 (by go_simp)
  have b1_14 : w14.cell? ⟨w.heap.size + 1, 1, none⟩ = some (.int .i64 u1) := carry hb14 (by go_simp)
  have bz_14 : w.heap.size + 1 < w14.heap.size := by have := hb14.size; first | omega | (simp at this; omega)
  have s0_14 : w14.cell? ⟨w6.heap.size, 0, none⟩ = some (.int .i64 (opL l0 u0 l1 u1 (mulF l0 u0 l1 u1))) := carry hb14 (by go_simp)
  have sf0_14 : w14.frozen? ⟨w6.heap.size, 0, none⟩ = false := carryF hb14 (v := .int .i64 (opL l0 u0 l1 u1 (mulF l0 u0 l1 u1))) (by go_simp) (by go_simp)
  have s1_14 : w14.cell? ⟨w6.heap.size, 1, none⟩ = some (.int .i64 (opH l0 u0 l1 u1 (mulF l0 u0 l1 u1))) := carry hb14 (by go_simp)
  have sf1_14 : w14.frozen? ⟨w6.heap.size, 1, none⟩ = false := carryF hb14 (v := .int .i64 (opH l0 u0 l1 u1 (mulF l0 u0 l1 u1))) (by go_simp) (by go_simp)
  have sz_14 : w6.heap.size < w14.heap.size := by have := hb14.size; first | omega | (simp at this; omega)
  have HB_14 := Lib.hid ((by repeat (first | exact HB_13.out | refine Below.drew ?_ | refine Below.setCell ?_ (by first | omega | (simp; done) | (simp; omega)) _ | refine Below.alloc ?_ (by first | omega | (simp; done) | (simp; omega)) _) : Below w.heap.size w _).trans (hb14.mono (by first | omega | (simp; done) | (simp; omega))))
  have nz_14 : w.heap.size ≤ w14.heap.size := HB_14.out.size
  clear hb14 a0_13 a1_13 b0_13 b1_13 s0_13 sf0_13 s1_13 sf1_13 HB_13
  have HQQ := Lib.hid (quo_held HQ HXY.out.1 HXY.out.2.1 HXY.out.2.2)
  clear HQ
  go_wp2_with fail
  refine (held_any _ _ _ _ _ _ _ HQQ.out).mono ?_
  rintro e w15 ⟨rfl, hb15⟩
  have a0_15 : w15.cell? ⟨w.heap.size, 0, none⟩ = some (.int .i64 l0) := carry hb15 (by go_simp)
  have a1_15 : w15.cell? ⟨w.heap.size, 1, none⟩ = some (.int .i64 u0) := carry hb15 (by go_simp)
  have az_15 : w.heap.size < w15.heap.size := by have := hb15.size; first | omega | (simp at this; omega)
  have b0_15 : w15.cell? ⟨w.heap.size + 1, 0, none⟩ = some (.int .i64 l1) := carry hb15 (by go_simp)
  have b1_15 : w15.cell? ⟨w.heap.size + 1, 1, none⟩ = some (.int .i64 u1) := carry hb15 (by go_simp)
  have bz_15 : w.heap.size + 1 < w15.heap.size := by have := hb15.size; first | omega | (simp at this; omega)
  have s0_15 : w15.cell? ⟨w6.heap.size, 0, none⟩ = some (.int .i64 LQ) := carry hb15 (by go_simp)
  have sf0_15 : w15.frozen? ⟨w6.heap.size, 0, none⟩ = false := carryF hb15 (v := .int .i64 LQ) (by go_simp) (by go_simp)
  have s1_15 : w15.cell? ⟨w6.heap.size, 1, none⟩ = some (.int .i64 UQ) := carry hb15 (by go_simp)
  have sf1_15 : w15.frozen? ⟨w6.heap.size, 1, none⟩ = false := carryF hb15 (v := .int .i64 UQ) (by go_simp) (by go_simp)
  have sz_15 : w6.heap.size < w15.heap.size := by have := hb15.size; first | omega | (simp at this; omega)
  have HB_15 := Lib.hid ((by repeat (first | exact HB_14.out | refine Below.drew ?_ | refine Below.setCell ?_ (by first | omega | (simp; done) | (simp; omega)) _ | refine Below.alloc ?_ (by first | omega | (simp; done) | (simp; omega)) _) : Below w.heap.size w _).trans (hb15.mono (by first | omega | (simp; done) | (simp; omega))))
  have nz_15 : w.heap.size ≤ w15.heap.size := HB_15.out.size
  clear hb15 a0_14 a1_14 b0_14 b1_14 s0_14 sf0_14 s1_14 sf1_14 HB_14
  go_wp2_with fail
  refine (cmp_is HC.out _).mono ?_
  rintro e w' ⟨rfl, rfl⟩
  go_wp2_with fail
  refine (scmp_is HSC.out _).mono ?_
  rintro e w16 ⟨rfl, hb16⟩
  have a0_16 : w16.cell? ⟨w.heap.size, 0, none⟩ = some (.int .i64 l0) := carry hb16 (by go_simp)
  have a1_16 : w16.cell? ⟨w.heap.size, 1, none⟩ = some (.int .i64 u0) := carry hb16 (by go_simp)
  have az_16 : w.heap.size < w16.heap.size := by have := hb16.size; first | omega | (simp at this; omega)
  have b0_16 : w16.cell? ⟨w.heap.size + 1, 0, none⟩ = some (.int .i64 l1) := carry hb16 (by go_simp)
  have b1_16 : w16.cell? ⟨w.heap.size + 1, 1, none⟩ = some (.int .i64 u1) := carry hb16 (by go_simp)
  have bz_16 : w.heap.size + 1 < w16.heap.size := by have := hb16.size; first | omega | (simp at this; omega)
  have s0_16 : w16.cell? ⟨w6.heap.size, 0, none⟩ = some (.int .i64 LQ) := carry hb16 (by go_simp)
  have sf0_16 : w16.frozen? ⟨w6.heap.size, 0, none⟩ = false := carryF hb16 (v := .int .i64 LQ) (by go_simp) (by go_simp)
  have s1_16 : w16.cell? ⟨w6.heap.size, 1, none⟩ = some (.int .i64 UQ) := carry hb16 (by go_simp)
  have sf1_16 : w16.frozen? ⟨w6.heap.size, 1, none⟩ = false := carryF hb16 (v := .int .i64 UQ) (by go_simp) (by go_simp)
  have sz_16 : w6.heap.size < w16.heap.size := by have := hb16.size; first | omega | (simp at this; omega)
  have HB_16 := Lib.hid ((by repeat (first | exact HB_15.out | refine Below.drew ?_ | refine Below.setCell ?_ (by first | omega | (simp; done) | (simp; omega)) _ | refine Below.alloc ?_ (by first | omega | (simp; done) | (simp; omega)) _) : Below w.heap.size w _).trans (hb16.mono (by first | omega | (simp; done) | (simp; omega))))
  have nz_16 : w.heap.size ≤ w16.heap.size := HB_16.out.size
  clear hb16 a0_15 a1_15 b0_15 b1_15 s0_15 sf0_15 s1_15 sf1_15 HB_15
  go_wp2_with fail
  refine (rin_is HCI.out _).mono ?_
  rintro e w17 ⟨rfl, hb17⟩
  have a0_17 : w17.cell? ⟨w.heap.size, 0, none⟩ = some (.int .i64 l0) := carry hb17 (by go_simp)
  have a1_17 : w17.cell? ⟨w.heap.size, 1, none⟩ = some (.int .i64 u0) := carry hb17 (by go_simp)
  have az_17 : w.heap.size < w17.heap.size := by have := hb17.size; first | omega | (simp at this; omega)
  have b0_17 : w17.cell? ⟨w.heap.size + 1, 0, none⟩ = some (.int .i64 l1) := carry hb17 (by go_simp)
  have b1_17 : w17.cell? ⟨w.heap.size + 1, 1, none⟩ = some (.int .i64 u1) := carry hb17 (by go_simp)
  have bz_17 : w.heap.size + 1 < w17.heap.size := by have := hb17.size; first | omega | (simp at this; omega)
  have s0_17 : w17.cell? ⟨w6.heap.size, 0, none⟩ = some (.int .i64 (low4 (cmpF l0 u0 l1 u1))) := carry hb17 (by go_simp)
  have sf0_17 : w17.frozen? ⟨w6.heap.size, 0, none⟩ = false := carryF hb17 (v := .int .i64 (low4 (cmpF l0 u0 l1 u1))) (by go_simp) (by go_simp)
  have s1_17 : w17.cell? ⟨w6.heap.size, 1, none⟩ = some (.int .i64 (high4 (cmpF l0 u0 l1 u1))) := carry hb17 (by go_simp)
  have sf1_17 : w17.frozen? ⟨w6.heap.size, 1, none⟩ = false := carryF hb17 (v := .int .i64 (high4 (cmpF l0 u0 l1 u1))) (by go_simp) (by go_simp)
  have sz_17 : w6.heap.size < w17.heap.size := by have := hb17.size; first | omega | (simp at this; omega)
  have HB_17 := Lib.hid ((by repeat (first | exact HB_16.out | refine Below.drew ?_ | refine Below.setCell ?_ (by first | omega | (simp; done) | (simp; omega)) _ | refine Below.alloc ?_ (by first | omega | (simp; done) | (simp; omega)) _) : Below w.heap.size w _).trans (hb17.mono (by first | omega | (simp; done) | (simp; omega))))
  have nz_17 : w.heap.size ≤ w17.heap.size := HB_17.out.size
  clear hb17 a0_16 a1_16 b0_16 b1_16 s0_16 sf0_16 s1_16 sf1_16 HB_16
  go_wp2_with fail
  go_ret
  exact ⟨rfl, by repeat (first | exact HB_17.out | refine Below.drew ?_ | refine Below.setCell ?_ (by first | omega | (simp; done) | (simp; omega)) _ | refine Below.alloc ?_ (by first | omega | (simp; done) | (simp; omega)) _)⟩

theorem run (l0 u0 : Int) (l1 u1 : Int) (a2 : Int) (a3 : Int) (w : World) (wl0 : (Lit.int .i64 l0).wf = true) (wu0 : (Lit.int .i64 u0).wf = true) (wl1 : (Lit.int .i64 l1).wf = true) (wu1 : (Lit.int .i64 u1).wf = true) (w2 : (Lit.int .i64 a2).wf = true) (w3 : (Lit.int .i64 a3).wf = true) :
    Calls Try.prog 3 #[.agg #[.int .i64 l0, .int .i64 u0], .agg #[.int .i64 l1, .int .i64 u1], .int .i64 a2, .int .i64 a3] w fun e w' => e = .returned (.bool true) ∧ Below w.heap.size w w' := by
  cases ha : vsp l0 u0
  · exact bad1 l0 u0 l1 u1 a2 a3 w (Lib.hid ha)
  · cases hb : vsp l1 u1
    · exact bad2 l0 u0 l1 u1 a2 a3 w (Lib.hid ha) (Lib.hid hb)
    · cases hx : (decide (l0 ≤ a2) && decide (a2 ≤ u0))
      · exact bad3 l0 u0 l1 u1 a2 a3 w (Lib.hid ha) (Lib.hid hb) (Lib.hid hx)
      · cases hy : (decide (l1 ≤ a3) && decide (a3 ≤ u1))
        · exact bad4 l0 u0 l1 u1 a2 a3 w (Lib.hid ha) (Lib.hid hb) (Lib.hid hx) (Lib.hid hy)
        · have hx' : l0 ≤ a2 ∧ a2 ≤ u0 := by simpa using hx
          have hy' : l1 ≤ a3 ∧ a3 ≤ u1 := by simpa using hy
          have va := vsp_iff.1 ha
          have vb := vsp_iff.1 hb
          have hbs : bsp l0 u0 l1 u1 = true := by simp [bsp, ha, hb]
          have vx : vld a2 = true := vld_mk (by omega)
          have vy : vld a3 = true := vld_mk (by omega)
          have hxy : bth a2 a3 = true := bth_mk vx vy
          have e1 : ∀ v, opL l0 u0 l1 u1 v = cutL (low4 v) (high4 v) ∧ opH l0 u0 l1 u1 v = cutH (low4 v) (high4 v) ∧ opM l0 u0 l1 u1 v = cutM (low4 v) (high4 v) ∧ opE l0 u0 l1 u1 v = cutE (low4 v) (high4 v) :=
            fun v => by simp [opL, opH, opM, opE, hbs]
          have cb := cmp_between hx' hy'
          refine main l0 u0 l1 u1 a2 a3 w (Lib.hid ha) (Lib.hid hb) (Lib.hid hx) (Lib.hid hy) (Lib.hid ?_) (Lib.hid ?_) (Lib.hid ?_) (Lib.hid ?_) (Lib.hid ?_) (Lib.hid ?_) (Lib.hid hbs) (Lib.hid ⟨hx', hy', hxy⟩) (Lib.hid (cmp_ok hxy rfl)) (Lib.hid ?_) (Lib.hid ?_)
          · rw [(e1 _).1, (e1 _).2.1, (e1 _).2.2.1, (e1 _).2.2.2]
            exact clip_held (add_between hx' hy') _ _ (by simp [addV, addE, hxy])
          · rw [(e1 _).1, (e1 _).2.1, (e1 _).2.2.1, (e1 _).2.2.2]
            exact clip_held (sub_between hx' hy') _ _ (by simp [subV, subE, hxy])
          · rw [(e1 _).1, (e1 _).2.1, (e1 _).2.2.1, (e1 _).2.2.2]
            exact clip_held (mul_between hx' hy') _ _ (by simp [mulV, mulE, hxy])
          · simp [oneV, oneE, vx]
          · simp [negL, negH, negE, ha]
          · simp; omega
          · simp [scmpL, scmpH, joinE, hbs]
          · simp [cb.1, cb.2]

end Go.Proofs.Ytfklicofohaccab.integerSound
