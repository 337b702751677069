/-
  PACKAGE real, decimal digits: a decimal, rounded; what Print writes behind a point.
-/
import Derived.Test.YtbfknapmhkpgcaaGreatDoorDig5

namespace Go.Proofs.YtbfknapmhkpgcaaGreatDoor
open Go.RowKit
set_option linter.unusedVariables false

theorem dgn (n : Nat) (hn : n < BB) (j : Nat) : dg n j = if j = 0 then n else 0 := by
  unfold dg
  by_cases h : j = 0
  · subst h
    simp only [Nat.pow_zero, Nat.div_one, if_true]
    exact Nat.mod_eq_of_lt hn
  · rw [if_neg h, Nat.div_eq_of_lt, Nat.zero_mod]
    exact Nat.lt_of_lt_of_le hn (by rw [show j = 1 + (j - 1) from by omega, Nat.pow_add, Nat.pow_one]; exact Nat.le_mul_of_pos_right _ (bbpos _))

theorem digV_n (n : Nat) (hn : n < BB) : digV (n * BB ^ 3) = .agg #[.int .u64 0, .int .u64 0, .int .u64 0, .int .u64 (n : Int), .int .u64 0, .int .u64 0, .int .u64 0] := by
  have e3 : ∀ j, dg (n * BB ^ 3) (3 + j) = if j = 0 then n else 0 := fun j => by rw [dg_shift]; exact dgn n hn j
  unfold digV
  rw [dg_low n 0 (by decide), dg_low n 1 (by decide), dg_low n 2 (by decide), show (3 : Nat) = 3 + 0 from rfl, e3 0, show (4 : Nat) = 3 + 1 from rfl, e3 1, show (5 : Nat) = 3 + 2 from rfl, e3 2, show (6 : Nat) = 3 + 3 from rfl, e3 3]
  rfl

theorem n_bb (n : Nat) (hn : n < 9223372036854775808) : n * BB ^ 3 < BB ^ 7 := by
  rw [show BB ^ 7 = BB ^ 4 * BB ^ 3 from by rw [← Nat.pow_add]]
  exact Nat.mul_lt_mul_of_pos_right (Nat.lt_trans hn (by decide)) (bbpos 3)

set_option maxRecDepth 100000 in
set_option maxHeartbeats 1600000 in
set_option maxHeartbeats 1600000 in
theorem drc (b d n : Nat) (e : Int) (w : World) (c0 : w.cell? ⟨b, 0, none⟩ = some (.int .i64 (n : Int))) (c1 : w.cell? ⟨d, 0, none⟩ = some (.int .i64 e)) (zb : b < w.heap.size) (zd : d < w.heap.size) (hT : P10 w) (HDiv : Hid (∀ s, s ≤ 19 → DivOk (10 ^ s))) (hn : n < 9223372036854775808) (e1 : -2000 ≤ e) (e2 : e ≤ 2000) (hV2 : 0 ≤ e → n * BB ^ 3 * 10 ^ e.toNat < BB ^ 7) :
    Calls Tryz.prog 118 #[.pointer (some ⟨b, 0, none⟩), .pointer (some ⟨d, 0, none⟩)] w fun r w' => r = .returned (realV (scM (n * BB ^ 3) e) (scE (n * BB ^ 3) e)) ∧ Below w.heap.size w w' := by
  have HS : Hid (∀ W, P10 W → Calls Tryz.prog 91 #[.agg #[.int .u64 0, .int .u64 0, .int .u64 0, .int .u64 (n : Int), .int .u64 0, .int .u64 0, .int .u64 0], .int .i64 e] W fun r w' => r = .returned (realV (scM (n * BB ^ 3) e) (scE (n * BB ^ 3) e)) ∧ Below W.heap.size W w') := Lib.hid (fun W hW => by
    have := sc_any (n * BB ^ 3) e W hW e1 e2 (n_bb n hn) hV2 HDiv
    rwa [digV_n n (by simp only [BB]; omega)] at this)
  have HT := Lib.hid hT
  have hw : IntKind.u64.wrap (n : Int) = (n : Int) := by rw [IntKind.wrap_u64]; omega
  clear hV2 hT
  generalize scM (n * BB ^ 3) e = am at HS ⊢
  generalize scE (n * BB ^ 3) e = ae at HS ⊢
  have HB2 := Lib.hid (((Below.refl w.heap.size w).alloc (Nat.le_refl _) (Obj.cells #[.int .i64 0, .int .i64 0] 51)).alloc (by simp) (Obj.cells #[.int .u64 0, .int .u64 0, .int .u64 0, .int .u64 0, .int .u64 0, .int .u64 0, .int .u64 0] 94))
  go_enter Tryz.func118, Tryz.ntmps118
  go_wp2_with fail
  refine (HS.out _ (HT.out.kept (by repeat (first | with_reducible exact HBB.out | with_reducible exact Below.refl _ _ | with_reducible refine Below.drew ?_ | with_reducible refine belowN ?_ _ | with_reducible refine Below.setCell ?_ (by first | omega | (simp; done) | (simp; omega)) _ | with_reducible refine Below.alloc ?_ (by first | omega | (simp; done) | (simp; omega)) _)) (Nat.le_refl _))).mono ?_
  rintro r w1 ⟨rfl, hb1⟩
  have f0_0 : w1.frozen? ⟨w.heap.size, 0, none⟩ = false := carryF hb1 (v := .int .i64 0) (by first | with_reducible assumption | go_simp) (by first | with_reducible assumption | go_simp)
  have f0_1 : w1.frozen? ⟨w.heap.size, 1, none⟩ = false := carryF hb1 (v := .int .i64 0) (by first | with_reducible assumption | go_simp) (by first | with_reducible assumption | go_simp)
  have c0_0 : w1.cell? ⟨w.heap.size, 0, none⟩ = some (.int .i64 0) := carry hb1 (by first | with_reducible assumption | go_simp)
  have c0_1 : w1.cell? ⟨w.heap.size, 1, none⟩ = some (.int .i64 0) := carry hb1 (by first | with_reducible assumption | go_simp)
  have z0 : w.heap.size < w1.heap.size := by have := hb1.size; first | omega | (simp at this; omega)
  have HBB := Lib.hid ((by repeat (first | with_reducible exact Below.refl _ _ | with_reducible refine Below.setCell ?_ (by first | omega | (simp; done) | (simp; omega)) _ | with_reducible refine Below.drew ?_ | with_reducible refine belowN ?_ _ | with_reducible refine Below.alloc ?_ (by first | omega | (simp; done) | (simp; omega)) _) : Below w.heap.size w _).trans (hb1.mono (by first | omega | (simp; done) | (simp; omega))))
  clear hb1
  go_wp2_with fail
  refine bodyPost_ret (v := realV am ae) (by simp [results, Tryz.results118, go_sem, c0_0, c0_1]) rfl ⟨rfl, by repeat (first | with_reducible exact HBB.out | with_reducible exact Below.refl _ _ | with_reducible refine Below.drew ?_ | with_reducible refine belowN ?_ _ | with_reducible refine Below.setCell ?_ (by first | omega | (simp; done) | (simp; omega)) _ | with_reducible refine Below.alloc ?_ (by first | omega | (simp; done) | (simp; omega)) _)⟩

def drM (n : Nat) (e : Int) : Int := roM (scM (n * BB ^ 3) e) (scE (n * BB ^ 3) e)
def drE (n : Nat) (e : Int) : Int := roE (scM (n * BB ^ 3) e) (scE (n * BB ^ 3) e)

set_option maxRecDepth 100000 in
set_option maxHeartbeats 1600000 in
set_option maxHeartbeats 1600000 in
theorem dr_any (n : Nat) (e : Int) (w : World) (hT : P10 w) (HDiv : Hid (∀ s, s ≤ 19 → DivOk (10 ^ s))) (hn : n < 9223372036854775808) (e1 : -2000 ≤ e) (e2 : e ≤ 2000) (hV2 : 0 ≤ e → n * BB ^ 3 * 10 ^ e.toNat < BB ^ 7) :
    Calls Tryz.prog 97 #[.int .i64 (n : Int), .int .i64 e] w fun r w' => r = .returned (realV (drM n e) (drE n e)) ∧ Below w.heap.size w w' := by
  have hmf : ∀ (fn : Fn) (first cap : Array Value) (w : World), (Instr.makeFunc fn first cap).run Tryz.prog w = .ok (.func fn first cap) w := fun _ _ _ _ => rfl
  obtain ⟨q1, q2, q3, q4⟩ := sc_bd (n * BB ^ 3) e (n_bb n hn) hV2
  have HE := Lib.hid (fun caps W => Go.Proofs.enters_of (P := Tryz.prog) Tryz.func118 (by kernel_rfl) rfl caps W)
  have HC := Lib.hid (fun (b d : Nat) (W : World) c0 c1 zb zd hT => drc b d n e W c0 c1 zb zd hT HDiv hn e1 e2 hV2)
  have HT := Lib.hid hT
  have hni : (n : Int) < 9223372036854775808 := by omega
  clear hV2 hT
  unfold drM drE
  generalize scM (n * BB ^ 3) e = am at HC q1 q2 ⊢
  generalize scE (n * BB ^ 3) e = ae at HC q3 q4 ⊢
  have HQ := Lib.hid (And.intro q1 (And.intro q2 (And.intro q3 q4)))
  clear q1 q2 q3 q4
  go_enter Tryz.func97, Tryz.ntmps97
  go_wp2_with fail
  refine (ev_any _ _ am ae _ (Lib.hid fun W => HE.out _ W) (Lib.hid fun W hW => HC.out w.heap.size (w.heap.size + 1) W (carry hW (by go_simp)) (carry hW (by go_simp)) (Nat.lt_of_lt_of_le (by simp <;> omega) hW.size) (Nat.lt_of_lt_of_le (by simp <;> omega) hW.size) ((HT.out.kept (by repeat (first | with_reducible exact HBB.out | with_reducible exact Below.refl _ _ | with_reducible refine Below.drew ?_ | with_reducible refine belowN ?_ _ | with_reducible refine Below.setCell ?_ (by first | omega | (simp; done) | (simp; omega)) _ | with_reducible refine Below.alloc ?_ (by first | omega | (simp; done) | (simp; omega)) _)) (Nat.le_refl _)).kept hW (Nat.le_refl _))) (by have := HQ.out; omega) (by have := HQ.out; omega) (by have := HQ.out; omega) (by have := HQ.out; omega)).mono ?_
  rintro r w2 ⟨rfl, hb2⟩
  have f2_0 : w2.frozen? ⟨w.heap.size + 1 + 1, 0, none⟩ = false := carryF hb2 (v := .int .i64 0) (by first | with_reducible assumption | go_simp) (by first | with_reducible assumption | go_simp)
  have f2_1 : w2.frozen? ⟨w.heap.size + 1 + 1, 1, none⟩ = false := carryF hb2 (v := .int .i64 0) (by first | with_reducible assumption | go_simp) (by first | with_reducible assumption | go_simp)
  have c2_0 : w2.cell? ⟨w.heap.size + 1 + 1, 0, none⟩ = some (.int .i64 0) := carry hb2 (by first | with_reducible assumption | go_simp)
  have c2_1 : w2.cell? ⟨w.heap.size + 1 + 1, 1, none⟩ = some (.int .i64 0) := carry hb2 (by first | with_reducible assumption | go_simp)
  have z2 : w.heap.size + 1 + 1 < w2.heap.size := by have := hb2.size; first | omega | (simp at this; omega)
  have HBB := Lib.hid ((by repeat (first | with_reducible exact Below.refl _ _ | with_reducible refine Below.setCell ?_ (by first | omega | (simp; done) | (simp; omega)) _ | with_reducible refine Below.drew ?_ | with_reducible refine belowN ?_ _ | with_reducible refine Below.alloc ?_ (by first | omega | (simp; done) | (simp; omega)) _) : Below w.heap.size w _).trans (hb2.mono (by first | omega | (simp; done) | (simp; omega))))
  clear hb2
  clear HQ HC
  unfold oV
  generalize hm : roM am ae = bm
  generalize he : roE am ae = be
  generalize roX am ae = bx
  have HQ := Lib.hid (And.intro hm he)
  clear hm he
  go_wp2_with fail
  refine bodyPost_ret (v := realV bm be) (by simp [results, Tryz.results97, go_sem, c2_0, c2_1, z2]) rfl ⟨by rw [← HQ.out.1, ← HQ.out.2], by repeat (first | with_reducible exact HBB.out | with_reducible exact Below.refl _ _ | with_reducible refine Below.drew ?_ | with_reducible refine belowN ?_ _ | with_reducible refine Below.setCell ?_ (by first | omega | (simp; done) | (simp; omega)) _ | with_reducible refine Below.alloc ?_ (by first | omega | (simp; done) | (simp; omega)) _)⟩

set_option maxRecDepth 100000 in
set_option maxHeartbeats 1600000 in
theorem oz_e (s : ByteArray) (w : World) (h : s.toList.isEmpty = true) :
    Calls Tryz.prog 92 #[.string s] w fun r w' => r = .returned (.string ⟨#[48]⟩) ∧ w' = w := by
  go_enter Tryz.func92, Tryz.ntmps92
  go_wp2_with fail
  go_ret
  exact ⟨rfl, rfl⟩

set_option maxRecDepth 100000 in
set_option maxHeartbeats 1600000 in
theorem oz_n (s : ByteArray) (w : World) (h : s.toList.isEmpty = false) :
    Calls Tryz.prog 92 #[.string s] w fun r w' => r = .returned (.string s) ∧ w' = w := by
  go_enter Tryz.func92, Tryz.ntmps92
  go_wp2_with fail
  go_ret
  exact ⟨rfl, rfl⟩

def ozL (l : List UInt8) : List UInt8 := if l = [] then [48] else l

theorem oz_any (l : List UInt8) (w : World) : Calls Tryz.prog 92 #[.string (bs l)] w fun r w' => r = .returned (.string (bs (ozL l))) ∧ w' = w := by
  unfold ozL
  by_cases h : l = []
  · subst h
    exact oz_e _ w (by rw [ne_iff]; rfl)
  · rw [if_neg h]
    exact oz_n _ w (by rw [ne_iff]; simpa using h)

end Go.Proofs.YtbfknapmhkpgcaaGreatDoor
