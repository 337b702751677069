/-
  PACKAGE real: Print.
-/
import Derived.Test.YtbfknapmhkpgcaaGreatDoorDig8

namespace Go.Proofs.YtbfknapmhkpgcaaGreatDoor
open Go.RowKit
set_option linter.unusedVariables false

theorem trimR_mem (l : List UInt8) (c b : UInt8) (h : b ∈ Lib.trimRightB l c) : b ∈ l := by
  unfold Lib.trimRightB at h
  rw [List.mem_reverse] at h
  exact List.mem_reverse.1 ((List.dropWhile_sublist _).subset h)

theorem trimR_len (l : List UInt8) (c : UInt8) : (Lib.trimRightB l c).length ≤ l.length := by
  unfold Lib.trimRightB
  rw [List.length_reverse]
  have := (List.dropWhile_sublist (p := (· == c)) (l := l.reverse)).length_le
  rwa [List.length_reverse] at this

theorem dcD_mem (V : Nat) : ∀ b ∈ dcD V, 48 ≤ b.toNat ∧ b.toNat ≤ 57 := fun b hb => dgL_mem V b (List.mem_of_mem_drop (trimR_mem _ _ _ hb))

theorem dcD_len (V : Nat) : (dcD V).length ≤ 228 := by
  have h1 := trimR_len ((dgL V).drop (lzN V)) 48
  have h2 := dgL_le V
  rw [List.length_drop] at h1
  unfold dcD
  omega

theorem dcK_bd (V : Nat) : -171 ≤ dcK V ∧ dcK V ≤ 57 := by
  have h1 : lzN V ≤ (dgL V).length := (List.takeWhile_sublist _).length_le
  have h2 := dgL_le V
  unfold dcK
  omega

theorem nb_le (d : List UInt8) (n : Nat) (hd : ∀ b ∈ d, 48 ≤ b.toNat ∧ b.toNat ≤ 57) : nb1 d n ≤ 10 ^ n ∧ nb2 d n ≤ 10 ^ n := by
  have h := nmV_lt (d.take n) 0 0 (by decide) (fun b hb => (hd b (List.take_subset _ _ hb)).2)
  rw [Nat.zero_add] at h
  have h2 : nmV (d.take n) < 10 ^ n := Nat.lt_of_lt_of_le h (Nat.pow_le_pow_right (by decide) (List.length_take_le n d))
  unfold nb1 nb2
  split <;> omega

theorem dr_ok (x n : Nat) (k : Int) (hx : x ≤ 10 ^ n) (hk : k ≤ 57) (h0 : 0 ≤ k - (n : Int)) : x * BB ^ 3 * 10 ^ (k - (n : Int)).toNat < BB ^ 7 := by
  have h1 : x * 10 ^ (k - (n : Int)).toNat ≤ 10 ^ 57 := by
    refine Nat.le_trans (Nat.mul_le_mul_right _ hx) ?_
    rw [← Nat.pow_add]
    exact Nat.pow_le_pow_right (by decide) (by omega)
  rw [show x * BB ^ 3 * 10 ^ (k - (n : Int)).toNat = x * 10 ^ (k - (n : Int)).toNat * BB ^ 3 from by ac_rfl, show BB ^ 7 = BB ^ 4 * BB ^ 3 from by rw [← Nat.pow_add]]
  exact Nat.mul_lt_mul_of_pos_right (Nat.lt_of_le_of_lt h1 (by decide)) (bbpos 3)

theorem x63 (x n : Nat) (hx : x ≤ 10 ^ n) (hn : n ≤ 18) : x ≤ 1000000000000000000 := Nat.le_trans hx (by have := Nat.pow_le_pow_right (n := 10) (by decide) hn; simpa using this)

theorem sh_any (m e : Int) (V f : Nat) (r : List UInt8 × Int) (w : World) (h0 : 0 < m) (h1 : m ≤ 16777216) (e1 : -150 ≤ e) (e2 : e ≤ 150) (hV : fxV m e = V) (hz : lzN V < (dgL V).length) (hf : f ≤ 18) (hr : shG (dcD V) (dcK V) m e f 1 = some r)
    (hT : P10 w) (hQ : TabQ w) (h20 : 0 < w.heap.size) (HDiv : Hid (∀ s, s ≤ 19 → DivOk (10 ^ s))) :
    Calls Tryz.prog 78 #[realV m e] w fun q w' => q = .returned (.tuple #[.string (bs r.1), .int .i64 r.2]) ∧ Below w.heap.size w w' := by
  obtain ⟨k1, k2⟩ := dcK_bd V
  have dl := dcD_len V
  have dm := dcD_mem V
  exact sh_w m e (dcK V) (dcD V) f r w hf (by omega) (by omega) (by omega) hr
    (Lib.hid fun W hW => dec_any m e V W h0 h1 e1 e2 hV hz (hT.kept hW (Nat.le_refl _)) (Nat.lt_of_lt_of_le h20 hW.size) HDiv)
    (Lib.hid fun n W _ hn hn18 => nb_any (dcD V) n W hn hn18 dm)
    (Lib.hid fun n W _ hn hn18 hW => dr_any (nb1 (dcD V) n) (dcK V - n) W (hT.kept hW (Nat.le_refl _)) HDiv (by have := x63 _ n (nb_le (dcD V) n dm).1 hn18; omega) (by omega) (by omega) (fun h => dr_ok _ n _ (nb_le (dcD V) n dm).1 k2 h))
    (Lib.hid fun n W _ hn hn18 hW => dr_any (nb2 (dcD V) n) (dcK V - n) W (hT.kept hW (Nat.le_refl _)) HDiv (by have := x63 _ n (nb_le (dcD V) n dm).2 hn18; omega) (by omega) (by omega) (fun h => dr_ok _ n _ (nb_le (dcD V) n dm).2 k2 h))
    (Lib.hid fun n W _ hn hn18 hW => it_any _ W (by omega) (by have := x63 _ n (nb_le (dcD V) n dm).1 hn18; omega) (hQ.kept hW))
    (Lib.hid fun n _ hn hn18 => Nat.le_trans (Lib.itoa_length_le _ (by omega) (by have := x63 _ n (nb_le (dcD V) n dm).1 hn18; omega)) (by decide))
    (Lib.hid fun n W _ hn hn18 hW => it_any _ W (by omega) (by have := x63 _ n (nb_le (dcD V) n dm).2 hn18; omega) (hQ.kept hW))
    (Lib.hid fun n _ hn hn18 => Nat.le_trans (Lib.itoa_length_le _ (by omega) (by have := x63 _ n (nb_le (dcD V) n dm).2 hn18; omega)) (by decide))
    (Lib.hid fun l W hl => by
      have := Tryz.strings_TrimRight_one (bs l) 48 (by decide) W (by rw [bs_size]; omega)
      rwa [bs_toList] at this)

set_option maxRecDepth 100000 in
set_option maxHeartbeats 1600000 in
set_option maxHeartbeats 1600000 in
theorem print_bad (m e : Int) (w : World) (HV : Hid (vr m e = false)) (h1 : -9223372036854775808 ≤ m) (h2 : m ≤ 9223372036854775807) :
    Calls Tryz.prog 49 #[realV m e] w fun r w' => r = .returned (.tuple #[.string ⟨#[]⟩, .int .i64 1]) ∧ Below w.heap.size w w' := by
  go_enter Tryz.func49, Tryz.ntmps49
  go_wp2_with fail
  refine (valid_is HV.out _ h1 h2).mono ?_
  rintro r w1 ⟨rfl, hb1⟩
  have c0_0 : w1.cell? ⟨w.heap.size, 0, none⟩ = some (.int .i64 m) := carry hb1 (by first | with_reducible assumption | go_simp)
  have c0_1 : w1.cell? ⟨w.heap.size, 1, none⟩ = some (.int .i64 e) := carry hb1 (by first | with_reducible assumption | go_simp)
  have z0 : w.heap.size < w1.heap.size := by have := hb1.size; first | omega | (simp at this; omega)
  have HBB := Lib.hid ((by repeat (first | with_reducible exact Below.refl _ _ | with_reducible refine Below.setCell ?_ (by first | omega | (simp; done) | (simp; omega)) _ | with_reducible refine Below.drew ?_ | with_reducible refine belowN ?_ _ | with_reducible refine Below.alloc ?_ (by first | omega | (simp; done) | (simp; omega)) _) : Below w.heap.size w _).trans (hb1.mono (by first | omega | (simp; done) | (simp; omega))))
  clear hb1
  go_wp2_with fail
  go_ret2
  exact ⟨rfl, HBB.out⟩

set_option maxRecDepth 100000 in
set_option maxHeartbeats 1600000 in
set_option maxHeartbeats 1600000 in
theorem print_zero (w : World) :
    Calls Tryz.prog 49 #[realV 0 0] w fun r w' => r = .returned (.tuple #[.string ⟨#[48, 46, 48]⟩, .int .i64 0]) ∧ Below w.heap.size w w' := by
  have HV : Hid (vr 0 0 = true) := Lib.hid (by decide)
  go_enter Tryz.func49, Tryz.ntmps49
  go_wp2_with fail
  refine (valid_is HV.out _ (by decide) (by decide)).mono ?_
  rintro r w1 ⟨rfl, hb1⟩
  have c0_0 : w1.cell? ⟨w.heap.size, 0, none⟩ = some (.int .i64 0) := carry hb1 (by first | with_reducible assumption | go_simp)
  have c0_1 : w1.cell? ⟨w.heap.size, 1, none⟩ = some (.int .i64 0) := carry hb1 (by first | with_reducible assumption | go_simp)
  have z0 : w.heap.size < w1.heap.size := by have := hb1.size; first | omega | (simp at this; omega)
  have HBB := Lib.hid ((by repeat (first | with_reducible exact Below.refl _ _ | with_reducible refine Below.setCell ?_ (by first | omega | (simp; done) | (simp; omega)) _ | with_reducible refine Below.drew ?_ | with_reducible refine belowN ?_ _ | with_reducible refine Below.alloc ?_ (by first | omega | (simp; done) | (simp; omega)) _) : Below w.heap.size w _).trans (hb1.mono (by first | omega | (simp; done) | (simp; omega))))
  clear hb1
  go_wp2_with fail
  refine (zero_yes _).mono ?_
  rintro r w2 ⟨rfl, hb2⟩
  have c0_0 : w2.cell? ⟨w.heap.size, 0, none⟩ = some (.int .i64 0) := carry hb2 (by first | with_reducible assumption | go_simp)
  have c0_1 : w2.cell? ⟨w.heap.size, 1, none⟩ = some (.int .i64 0) := carry hb2 (by first | with_reducible assumption | go_simp)
  have z0 : w.heap.size < w2.heap.size := by have := hb2.size; first | omega | (simp at this; omega)
  have HBB := Lib.hid ((by repeat (first | with_reducible exact HBB.out | with_reducible refine Below.setCell ?_ (by first | omega | (simp; done) | (simp; omega)) _ | with_reducible refine Below.drew ?_ | with_reducible refine belowN ?_ _ | with_reducible refine Below.alloc ?_ (by first | omega | (simp; done) | (simp; omega)) _) : Below w.heap.size w _).trans (hb2.mono (by first | omega | (simp; done) | (simp; omega))))
  clear hb2
  go_wp2_with fail
  go_ret2
  exact ⟨rfl, HBB.out⟩

set_option maxRecDepth 100000 in
set_option maxHeartbeats 1600000 in
set_option maxHeartbeats 1600000 in
theorem print_p (m e k : Int) (d s : ByteArray) (t : ByteArray) (w : World) (HV : Hid (vr m e = true)) (hm : 0 < m)
    (HSH : Hid (∀ W, Below w.heap.size w W → Calls Tryz.prog 78 #[realV m e] W fun q w' => q = .returned (.tuple #[.string d, .int .i64 k]) ∧ Below W.heap.size W w'))
    (HPR : Hid (∀ W, Below w.heap.size w W → Calls Tryz.prog 77 #[.string d, .int .i64 k] W fun q w' => q = .returned (.string s) ∧ Below W.heap.size W w')) :
    Calls Tryz.prog 49 #[realV m e] w fun r w' => r = .returned (.tuple #[.string s, .int .i64 0]) ∧ Below w.heap.size w w' := by
  obtain ⟨v1, v2, v3, v4⟩ := vr_bd HV.out
  have HZ : Hid (decide (m = 0 ∧ e = 0) = false) := Lib.hid (decide_eq_false (by omega))
  have hmt : ¬ m < 0 := by omega
  go_enter Tryz.func49, Tryz.ntmps49
  go_wp2_with fail
  refine (valid_is HV.out _ (by omega) (by omega)).mono ?_
  rintro r w1 ⟨rfl, hb1⟩
  have c0_0 : w1.cell? ⟨w.heap.size, 0, none⟩ = some (.int .i64 m) := carry hb1 (by first | with_reducible assumption | go_simp)
  have c0_1 : w1.cell? ⟨w.heap.size, 1, none⟩ = some (.int .i64 e) := carry hb1 (by first | with_reducible assumption | go_simp)
  have z0 : w.heap.size < w1.heap.size := by have := hb1.size; first | omega | (simp at this; omega)
  have HBB := Lib.hid ((by repeat (first | with_reducible exact Below.refl _ _ | with_reducible refine Below.setCell ?_ (by first | omega | (simp; done) | (simp; omega)) _ | with_reducible refine Below.drew ?_ | with_reducible refine belowN ?_ _ | with_reducible refine Below.alloc ?_ (by first | omega | (simp; done) | (simp; omega)) _) : Below w.heap.size w _).trans (hb1.mono (by first | omega | (simp; done) | (simp; omega))))
  clear hb1
  go_wp2_with fail
  refine (zero_is HZ.out _).mono ?_
  rintro r w2 ⟨rfl, hb2⟩
  have c0_0 : w2.cell? ⟨w.heap.size, 0, none⟩ = some (.int .i64 m) := carry hb2 (by first | with_reducible assumption | go_simp)
  have c0_1 : w2.cell? ⟨w.heap.size, 1, none⟩ = some (.int .i64 e) := carry hb2 (by first | with_reducible assumption | go_simp)
  have z0 : w.heap.size < w2.heap.size := by have := hb2.size; first | omega | (simp at this; omega)
  have HBB := Lib.hid ((by repeat (first | with_reducible exact HBB.out | with_reducible refine Below.setCell ?_ (by first | omega | (simp; done) | (simp; omega)) _ | with_reducible refine Below.drew ?_ | with_reducible refine belowN ?_ _ | with_reducible refine Below.alloc ?_ (by first | omega | (simp; done) | (simp; omega)) _) : Below w.heap.size w _).trans (hb2.mono (by first | omega | (simp; done) | (simp; omega))))
  clear hb2
  go_wp2_with fail
  refine (HSH.out _ HBB.out).mono ?_
  rintro r w3 ⟨rfl, hb3⟩
  have c0_0 : w3.cell? ⟨w.heap.size, 0, none⟩ = some (.int .i64 m) := carry hb3 (by first | with_reducible assumption | go_simp)
  have c0_1 : w3.cell? ⟨w.heap.size, 1, none⟩ = some (.int .i64 e) := carry hb3 (by first | with_reducible assumption | go_simp)
  have z0 : w.heap.size < w3.heap.size := by have := hb3.size; first | omega | (simp at this; omega)
  have HBB := Lib.hid ((by repeat (first | with_reducible exact HBB.out | with_reducible refine Below.setCell ?_ (by first | omega | (simp; done) | (simp; omega)) _ | with_reducible refine Below.drew ?_ | with_reducible refine belowN ?_ _ | with_reducible refine Below.alloc ?_ (by first | omega | (simp; done) | (simp; omega)) _) : Below w.heap.size w _).trans (hb3.mono (by first | omega | (simp; done) | (simp; omega))))
  clear hb3
  go_wp2_with fail
  refine (HPR.out _ HBB.out).mono ?_
  rintro r w4 ⟨rfl, hb4⟩
  have c0_0 : w4.cell? ⟨w.heap.size, 0, none⟩ = some (.int .i64 m) := carry hb4 (by first | with_reducible assumption | go_simp)
  have c0_1 : w4.cell? ⟨w.heap.size, 1, none⟩ = some (.int .i64 e) := carry hb4 (by first | with_reducible assumption | go_simp)
  have z0 : w.heap.size < w4.heap.size := by have := hb4.size; first | omega | (simp at this; omega)
  have HBB := Lib.hid ((by repeat (first | with_reducible exact HBB.out | with_reducible refine Below.setCell ?_ (by first | omega | (simp; done) | (simp; omega)) _ | with_reducible refine Below.drew ?_ | with_reducible refine belowN ?_ _ | with_reducible refine Below.alloc ?_ (by first | omega | (simp; done) | (simp; omega)) _) : Below w.heap.size w _).trans (hb4.mono (by first | omega | (simp; done) | (simp; omega))))
  clear hb4
  go_wp2_with fail
  go_ret2
  exact ⟨rfl, HBB.out⟩

set_option maxRecDepth 100000 in
set_option maxHeartbeats 1600000 in
set_option maxHeartbeats 1600000 in
theorem print_n (m e k : Int) (d s : ByteArray) (t : ByteArray) (w : World) (HV : Hid (vr m e = true)) (hm : m < 0) (hA : ∀ w, (Op.stringOp .add ⟨#[45]⟩ s).run Tryz.prog w = .ok (.string t) w)
    (HSH : Hid (∀ W, Below w.heap.size w W → Calls Tryz.prog 78 #[realV (-m) e] W fun q w' => q = .returned (.tuple #[.string d, .int .i64 k]) ∧ Below W.heap.size W w'))
    (HPR : Hid (∀ W, Below w.heap.size w W → Calls Tryz.prog 77 #[.string d, .int .i64 k] W fun q w' => q = .returned (.string s) ∧ Below W.heap.size W w')) :
    Calls Tryz.prog 49 #[realV m e] w fun r w' => r = .returned (.tuple #[.string t, .int .i64 0]) ∧ Below w.heap.size w w' := by
  obtain ⟨v1, v2, v3, v4⟩ := vr_bd HV.out
  have HZ : Hid (decide (m = 0 ∧ e = 0) = false) := Lib.hid (decide_eq_false (by omega))
  have hmt := hm
  go_enter Tryz.func49, Tryz.ntmps49
  go_wp2_with fail
  refine (valid_is HV.out _ (by omega) (by omega)).mono ?_
  rintro r w1 ⟨rfl, hb1⟩
  have c0_0 : w1.cell? ⟨w.heap.size, 0, none⟩ = some (.int .i64 m) := carry hb1 (by first | with_reducible assumption | go_simp)
  have c0_1 : w1.cell? ⟨w.heap.size, 1, none⟩ = some (.int .i64 e) := carry hb1 (by first | with_reducible assumption | go_simp)
  have z0 : w.heap.size < w1.heap.size := by have := hb1.size; first | omega | (simp at this; omega)
  have HBB := Lib.hid ((by repeat (first | with_reducible exact Below.refl _ _ | with_reducible refine Below.setCell ?_ (by first | omega | (simp; done) | (simp; omega)) _ | with_reducible refine Below.drew ?_ | with_reducible refine belowN ?_ _ | with_reducible refine Below.alloc ?_ (by first | omega | (simp; done) | (simp; omega)) _) : Below w.heap.size w _).trans (hb1.mono (by first | omega | (simp; done) | (simp; omega))))
  clear hb1
  go_wp2_with fail
  refine (zero_is HZ.out _).mono ?_
  rintro r w2 ⟨rfl, hb2⟩
  have c0_0 : w2.cell? ⟨w.heap.size, 0, none⟩ = some (.int .i64 m) := carry hb2 (by first | with_reducible assumption | go_simp)
  have c0_1 : w2.cell? ⟨w.heap.size, 1, none⟩ = some (.int .i64 e) := carry hb2 (by first | with_reducible assumption | go_simp)
  have z0 : w.heap.size < w2.heap.size := by have := hb2.size; first | omega | (simp at this; omega)
  have HBB := Lib.hid ((by repeat (first | with_reducible exact HBB.out | with_reducible refine Below.setCell ?_ (by first | omega | (simp; done) | (simp; omega)) _ | with_reducible refine Below.drew ?_ | with_reducible refine belowN ?_ _ | with_reducible refine Below.alloc ?_ (by first | omega | (simp; done) | (simp; omega)) _) : Below w.heap.size w _).trans (hb2.mono (by first | omega | (simp; done) | (simp; omega))))
  clear hb2
  go_wp2_with fail
  refine (opp_any m e _ (by omega) (by omega)).mono ?_
  rintro r w2b ⟨rfl, hb2⟩
  have c0_0 : w2b.cell? ⟨w.heap.size, 0, none⟩ = some (.int .i64 m) := carry hb2 (by first | with_reducible assumption | go_simp)
  have c0_1 : w2b.cell? ⟨w.heap.size, 1, none⟩ = some (.int .i64 e) := carry hb2 (by first | with_reducible assumption | go_simp)
  have z0 : w.heap.size < w2b.heap.size := by have := hb2.size; first | omega | (simp at this; omega)
  have HBB := Lib.hid ((by repeat (first | with_reducible exact HBB.out | with_reducible refine Below.setCell ?_ (by first | omega | (simp; done) | (simp; omega)) _ | with_reducible refine Below.drew ?_ | with_reducible refine belowN ?_ _ | with_reducible refine Below.alloc ?_ (by first | omega | (simp; done) | (simp; omega)) _) : Below w.heap.size w _).trans (hb2.mono (by first | omega | (simp; done) | (simp; omega))))
  clear hb2
  go_wp2_with fail
  refine (HSH.out _ HBB.out).mono ?_
  rintro r w3 ⟨rfl, hb3⟩
  have c0_0 : w3.cell? ⟨w.heap.size, 0, none⟩ = some (.int .i64 m) := carry hb3 (by first | with_reducible assumption | go_simp)
  have c0_1 : w3.cell? ⟨w.heap.size, 1, none⟩ = some (.int .i64 e) := carry hb3 (by first | with_reducible assumption | go_simp)
  have z0 : w.heap.size < w3.heap.size := by have := hb3.size; first | omega | (simp at this; omega)
  have HBB := Lib.hid ((by repeat (first | with_reducible exact HBB.out | with_reducible refine Below.setCell ?_ (by first | omega | (simp; done) | (simp; omega)) _ | with_reducible refine Below.drew ?_ | with_reducible refine belowN ?_ _ | with_reducible refine Below.alloc ?_ (by first | omega | (simp; done) | (simp; omega)) _) : Below w.heap.size w _).trans (hb3.mono (by first | omega | (simp; done) | (simp; omega))))
  clear hb3
  go_wp2_with fail
  refine (HPR.out _ HBB.out).mono ?_
  rintro r w4 ⟨rfl, hb4⟩
  have c0_0 : w4.cell? ⟨w.heap.size, 0, none⟩ = some (.int .i64 m) := carry hb4 (by first | with_reducible assumption | go_simp)
  have c0_1 : w4.cell? ⟨w.heap.size, 1, none⟩ = some (.int .i64 e) := carry hb4 (by first | with_reducible assumption | go_simp)
  have z0 : w.heap.size < w4.heap.size := by have := hb4.size; first | omega | (simp at this; omega)
  have HBB := Lib.hid ((by repeat (first | with_reducible exact HBB.out | with_reducible refine Below.setCell ?_ (by first | omega | (simp; done) | (simp; omega)) _ | with_reducible refine Below.drew ?_ | with_reducible refine belowN ?_ _ | with_reducible refine Below.alloc ?_ (by first | omega | (simp; done) | (simp; omega)) _) : Below w.heap.size w _).trans (hb4.mono (by first | omega | (simp; done) | (simp; omega))))
  clear hb4
  go_wp2_with fail
  go_ret2
  exact ⟨rfl, HBB.out⟩

/-- Print of a positive real, its search being over behind so many lengths -/
theorem print_pos (m e : Int) (V f : Nat) (r : List UInt8 × Int) (w : World) (h0 : 0 < m) (hv : vr m e = true) (hV : fxV m e = V) (hz : lzN V < (dgL V).length) (hf : f ≤ 18) (hr : shG (dcD V) (dcK V) m e f 1 = some r)
    (hd : 1 ≤ r.1.length) (hd2 : r.1.length ≤ 1000) (hk1 : -100000 ≤ r.2) (hk2 : r.2 ≤ 100000)
    (hT : P10 w) (hQ : TabQ w) (h20 : 0 < w.heap.size) (HDiv : Hid (∀ s, s ≤ 19 → DivOk (10 ^ s))) :
    Calls Tryz.prog 49 #[realV m e] w fun q w' => q = .returned (.tuple #[.string (bs (prL r.1 r.2)), .int .i64 0]) ∧ Below w.heap.size w w' := by
  obtain ⟨v1, v2, v3, v4⟩ := vr_bd hv
  exact print_p m e r.2 (bs r.1) (bs (prL r.1 r.2)) (bs []) w (Lib.hid hv) h0
    (Lib.hid fun W hW => sh_any m e V f r W h0 (by omega) v3 v4 hV hz hf hr (hT.kept hW (Nat.le_refl _)) (hQ.kept hW) (Nat.lt_of_lt_of_le h20 hW.size) HDiv)
    (Lib.hid fun W hW => pr_any r.1 r.2 W (hQ.kept hW) hd hd2 hk1 hk2 (Nat.le_trans (Lib.itoa_length_le _ (by omega) (by omega)) (by decide)))

end Go.Proofs.YtbfknapmhkpgcaaGreatDoor
