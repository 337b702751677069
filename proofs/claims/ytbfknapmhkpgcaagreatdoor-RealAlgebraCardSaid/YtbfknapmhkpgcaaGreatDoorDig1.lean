/-
  PACKAGE real, decimal digits: a real in fixed point; the makers of the iterators.
-/
import Derived.Test.YtbfknapmhkpgcaaGreatDoorDig0
import Derived.Deep.RegionWith
import Derived.IntWalk

namespace Go.Proofs.YtbfknapmhkpgcaaGreatDoor
open Go.RowKit
set_option linter.unusedVariables false

set_option maxRecDepth 100000 in
set_option maxHeartbeats 1600000 in
theorem fx_0 (m e : Int) (P s x lo hi : Nat) (w : World) (h0 : 0 ≤ m) (h1 : m ≤ 16777216) (e1 : -150 ≤ e) (e2 : e ≤ 150) (he : e + 192 = (P : Int)) (hdiv : (P : Int) / 64 = 0) (hmod : (P : Int) % 64 = (s : Int)) (hs : (s : Int) < 64) (HX : IntKind.u64.wrap ((2 : Int) ^ s) = (x : Int)) (HM : Hid (∀ w : World, Calls Tryz.prog 106 #[.int .u64 m, .int .u64 (x : Int)] w fun r w' => r = .returned (.tuple #[.int .u64 (hi : Int), .int .u64 (lo : Int)]) ∧ w' = w)) :
    Calls Tryz.prog 116 #[realV m e] w fun r w' => r = .returned (.agg #[.int .u64 (lo : Int), .int .u64 (hi : Int), .int .u64 0, .int .u64 0, .int .u64 0, .int .u64 0, .int .u64 0]) ∧ Below w.heap.size w w' := by
  have hp1 : (0 : Int) ≤ (P : Int) := by omega
  have htm : (P : Int).tmod 64 = (s : Int) := by rw [Int.tmod_eq_emod_of_nonneg hp1]; exact hmod
  have hw1 : ∀ k : Nat, k < 9 → IntKind.i64.wrap (k : Int) = (k : Int) := fun k hk => IntWalk.i64_in _ (by omega)
  have hwq : IntKind.i64.wrap 1 = 1 := hw1 1 (by decide)
  have hm64 : IntKind.u64.wrap m = m := by rw [IntKind.wrap_u64]; omega
  clear hw1
  go_enter Tryz.func116, Tryz.ntmps116
  go_wp2_with fail
  go_region_with (go_at_call 106; ((with_reducible refine (HM.out _).mono ?_); rintro r wq ⟨rfl, rfl⟩))
  all_goals go_wp2_with fail
  all_goals refine bodyPost_ret (v := .agg #[.int .u64 (lo : Int), .int .u64 (hi : Int), .int .u64 0, .int .u64 0, .int .u64 0, .int .u64 0, .int .u64 0]) (by simp [results, Tryz.results116, go_sem]) rfl ⟨rfl, by repeat (first | with_reducible exact HBB.out | with_reducible exact Below.refl _ _ | with_reducible refine Below.drew ?_ | with_reducible refine belowN ?_ _ | with_reducible refine Below.setCell ?_ (by first | omega | (simp; done) | (simp; omega)) _ | with_reducible refine Below.alloc ?_ (by first | omega | (simp; done) | (simp; omega)) _)⟩

set_option maxRecDepth 100000 in
set_option maxHeartbeats 1600000 in
theorem fx_1 (m e : Int) (P s x lo hi : Nat) (w : World) (h0 : 0 ≤ m) (h1 : m ≤ 16777216) (e1 : -150 ≤ e) (e2 : e ≤ 150) (he : e + 192 = (P : Int)) (hdiv : (P : Int) / 64 = 1) (hmod : (P : Int) % 64 = (s : Int)) (hs : (s : Int) < 64) (HX : IntKind.u64.wrap ((2 : Int) ^ s) = (x : Int)) (HM : Hid (∀ w : World, Calls Tryz.prog 106 #[.int .u64 m, .int .u64 (x : Int)] w fun r w' => r = .returned (.tuple #[.int .u64 (hi : Int), .int .u64 (lo : Int)]) ∧ w' = w)) :
    Calls Tryz.prog 116 #[realV m e] w fun r w' => r = .returned (.agg #[.int .u64 0, .int .u64 (lo : Int), .int .u64 (hi : Int), .int .u64 0, .int .u64 0, .int .u64 0, .int .u64 0]) ∧ Below w.heap.size w w' := by
  have hp1 : (0 : Int) ≤ (P : Int) := by omega
  have htm : (P : Int).tmod 64 = (s : Int) := by rw [Int.tmod_eq_emod_of_nonneg hp1]; exact hmod
  have hw1 : ∀ k : Nat, k < 9 → IntKind.i64.wrap (k : Int) = (k : Int) := fun k hk => IntWalk.i64_in _ (by omega)
  have hwq : IntKind.i64.wrap 2 = 2 := hw1 2 (by decide)
  have hm64 : IntKind.u64.wrap m = m := by rw [IntKind.wrap_u64]; omega
  clear hw1
  go_enter Tryz.func116, Tryz.ntmps116
  go_wp2_with fail
  go_region_with (go_at_call 106; ((with_reducible refine (HM.out _).mono ?_); rintro r wq ⟨rfl, rfl⟩))
  all_goals go_wp2_with fail
  all_goals refine bodyPost_ret (v := .agg #[.int .u64 0, .int .u64 (lo : Int), .int .u64 (hi : Int), .int .u64 0, .int .u64 0, .int .u64 0, .int .u64 0]) (by simp [results, Tryz.results116, go_sem]) rfl ⟨rfl, by repeat (first | with_reducible exact HBB.out | with_reducible exact Below.refl _ _ | with_reducible refine Below.drew ?_ | with_reducible refine belowN ?_ _ | with_reducible refine Below.setCell ?_ (by first | omega | (simp; done) | (simp; omega)) _ | with_reducible refine Below.alloc ?_ (by first | omega | (simp; done) | (simp; omega)) _)⟩

set_option maxRecDepth 100000 in
set_option maxHeartbeats 1600000 in
theorem fx_2 (m e : Int) (P s x lo hi : Nat) (w : World) (h0 : 0 ≤ m) (h1 : m ≤ 16777216) (e1 : -150 ≤ e) (e2 : e ≤ 150) (he : e + 192 = (P : Int)) (hdiv : (P : Int) / 64 = 2) (hmod : (P : Int) % 64 = (s : Int)) (hs : (s : Int) < 64) (HX : IntKind.u64.wrap ((2 : Int) ^ s) = (x : Int)) (HM : Hid (∀ w : World, Calls Tryz.prog 106 #[.int .u64 m, .int .u64 (x : Int)] w fun r w' => r = .returned (.tuple #[.int .u64 (hi : Int), .int .u64 (lo : Int)]) ∧ w' = w)) :
    Calls Tryz.prog 116 #[realV m e] w fun r w' => r = .returned (.agg #[.int .u64 0, .int .u64 0, .int .u64 (lo : Int), .int .u64 (hi : Int), .int .u64 0, .int .u64 0, .int .u64 0]) ∧ Below w.heap.size w w' := by
  have hp1 : (0 : Int) ≤ (P : Int) := by omega
  have htm : (P : Int).tmod 64 = (s : Int) := by rw [Int.tmod_eq_emod_of_nonneg hp1]; exact hmod
  have hw1 : ∀ k : Nat, k < 9 → IntKind.i64.wrap (k : Int) = (k : Int) := fun k hk => IntWalk.i64_in _ (by omega)
  have hwq : IntKind.i64.wrap 3 = 3 := hw1 3 (by decide)
  have hm64 : IntKind.u64.wrap m = m := by rw [IntKind.wrap_u64]; omega
  clear hw1
  go_enter Tryz.func116, Tryz.ntmps116
  go_wp2_with fail
  go_region_with (go_at_call 106; ((with_reducible refine (HM.out _).mono ?_); rintro r wq ⟨rfl, rfl⟩))
  all_goals go_wp2_with fail
  all_goals refine bodyPost_ret (v := .agg #[.int .u64 0, .int .u64 0, .int .u64 (lo : Int), .int .u64 (hi : Int), .int .u64 0, .int .u64 0, .int .u64 0]) (by simp [results, Tryz.results116, go_sem]) rfl ⟨rfl, by repeat (first | with_reducible exact HBB.out | with_reducible exact Below.refl _ _ | with_reducible refine Below.drew ?_ | with_reducible refine belowN ?_ _ | with_reducible refine Below.setCell ?_ (by first | omega | (simp; done) | (simp; omega)) _ | with_reducible refine Below.alloc ?_ (by first | omega | (simp; done) | (simp; omega)) _)⟩

set_option maxRecDepth 100000 in
set_option maxHeartbeats 1600000 in
theorem fx_3 (m e : Int) (P s x lo hi : Nat) (w : World) (h0 : 0 ≤ m) (h1 : m ≤ 16777216) (e1 : -150 ≤ e) (e2 : e ≤ 150) (he : e + 192 = (P : Int)) (hdiv : (P : Int) / 64 = 3) (hmod : (P : Int) % 64 = (s : Int)) (hs : (s : Int) < 64) (HX : IntKind.u64.wrap ((2 : Int) ^ s) = (x : Int)) (HM : Hid (∀ w : World, Calls Tryz.prog 106 #[.int .u64 m, .int .u64 (x : Int)] w fun r w' => r = .returned (.tuple #[.int .u64 (hi : Int), .int .u64 (lo : Int)]) ∧ w' = w)) :
    Calls Tryz.prog 116 #[realV m e] w fun r w' => r = .returned (.agg #[.int .u64 0, .int .u64 0, .int .u64 0, .int .u64 (lo : Int), .int .u64 (hi : Int), .int .u64 0, .int .u64 0]) ∧ Below w.heap.size w w' := by
  have hp1 : (0 : Int) ≤ (P : Int) := by omega
  have htm : (P : Int).tmod 64 = (s : Int) := by rw [Int.tmod_eq_emod_of_nonneg hp1]; exact hmod
  have hw1 : ∀ k : Nat, k < 9 → IntKind.i64.wrap (k : Int) = (k : Int) := fun k hk => IntWalk.i64_in _ (by omega)
  have hwq : IntKind.i64.wrap 4 = 4 := hw1 4 (by decide)
  have hm64 : IntKind.u64.wrap m = m := by rw [IntKind.wrap_u64]; omega
  clear hw1
  go_enter Tryz.func116, Tryz.ntmps116
  go_wp2_with fail
  go_region_with (go_at_call 106; ((with_reducible refine (HM.out _).mono ?_); rintro r wq ⟨rfl, rfl⟩))
  all_goals go_wp2_with fail
  all_goals refine bodyPost_ret (v := .agg #[.int .u64 0, .int .u64 0, .int .u64 0, .int .u64 (lo : Int), .int .u64 (hi : Int), .int .u64 0, .int .u64 0]) (by simp [results, Tryz.results116, go_sem]) rfl ⟨rfl, by repeat (first | with_reducible exact HBB.out | with_reducible exact Below.refl _ _ | with_reducible refine Below.drew ?_ | with_reducible refine belowN ?_ _ | with_reducible refine Below.setCell ?_ (by first | omega | (simp; done) | (simp; omega)) _ | with_reducible refine Below.alloc ?_ (by first | omega | (simp; done) | (simp; omega)) _)⟩

set_option maxRecDepth 100000 in
set_option maxHeartbeats 1600000 in
theorem fx_4 (m e : Int) (P s x lo hi : Nat) (w : World) (h0 : 0 ≤ m) (h1 : m ≤ 16777216) (e1 : -150 ≤ e) (e2 : e ≤ 150) (he : e + 192 = (P : Int)) (hdiv : (P : Int) / 64 = 4) (hmod : (P : Int) % 64 = (s : Int)) (hs : (s : Int) < 64) (HX : IntKind.u64.wrap ((2 : Int) ^ s) = (x : Int)) (HM : Hid (∀ w : World, Calls Tryz.prog 106 #[.int .u64 m, .int .u64 (x : Int)] w fun r w' => r = .returned (.tuple #[.int .u64 (hi : Int), .int .u64 (lo : Int)]) ∧ w' = w)) :
    Calls Tryz.prog 116 #[realV m e] w fun r w' => r = .returned (.agg #[.int .u64 0, .int .u64 0, .int .u64 0, .int .u64 0, .int .u64 (lo : Int), .int .u64 (hi : Int), .int .u64 0]) ∧ Below w.heap.size w w' := by
  have hp1 : (0 : Int) ≤ (P : Int) := by omega
  have htm : (P : Int).tmod 64 = (s : Int) := by rw [Int.tmod_eq_emod_of_nonneg hp1]; exact hmod
  have hw1 : ∀ k : Nat, k < 9 → IntKind.i64.wrap (k : Int) = (k : Int) := fun k hk => IntWalk.i64_in _ (by omega)
  have hwq : IntKind.i64.wrap 5 = 5 := hw1 5 (by decide)
  have hm64 : IntKind.u64.wrap m = m := by rw [IntKind.wrap_u64]; omega
  clear hw1
  go_enter Tryz.func116, Tryz.ntmps116
  go_wp2_with fail
  go_region_with (go_at_call 106; ((with_reducible refine (HM.out _).mono ?_); rintro r wq ⟨rfl, rfl⟩))
  all_goals go_wp2_with fail
  all_goals refine bodyPost_ret (v := .agg #[.int .u64 0, .int .u64 0, .int .u64 0, .int .u64 0, .int .u64 (lo : Int), .int .u64 (hi : Int), .int .u64 0]) (by simp [results, Tryz.results116, go_sem]) rfl ⟨rfl, by repeat (first | with_reducible exact HBB.out | with_reducible exact Below.refl _ _ | with_reducible refine Below.drew ?_ | with_reducible refine belowN ?_ _ | with_reducible refine Below.setCell ?_ (by first | omega | (simp; done) | (simp; omega)) _ | with_reducible refine Below.alloc ?_ (by first | omega | (simp; done) | (simp; omega)) _)⟩

set_option maxRecDepth 100000 in
set_option maxHeartbeats 1600000 in
theorem fx_5 (m e : Int) (P s x lo hi : Nat) (w : World) (h0 : 0 ≤ m) (h1 : m ≤ 16777216) (e1 : -150 ≤ e) (e2 : e ≤ 150) (he : e + 192 = (P : Int)) (hdiv : (P : Int) / 64 = 5) (hmod : (P : Int) % 64 = (s : Int)) (hs : (s : Int) < 64) (HX : IntKind.u64.wrap ((2 : Int) ^ s) = (x : Int)) (HM : Hid (∀ w : World, Calls Tryz.prog 106 #[.int .u64 m, .int .u64 (x : Int)] w fun r w' => r = .returned (.tuple #[.int .u64 (hi : Int), .int .u64 (lo : Int)]) ∧ w' = w)) :
    Calls Tryz.prog 116 #[realV m e] w fun r w' => r = .returned (.agg #[.int .u64 0, .int .u64 0, .int .u64 0, .int .u64 0, .int .u64 0, .int .u64 (lo : Int), .int .u64 (hi : Int)]) ∧ Below w.heap.size w w' := by
  have hp1 : (0 : Int) ≤ (P : Int) := by omega
  have htm : (P : Int).tmod 64 = (s : Int) := by rw [Int.tmod_eq_emod_of_nonneg hp1]; exact hmod
  have hw1 : ∀ k : Nat, k < 9 → IntKind.i64.wrap (k : Int) = (k : Int) := fun k hk => IntWalk.i64_in _ (by omega)
  have hwq : IntKind.i64.wrap 6 = 6 := hw1 6 (by decide)
  have hm64 : IntKind.u64.wrap m = m := by rw [IntKind.wrap_u64]; omega
  clear hw1
  go_enter Tryz.func116, Tryz.ntmps116
  go_wp2_with fail
  go_region_with (go_at_call 106; ((with_reducible refine (HM.out _).mono ?_); rintro r wq ⟨rfl, rfl⟩))
  all_goals go_wp2_with fail
  all_goals refine bodyPost_ret (v := .agg #[.int .u64 0, .int .u64 0, .int .u64 0, .int .u64 0, .int .u64 0, .int .u64 (lo : Int), .int .u64 (hi : Int)]) (by simp [results, Tryz.results116, go_sem]) rfl ⟨rfl, by repeat (first | with_reducible exact HBB.out | with_reducible exact Below.refl _ _ | with_reducible refine Below.drew ?_ | with_reducible refine belowN ?_ _ | with_reducible refine Below.setCell ?_ (by first | omega | (simp; done) | (simp; omega)) _ | with_reducible refine Below.alloc ?_ (by first | omega | (simp; done) | (simp; omega)) _)⟩

theorem fix_any (m e : Int) (w : World) (h0 : 0 ≤ m) (h1 : m ≤ 16777216) (e1 : -150 ≤ e) (e2 : e ≤ 150) :
    Calls Tryz.prog 116 #[realV m e] w fun r w' => r = .returned (digV (fxV m e)) ∧ Below w.heap.size w w' := by
  obtain ⟨P, hP⟩ : ∃ P : Nat, (e + 192).toNat = P := ⟨_, rfl⟩
  have he : e + 192 = (P : Int) := by omega
  obtain ⟨q, hq⟩ : ∃ q, P / 64 = q := ⟨_, rfl⟩
  obtain ⟨s, hs⟩ : ∃ s, P % 64 = s := ⟨_, rfl⟩
  have hPq : P = 64 * q + s := by omega
  have hs64 : s < 64 := by omega
  have hx : 2 ^ s < 18446744073709551616 := Nat.lt_of_le_of_lt (Nat.pow_le_pow_right (by decide) (show s ≤ 63 by omega)) (by decide)
  have HX : IntKind.u64.wrap ((2 : Int) ^ s) = ((2 ^ s : Nat) : Int) := by
    rw [show (2 : Int) ^ s = ((2 ^ s : Nat) : Int) from by push_cast; rfl, IntKind.wrap_u64]
    generalize 2 ^ s = y at hx
    omega
  have HM : Hid (∀ w : World, Calls Tryz.prog 106 #[.int .u64 m, .int .u64 ((2 ^ s : Nat) : Int)] w fun r w' => r = .returned (.tuple #[.int .u64 ((m.toNat * 2 ^ s / BB : Nat) : Int), .int .u64 ((m.toNat * 2 ^ s % BB : Nat) : Int)]) ∧ w' = w) := Lib.hid (fun w => by
    have := Tryz.bits_Mul64 m.toNat (2 ^ s) (by omega) hx w
    rwa [show ((m.toNat : Nat) : Int) = m from by omega] at this)
  have hd := fxV_dg m e q s h0 h1 hs64 (by rw [hP, hPq])
  generalize hlo : m.toNat * 2 ^ s % BB = lo at HM hd
  generalize hhi : m.toNat * 2 ^ s / BB = hi at HM hd
  have hq5 : q = 0 ∨ q = 1 ∨ q = 2 ∨ q = 3 ∨ q = 4 ∨ q = 5 := by omega
  have hmod : (P : Int) % 64 = (s : Int) := by omega
  have hdg : ∀ (f : Nat → Nat), (∀ i, dg (fxV m e) i = f i) → digV (fxV m e) = .agg #[.int .u64 (f 0 : Int), .int .u64 (f 1 : Int), .int .u64 (f 2 : Int), .int .u64 (f 3 : Int), .int .u64 (f 4 : Int), .int .u64 (f 5 : Int), .int .u64 (f 6 : Int)] := fun f hf => by unfold digV; rw [hf, hf, hf, hf, hf, hf, hf]
  rw [hdg _ hd]
  rcases hq5 with rfl | rfl | rfl | rfl | rfl | rfl
  · exact fx_0 m e P s (2 ^ s) lo hi w h0 h1 e1 e2 he (by omega) hmod (by omega) HX HM
  · exact fx_1 m e P s (2 ^ s) lo hi w h0 h1 e1 e2 he (by omega) hmod (by omega) HX HM
  · exact fx_2 m e P s (2 ^ s) lo hi w h0 h1 e1 e2 he (by omega) hmod (by omega) HX HM
  · exact fx_3 m e P s (2 ^ s) lo hi w h0 h1 e1 e2 he (by omega) hmod (by omega) HX HM
  · exact fx_4 m e P s (2 ^ s) lo hi w h0 h1 e1 e2 he (by omega) hmod (by omega) HX HM
  · exact fx_5 m e P s (2 ^ s) lo hi w h0 h1 e1 e2 he (by omega) hmod (by omega) HX HM

end Go.Proofs.YtbfknapmhkpgcaaGreatDoor
