/-
  PACKAGE real, fixed point: leading.
-/
import Derived.Test.YtbfknapmhkpgcaaGreatDoorFix3
import Derived.Test.YtbfknapmhkpgcaaGreatDoorReal16
import Derived.WalkKit
import Derived.BigQuiet
import Derived.Deep.QuietTactic

namespace Go.Proofs.YtbfknapmhkpgcaaGreatDoor
open Go.RowKit
set_option linter.unusedVariables false

theorem bb_split (s : Nat) (hs : s < 64) : BB = 2 ^ (64 - s) * 2 ^ s := by
  rw [← Nat.pow_add]
  have : 64 - s + s = 64 := by omega
  rw [this]

theorem shift_split (V Q s : Nat) : V / 2 ^ (64 * Q + s) = V / BB ^ Q / 2 ^ s := by
  rw [Nat.pow_add, ← bb_pow, Nat.div_div_eq_div_mul]

theorem lead_man (V Q s : Nat) (hs : s < 64) : (dg V Q / 2 ^ s) ||| (dg V (Q + 1) * 2 ^ (64 - s) % BB) = V / 2 ^ (64 * Q + s) % BB := by
  have e1 : dg V (Q + 1) = V / BB ^ Q / BB % BB := by unfold dg; rw [Nat.pow_succ, ← Nat.div_div_eq_div_mul]
  rw [shift_split, e1]
  unfold dg
  generalize V / BB ^ Q = U
  have hp := Nat.pow_pos (n := s) (a := 2) (by decide)
  have hq := Nat.pow_pos (n := 64 - s) (a := 2) (by decide)
  have hB := bb_split s hs
  have h1 : U / 2 ^ s = U / BB * 2 ^ (64 - s) + U % BB / 2 ^ s := by
    have hU := (Nat.div_add_mod U BB).symm
    generalize U / BB = q at *
    generalize U % BB = a at *
    rw [hU, hB, Nat.mul_comm (2 ^ (64 - s)) (2 ^ s), Nat.mul_assoc, Nat.mul_add_div hp, Nat.mul_comm]
  have h2 : ∀ x : Nat, x * 2 ^ (64 - s) % BB = x % 2 ^ s * 2 ^ (64 - s) := fun x => by
    rw [hB, Nat.mul_comm (2 ^ (64 - s)) (2 ^ s), Nat.mul_mod_mul_right]
  have h3 : U / BB % BB % 2 ^ s = U / BB % 2 ^ s := Nat.mod_mod_of_dvd _ ⟨2 ^ (64 - s), by rw [hB, Nat.mul_comm]⟩
  have h4 : U % BB / 2 ^ s < 2 ^ (64 - s) := by
    rw [Nat.div_lt_iff_lt_mul hp, ← hB]
    exact Nat.mod_lt _ (by decide)
  have h5 : U / BB % 2 ^ s < 2 ^ s := Nat.mod_lt _ hp
  rw [h1, h2, h3, Nat.add_mod, h2]
  generalize U % BB / 2 ^ s = b at *
  generalize U / BB % 2 ^ s = c at *
  have h6 : c * 2 ^ (64 - s) + b < BB := by
    have : (c + 1) * 2 ^ (64 - s) ≤ 2 ^ s * 2 ^ (64 - s) := Nat.mul_le_mul_right _ h5
    rw [Nat.mul_comm (2 ^ s), ← hB, Nat.add_mul, Nat.one_mul] at this
    omega
  rw [Nat.mod_eq_of_lt (show b < BB by omega), Nat.mod_eq_of_lt h6, Nat.mul_comm c, Nat.or_comm, Nat.two_pow_add_eq_or_of_lt h4]

theorem below_iff (V Q s : Nat) (hs : s < 64) : (dg V Q % 2 ^ s ≠ 0 ∨ V % BB ^ Q ≠ 0) ↔ V % 2 ^ (64 * Q + s) ≠ 0 := by
  rw [Nat.pow_add, ← bb_pow, Nat.mod_mul]
  have h3 : dg V Q % 2 ^ s = V / BB ^ Q % 2 ^ s := Nat.mod_mod_of_dvd _ ⟨2 ^ (64 - s), by rw [bb_split s hs, Nat.mul_comm]⟩
  rw [h3]
  have hb := bbpos Q
  generalize V / BB ^ Q % 2 ^ s = x
  generalize V % BB ^ Q = y
  constructor
  · intro h q
    rcases h with h | h
    · have : BB ^ Q * x = 0 := by omega
      rcases Nat.mul_eq_zero.1 this with k | k <;> omega
    · omega
  · intro h
    by_cases hx : x = 0
    · subst hx
      right
      simpa using h
    · exact Or.inl hx

theorem mask_eq (a s : Nat) (ha : a < BB) (hs : s < 64) : bits BinOp.and IntKind.u64 (a : Int) (IntKind.u64.wrap (IntKind.u64.wrap ((1 : Int) * 2 ^ s) - 1)) = ((a % 2 ^ s : Nat) : Int) := by
  have hp := Nat.pow_pos (n := s) (a := 2) (by decide)
  have hle := Nat.pow_le_pow_right (n := 2) (by decide) (show s ≤ 63 by omega)
  have e : IntKind.u64.wrap (IntKind.u64.wrap ((1 : Int) * 2 ^ s) - 1) = ((2 ^ s - 1 : Nat) : Int) := by
    have e0 : (1 : Int) * 2 ^ s = ((2 ^ s : Nat) : Int) := by push_cast; omega
    rw [e0, IntKind.wrap_u64, IntKind.wrap_u64]
    omega
  rw [e, bits_and_u64_nat _ _ (by simp only [BB] at ha; omega) (by omega), Nat.and_two_pow_sub_one_eq_mod]

abbrev digV (V : Nat) : Value := .agg #[.int .u64 (dg V 0), .int .u64 (dg V 1), .int .u64 (dg V 2), .int .u64 (dg V 3), .int .u64 (dg V 4), .int .u64 (dg V 5), .int .u64 (dg V 6)]

abbrev digC (V : Nat) : Array Value := #[.int .u64 (dg V 0), .int .u64 (dg V 1), .int .u64 (dg V 2), .int .u64 (dg V 3), .int .u64 (dg V 4), .int .u64 (dg V 5), .int .u64 (dg V 6)]

theorem Dig.of_alloc (w : World) (V : Nat) (T : TypeId) : Dig (w.alloc (.cells (digC V) T)) w.heap.size 0 7 V := by
  intro i hi
  have : i = 0 ∨ i = 1 ∨ i = 2 ∨ i = 3 ∨ i = 4 ∨ i = 5 ∨ i = 6 := by omega
  rcases this with rfl | rfl | rfl | rfl | rfl | rfl | rfl <;> exact ⟨by go_simp, by go_simp⟩

theorem Dig.kept {B b o n V : Nat} {w w' : World} (h : Dig w b o n V) (k : Below B w w') (hb : b < B) : Dig w' b o n V := fun i hi => by
  obtain ⟨h1, h2⟩ := h i hi
  exact ⟨by rw [k.cell (p := ⟨b, o + i, none⟩) hb]; exact h1, by rw [k.frozen (p := ⟨b, o + i, none⟩) hb]; exact h2⟩

theorem Dig.sub {b o n V m : Nat} {w : World} (h : Dig w b o n V) (k : m ≤ n) : Dig w b o m V := fun i hi => h i (by omega)

set_option maxRecDepth 100000 in
theorem or_eq (a y s : Nat) (ha : a < BB) : bits BinOp.or IntKind.u64 ((a : Int) / 2 ^ s) (IntKind.u64.wrap ((y : Int) * 2 ^ (64 - s))) = ((a / 2 ^ s ||| (y * 2 ^ (64 - s) % BB) : Nat) : Int) := by
  have e1 : (a : Int) / 2 ^ s = ((a / 2 ^ s : Nat) : Int) := by push_cast; rfl
  have e2 : IntKind.u64.wrap ((y : Int) * 2 ^ (64 - s)) = ((y * 2 ^ (64 - s) % BB : Nat) : Int) := by
    rw [IntKind.wrap_u64]
    simp only [Int.natCast_emod, Int.natCast_mul, Int.natCast_pow]
    rfl
  rw [e1, e2]
  exact bits_or_u64_nat _ _ (Nat.lt_of_le_of_lt (Nat.div_le_self _ _) ha) (Nat.mod_lt _ (by decide))

theorem dg_hi (V i : Nat) (h : V < BB ^ 7) (hi : 7 ≤ i) : dg V i = 0 := by
  unfold dg
  rw [Nat.div_eq_of_lt (Nat.lt_of_lt_of_le h (Nat.pow_le_pow_right (by decide) hi)), Nat.zero_mod]

theorem Dig.drewN {b o n V : Nat} {w : World} (h : Dig w b o n V) (k : Nat) : Dig (w.drewN k) b o n V := fun i hi => by simpa using h i hi

/-- what leading returns: the mantissa ahead of the last bit, and the exponent -/
def ldF (V : Nat) : Nat := blR V 7 - 62

def ldM (V : Nat) (t : Bool) : Int := stk (V / 2 ^ ldF V : Nat) (decide (V % 2 ^ ldF V ≠ 0) || t)

def ldE (V : Nat) : Int := (ldF V : Int) - 192 - 1

theorem ld_bd (V : Nat) (h : V < BB ^ 7) : V / 2 ^ ldF V < 4611686018427387904 ∧ ldF V ≤ 386 := by
  have hb := blR_bd 7 V h
  have hl := blR_le 7 V
  refine ⟨?_, by unfold ldF; omega⟩
  rw [Nat.div_lt_iff_lt_mul (Nat.pow_pos (by decide)), show (4611686018427387904 : Nat) = 2 ^ 62 from rfl, ← Nat.pow_add]
  by_cases hz : V = 0
  · subst hz
    exact Nat.pow_pos (by decide)
  · exact Nat.lt_of_lt_of_le (hb.2 hz).2.2.2 (Nat.pow_le_pow_right (by decide) (by unfold ldF; omega))

set_option maxRecDepth 100000 in
set_option maxHeartbeats 1600000 in
theorem lead_a (V Fn L Q s M : Nat) (t bw : Bool) (a y : Nat) (w : World) (hV : V < BB ^ 7) (HL : Hid (blR V 7 = L)) (hF : (if (L : Int) - 62 < 0 then 0 else (L : Int) - 62) = (Fn : Int)) (hL : L ≤ 448) (hQ : Fn / 64 = Q) (hs : Fn % 64 = s) (hq7 : Q < 6) (hs6 : s < 64)
    (HA : Hid (dg V Q = a)) (HY : Hid (dg V (Q + 1) = y)) (HM : Hid (a / 2 ^ s ||| (y * 2 ^ (64 - s) % BB) = M)) (hM : M < 4611686018427387904) (HB : Hid ((decide (a % 2 ^ s ≠ 0) || decide (V % BB ^ Q ≠ 0)) = bw)) :
    Calls Tryz.prog 109 #[digV V, .bool t] w fun r w' => r = .returned (realV (stk (M : Int) (bw || t)) ((Fn : Int) - 192 - 1)) ∧ Below w.heap.size w w' := by
  have hmx : ∀ w, Sem.run Tryz.prog (Builtin.max_ #[3, 3] 3 #[.int .i64 ((L : Int) - 62), .int .i64 0]) w = .ok (.int .i64 (Fn : Int)) w := fun w => by rw [← hF]; kernel_rfl
  clear hF
  have HW : Hid (∃ W, W = ((w.alloc (Obj.cells (digC V) 94)).alloc (Obj.cells #[Value.int IntKind.i64 0, Value.int IntKind.i64 0] 51)) ∧ Dig W w.heap.size 0 7 V ∧ W.cell? ⟨w.heap.size + 1, 0, none⟩ = some (.int .i64 0) ∧ W.cell? ⟨w.heap.size + 1, 1, none⟩ = some (.int .i64 0) ∧ W.frozen? ⟨w.heap.size + 1, 0, none⟩ = false ∧ W.frozen? ⟨w.heap.size + 1, 1, none⟩ = false ∧ w.heap.size + 1 < W.heap.size ∧ Below w.heap.size w W) := Lib.hid ⟨_, rfl, (Dig.of_alloc w V _).kept (B := w.heap.size + 1) ((Below.refl _ _).alloc (by simp) _) (by omega), by go_simp, by go_simp, by go_simp, by go_simp, by simp, ((Below.refl _ _).alloc (Nat.le_refl _) _).alloc (by simp) _⟩
  go_enter Tryz.func109, Tryz.ntmps109
  go_wp2_with fail
  obtain ⟨W, hW, hD, c1_0, c1_1, f1_0, f1_1, z1, hBW⟩ := HW.out
  rw [← hW]
  have HBB := Lib.hid hBW
  have HD := Lib.hid hD
  clear hW hBW hD HW
  refine (bl_any w.heap.size 0 7 7 V W (by omega) HD.out).mono ?_
  rintro r w1 ⟨rfl, rfl⟩
  rw [HL.out]
  have hQi : (Fn : Int) / 64 = (Q : Int) := by omega
  have hsi : (Fn : Int) % 64 = (s : Int) := by omega
  have hq6 : Q ≤ 6 := by omega
  have hqi6 : (Q : Int) < 7 := by omega
  have hqi8 : (Q : Int) ≤ 7 := by omega
  have hqi9 : Q ≤ 7 := by omega
  have hcell : w1.cell? ⟨w.heap.size, Q, none⟩ = some (.int .u64 (a : Int)) := by have := (HD.out Q (by omega)).1; rw [HA.out] at this; simpa using this
  have hc2 : w1.cell? ⟨w.heap.size, Q + 1, none⟩ = some (.int .u64 (y : Int)) := by have := (HD.out (Q + 1) (by omega)).1; rw [HY.out] at this; simpa using this
  have hqi7 : (Q : Int) + 1 < 7 := by omega
  have hman : bits BinOp.or IntKind.u64 ((a : Int) / 2 ^ s) (IntKind.u64.wrap ((y : Int) * 2 ^ (64 - s))) = (M : Int) := by rw [← HM.out]; exact or_eq a y s (by rw [← HA.out]; exact dg_lt V Q)
  have hmask : bits BinOp.and IntKind.u64 (a : Int) (IntKind.u64.wrap (IntKind.u64.wrap (2 ^ s) - 1)) = ((a % 2 ^ s : Nat) : Int) := by have := mask_eq a s (by rw [← HA.out]; exact dg_lt V Q) hs6; rwa [Int.one_mul] at this
  have HAN : Hid (∀ k, Calls Tryz.prog 128 #[.slice (some ⟨w.heap.size, 0, none⟩) Q 7] (w1.drewN k) fun r w' => r = .returned (.bool (decide (V % BB ^ Q ≠ 0))) ∧ w' = w1.drewN k) := Lib.hid (fun k => any_any w.heap.size 0 Q 7 V _ (by omega) (((HD.out.sub (by omega)).drewN k)))
  have hml := HB.out
  generalize decide (V % BB ^ Q ≠ 0) = lo at *
  obtain ⟨z, hz⟩ : ∃ z, a % 2 ^ s = z := ⟨_, rfl⟩
  rw [hz] at hmask hml
  have HZ := Lib.hid hz
  have HML := Lib.hid hml
  clear hz hml
  rcases Nat.eq_zero_or_pos z with hz0 | hz0
  · subst hz0
    cases lo
    · obtain rfl : bw = false := by have := HML.out; simp at this; exact this
      go_wp2_with fail
      go_quiet (first
        | (go_at_call 128; exact Calls.quiet_of_same (HAN.out _)))
      go_wp2_with fail
      refine (sticky_any (M : Int) t _ (by omega) (by omega)).mono ?_
      rintro r w2 ⟨rfl, hb2⟩
      have f1_0 : w2.frozen? ⟨w.heap.size + 1, 0, none⟩ = false := carryF hb2 (v := .int .i64 0) (by first | with_reducible assumption | go_simp) (by first | with_reducible assumption | go_simp)
      have f1_1 : w2.frozen? ⟨w.heap.size + 1, 1, none⟩ = false := carryF hb2 (v := .int .i64 0) (by first | with_reducible assumption | go_simp) (by first | with_reducible assumption | go_simp)
      have c1_0 : w2.cell? ⟨w.heap.size + 1, 0, none⟩ = some (.int .i64 0) := carry hb2 (by first | with_reducible assumption | go_simp)
      have c1_1 : w2.cell? ⟨w.heap.size + 1, 1, none⟩ = some (.int .i64 0) := carry hb2 (by first | with_reducible assumption | go_simp)
      have z1 : w.heap.size + 1 < w2.heap.size := by have := hb2.size; first | omega | (simp at this; omega)
      have HBB := Lib.hid ((by repeat (first | with_reducible exact HBB.out | with_reducible refine Below.setCell ?_ (by first | omega | (simp; done) | (simp; omega)) _ | with_reducible refine Below.drew ?_ | with_reducible refine belowN ?_ _ | with_reducible refine Below.alloc ?_ (by first | omega | (simp; done) | (simp; omega)) _) : Below w.heap.size w _).trans (hb2.mono (by first | omega | (simp; done) | (simp; omega))))
      clear hb2
      go_wp2_with fail
      refine bodyPost_ret (v := realV (stk (M : Int) t) ((Fn : Int) - 192 - 1)) (by simp [results, Tryz.results109, go_sem, c1_0, c1_1]) rfl ⟨by simp, by repeat (first | with_reducible exact HBB.out | with_reducible exact Below.refl _ _ | with_reducible refine Below.drew ?_ | with_reducible refine belowN ?_ _ | with_reducible refine Below.setCell ?_ (by first | omega | (simp; done) | (simp; omega)) _ | with_reducible refine Below.alloc ?_ (by first | omega | (simp; done) | (simp; omega)) _)⟩
    · obtain rfl : bw = true := by have := HML.out; simp at this; exact this
      go_wp2_with fail
      go_quiet (first
        | (go_at_call 128; exact Calls.quiet_of_same (HAN.out _)))
      go_wp2_with fail
      refine (sticky_any (M : Int) true _ (by omega) (by omega)).mono ?_
      rintro r w2 ⟨rfl, hb2⟩
      have f1_0 : w2.frozen? ⟨w.heap.size + 1, 0, none⟩ = false := carryF hb2 (v := .int .i64 0) (by first | with_reducible assumption | go_simp) (by first | with_reducible assumption | go_simp)
      have f1_1 : w2.frozen? ⟨w.heap.size + 1, 1, none⟩ = false := carryF hb2 (v := .int .i64 0) (by first | with_reducible assumption | go_simp) (by first | with_reducible assumption | go_simp)
      have c1_0 : w2.cell? ⟨w.heap.size + 1, 0, none⟩ = some (.int .i64 0) := carry hb2 (by first | with_reducible assumption | go_simp)
      have c1_1 : w2.cell? ⟨w.heap.size + 1, 1, none⟩ = some (.int .i64 0) := carry hb2 (by first | with_reducible assumption | go_simp)
      have z1 : w.heap.size + 1 < w2.heap.size := by have := hb2.size; first | omega | (simp at this; omega)
      have HBB := Lib.hid ((by repeat (first | with_reducible exact HBB.out | with_reducible refine Below.setCell ?_ (by first | omega | (simp; done) | (simp; omega)) _ | with_reducible refine Below.drew ?_ | with_reducible refine belowN ?_ _ | with_reducible refine Below.alloc ?_ (by first | omega | (simp; done) | (simp; omega)) _) : Below w.heap.size w _).trans (hb2.mono (by first | omega | (simp; done) | (simp; omega))))
      clear hb2
      go_wp2_with fail
      refine bodyPost_ret (v := realV (stk (M : Int) true) ((Fn : Int) - 192 - 1)) (by simp [results, Tryz.results109, go_sem, c1_0, c1_1]) rfl ⟨by simp, by repeat (first | with_reducible exact HBB.out | with_reducible exact Below.refl _ _ | with_reducible refine Below.drew ?_ | with_reducible refine belowN ?_ _ | with_reducible refine Below.setCell ?_ (by first | omega | (simp; done) | (simp; omega)) _ | with_reducible refine Below.alloc ?_ (by first | omega | (simp; done) | (simp; omega)) _)⟩
  · have hz1 : (((z : Nat) : Int) != 0) = true := by simp; omega
    obtain rfl : bw = true := by have := HML.out; rw [← this]; simp; omega
    go_wp2_with fail
    go_quiet (first
      | (go_at_call 128; exact Calls.quiet_of_same (HAN.out _)))
    go_wp2_with fail
    refine (sticky_any (M : Int) true _ (by omega) (by omega)).mono ?_
    rintro r w2 ⟨rfl, hb2⟩
    have f1_0 : w2.frozen? ⟨w.heap.size + 1, 0, none⟩ = false := carryF hb2 (v := .int .i64 0) (by first | with_reducible assumption | go_simp) (by first | with_reducible assumption | go_simp)
    have f1_1 : w2.frozen? ⟨w.heap.size + 1, 1, none⟩ = false := carryF hb2 (v := .int .i64 0) (by first | with_reducible assumption | go_simp) (by first | with_reducible assumption | go_simp)
    have c1_0 : w2.cell? ⟨w.heap.size + 1, 0, none⟩ = some (.int .i64 0) := carry hb2 (by first | with_reducible assumption | go_simp)
    have c1_1 : w2.cell? ⟨w.heap.size + 1, 1, none⟩ = some (.int .i64 0) := carry hb2 (by first | with_reducible assumption | go_simp)
    have z1 : w.heap.size + 1 < w2.heap.size := by have := hb2.size; first | omega | (simp at this; omega)
    have HBB := Lib.hid ((by repeat (first | with_reducible exact HBB.out | with_reducible refine Below.setCell ?_ (by first | omega | (simp; done) | (simp; omega)) _ | with_reducible refine Below.drew ?_ | with_reducible refine belowN ?_ _ | with_reducible refine Below.alloc ?_ (by first | omega | (simp; done) | (simp; omega)) _) : Below w.heap.size w _).trans (hb2.mono (by first | omega | (simp; done) | (simp; omega))))
    clear hb2
    go_wp2_with fail
    refine bodyPost_ret (v := realV (stk (M : Int) true) ((Fn : Int) - 192 - 1)) (by simp [results, Tryz.results109, go_sem, c1_0, c1_1]) rfl ⟨by simp, by repeat (first | with_reducible exact HBB.out | with_reducible exact Below.refl _ _ | with_reducible refine Below.drew ?_ | with_reducible refine belowN ?_ _ | with_reducible refine Below.setCell ?_ (by first | omega | (simp; done) | (simp; omega)) _ | with_reducible refine Below.alloc ?_ (by first | omega | (simp; done) | (simp; omega)) _)⟩

set_option maxRecDepth 100000 in
set_option maxHeartbeats 1600000 in
theorem lead_b (V Fn L Q s M : Nat) (t bw : Bool) (a y : Nat) (w : World) (hV : V < BB ^ 7) (HL : Hid (blR V 7 = L)) (hF : (if (L : Int) - 62 < 0 then 0 else (L : Int) - 62) = (Fn : Int)) (hL : L ≤ 448) (hQ : Fn / 64 = Q) (hs : Fn % 64 = s) (hq7 : Hid (6 ≤ Q)) (hq66 : Q ≤ 6) (hs6 : s < 64)
    (HA : Hid (dg V Q = a)) (HY : Hid (dg V (Q + 1) = y)) (HM : Hid (a / 2 ^ s ||| (y * 2 ^ (64 - s) % BB) = M)) (hM : M < 4611686018427387904) (HB : Hid ((decide (a % 2 ^ s ≠ 0) || decide (V % BB ^ Q ≠ 0)) = bw)) :
    Calls Tryz.prog 109 #[digV V, .bool t] w fun r w' => r = .returned (realV (stk (M : Int) (bw || t)) ((Fn : Int) - 192 - 1)) ∧ Below w.heap.size w w' := by
  have hmx : ∀ w, Sem.run Tryz.prog (Builtin.max_ #[3, 3] 3 #[.int .i64 ((L : Int) - 62), .int .i64 0]) w = .ok (.int .i64 (Fn : Int)) w := fun w => by rw [← hF]; kernel_rfl
  clear hF
  have HW : Hid (∃ W, W = ((w.alloc (Obj.cells (digC V) 94)).alloc (Obj.cells #[Value.int IntKind.i64 0, Value.int IntKind.i64 0] 51)) ∧ Dig W w.heap.size 0 7 V ∧ W.cell? ⟨w.heap.size + 1, 0, none⟩ = some (.int .i64 0) ∧ W.cell? ⟨w.heap.size + 1, 1, none⟩ = some (.int .i64 0) ∧ W.frozen? ⟨w.heap.size + 1, 0, none⟩ = false ∧ W.frozen? ⟨w.heap.size + 1, 1, none⟩ = false ∧ w.heap.size + 1 < W.heap.size ∧ Below w.heap.size w W) := Lib.hid ⟨_, rfl, (Dig.of_alloc w V _).kept (B := w.heap.size + 1) ((Below.refl _ _).alloc (by simp) _) (by omega), by go_simp, by go_simp, by go_simp, by go_simp, by simp, ((Below.refl _ _).alloc (Nat.le_refl _) _).alloc (by simp) _⟩
  go_enter Tryz.func109, Tryz.ntmps109
  go_wp2_with fail
  obtain ⟨W, hW, hD, c1_0, c1_1, f1_0, f1_1, z1, hBW⟩ := HW.out
  rw [← hW]
  have HBB := Lib.hid hBW
  have HD := Lib.hid hD
  clear hW hBW hD HW
  refine (bl_any w.heap.size 0 7 7 V W (by omega) HD.out).mono ?_
  rintro r w1 ⟨rfl, rfl⟩
  rw [HL.out]
  have hQi : (Fn : Int) / 64 = (Q : Int) := by omega
  have hsi : (Fn : Int) % 64 = (s : Int) := by omega
  have hq6 : Q ≤ 6 := by omega
  have hqi6 : (Q : Int) < 7 := by omega
  have hqi8 : (Q : Int) ≤ 7 := by omega
  have hqi9 : Q ≤ 7 := by omega
  have hcell : w1.cell? ⟨w.heap.size, Q, none⟩ = some (.int .u64 (a : Int)) := by have := (HD.out Q (by omega)).1; rw [HA.out] at this; simpa using this
  have hqi7 : ¬ (Q : Int) + 1 < 7 := by have := hq7.out; omega
  have hman : (a : Int) / 2 ^ s = (M : Int) := by rw [← HM.out, show y = 0 from by rw [← HY.out]; exact dg_hi V (Q + 1) hV (by have := hq7.out; omega)]; simp
  have hmask : bits BinOp.and IntKind.u64 (a : Int) (IntKind.u64.wrap (IntKind.u64.wrap (2 ^ s) - 1)) = ((a % 2 ^ s : Nat) : Int) := by have := mask_eq a s (by rw [← HA.out]; exact dg_lt V Q) hs6; rwa [Int.one_mul] at this
  have HAN : Hid (∀ k, Calls Tryz.prog 128 #[.slice (some ⟨w.heap.size, 0, none⟩) Q 7] (w1.drewN k) fun r w' => r = .returned (.bool (decide (V % BB ^ Q ≠ 0))) ∧ w' = w1.drewN k) := Lib.hid (fun k => any_any w.heap.size 0 Q 7 V _ (by omega) (((HD.out.sub (by omega)).drewN k)))
  have hml := HB.out
  generalize decide (V % BB ^ Q ≠ 0) = lo at *
  obtain ⟨z, hz⟩ : ∃ z, a % 2 ^ s = z := ⟨_, rfl⟩
  rw [hz] at hmask hml
  have HZ := Lib.hid hz
  have HML := Lib.hid hml
  clear hz hml
  rcases Nat.eq_zero_or_pos z with hz0 | hz0
  · subst hz0
    cases lo
    · obtain rfl : bw = false := by have := HML.out; simp at this; exact this
      go_wp2_with fail
      go_quiet (first
        | (go_at_call 128; exact Calls.quiet_of_same (HAN.out _)))
      go_wp2_with fail
      refine (sticky_any (M : Int) t _ (by omega) (by omega)).mono ?_
      rintro r w2 ⟨rfl, hb2⟩
      have f1_0 : w2.frozen? ⟨w.heap.size + 1, 0, none⟩ = false := carryF hb2 (v := .int .i64 0) (by first | with_reducible assumption | go_simp) (by first | with_reducible assumption | go_simp)
      have f1_1 : w2.frozen? ⟨w.heap.size + 1, 1, none⟩ = false := carryF hb2 (v := .int .i64 0) (by first | with_reducible assumption | go_simp) (by first | with_reducible assumption | go_simp)
      have c1_0 : w2.cell? ⟨w.heap.size + 1, 0, none⟩ = some (.int .i64 0) := carry hb2 (by first | with_reducible assumption | go_simp)
      have c1_1 : w2.cell? ⟨w.heap.size + 1, 1, none⟩ = some (.int .i64 0) := carry hb2 (by first | with_reducible assumption | go_simp)
      have z1 : w.heap.size + 1 < w2.heap.size := by have := hb2.size; first | omega | (simp at this; omega)
      have HBB := Lib.hid ((by repeat (first | with_reducible exact HBB.out | with_reducible refine Below.setCell ?_ (by first | omega | (simp; done) | (simp; omega)) _ | with_reducible refine Below.drew ?_ | with_reducible refine belowN ?_ _ | with_reducible refine Below.alloc ?_ (by first | omega | (simp; done) | (simp; omega)) _) : Below w.heap.size w _).trans (hb2.mono (by first | omega | (simp; done) | (simp; omega))))
      clear hb2
      go_wp2_with fail
      refine bodyPost_ret (v := realV (stk (M : Int) t) ((Fn : Int) - 192 - 1)) (by simp [results, Tryz.results109, go_sem, c1_0, c1_1]) rfl ⟨by simp, by repeat (first | with_reducible exact HBB.out | with_reducible exact Below.refl _ _ | with_reducible refine Below.drew ?_ | with_reducible refine belowN ?_ _ | with_reducible refine Below.setCell ?_ (by first | omega | (simp; done) | (simp; omega)) _ | with_reducible refine Below.alloc ?_ (by first | omega | (simp; done) | (simp; omega)) _)⟩
    · obtain rfl : bw = true := by have := HML.out; simp at this; exact this
      go_wp2_with fail
      go_quiet (first
        | (go_at_call 128; exact Calls.quiet_of_same (HAN.out _)))
      go_wp2_with fail
      refine (sticky_any (M : Int) true _ (by omega) (by omega)).mono ?_
      rintro r w2 ⟨rfl, hb2⟩
      have f1_0 : w2.frozen? ⟨w.heap.size + 1, 0, none⟩ = false := carryF hb2 (v := .int .i64 0) (by first | with_reducible assumption | go_simp) (by first | with_reducible assumption | go_simp)
      have f1_1 : w2.frozen? ⟨w.heap.size + 1, 1, none⟩ = false := carryF hb2 (v := .int .i64 0) (by first | with_reducible assumption | go_simp) (by first | with_reducible assumption | go_simp)
      have c1_0 : w2.cell? ⟨w.heap.size + 1, 0, none⟩ = some (.int .i64 0) := carry hb2 (by first | with_reducible assumption | go_simp)
      have c1_1 : w2.cell? ⟨w.heap.size + 1, 1, none⟩ = some (.int .i64 0) := carry hb2 (by first | with_reducible assumption | go_simp)
      have z1 : w.heap.size + 1 < w2.heap.size := by have := hb2.size; first | omega | (simp at this; omega)
      have HBB := Lib.hid ((by repeat (first | with_reducible exact HBB.out | with_reducible refine Below.setCell ?_ (by first | omega | (simp; done) | (simp; omega)) _ | with_reducible refine Below.drew ?_ | with_reducible refine belowN ?_ _ | with_reducible refine Below.alloc ?_ (by first | omega | (simp; done) | (simp; omega)) _) : Below w.heap.size w _).trans (hb2.mono (by first | omega | (simp; done) | (simp; omega))))
      clear hb2
      go_wp2_with fail
      refine bodyPost_ret (v := realV (stk (M : Int) true) ((Fn : Int) - 192 - 1)) (by simp [results, Tryz.results109, go_sem, c1_0, c1_1]) rfl ⟨by simp, by repeat (first | with_reducible exact HBB.out | with_reducible exact Below.refl _ _ | with_reducible refine Below.drew ?_ | with_reducible refine belowN ?_ _ | with_reducible refine Below.setCell ?_ (by first | omega | (simp; done) | (simp; omega)) _ | with_reducible refine Below.alloc ?_ (by first | omega | (simp; done) | (simp; omega)) _)⟩
  · have hz1 : (((z : Nat) : Int) != 0) = true := by simp; omega
    obtain rfl : bw = true := by have := HML.out; rw [← this]; simp; omega
    go_wp2_with fail
    go_quiet (first
      | (go_at_call 128; exact Calls.quiet_of_same (HAN.out _)))
    go_wp2_with fail
    refine (sticky_any (M : Int) true _ (by omega) (by omega)).mono ?_
    rintro r w2 ⟨rfl, hb2⟩
    have f1_0 : w2.frozen? ⟨w.heap.size + 1, 0, none⟩ = false := carryF hb2 (v := .int .i64 0) (by first | with_reducible assumption | go_simp) (by first | with_reducible assumption | go_simp)
    have f1_1 : w2.frozen? ⟨w.heap.size + 1, 1, none⟩ = false := carryF hb2 (v := .int .i64 0) (by first | with_reducible assumption | go_simp) (by first | with_reducible assumption | go_simp)
    have c1_0 : w2.cell? ⟨w.heap.size + 1, 0, none⟩ = some (.int .i64 0) := carry hb2 (by first | with_reducible assumption | go_simp)
    have c1_1 : w2.cell? ⟨w.heap.size + 1, 1, none⟩ = some (.int .i64 0) := carry hb2 (by first | with_reducible assumption | go_simp)
    have z1 : w.heap.size + 1 < w2.heap.size := by have := hb2.size; first | omega | (simp at this; omega)
    have HBB := Lib.hid ((by repeat (first | with_reducible exact HBB.out | with_reducible refine Below.setCell ?_ (by first | omega | (simp; done) | (simp; omega)) _ | with_reducible refine Below.drew ?_ | with_reducible refine belowN ?_ _ | with_reducible refine Below.alloc ?_ (by first | omega | (simp; done) | (simp; omega)) _) : Below w.heap.size w _).trans (hb2.mono (by first | omega | (simp; done) | (simp; omega))))
    clear hb2
    go_wp2_with fail
    refine bodyPost_ret (v := realV (stk (M : Int) true) ((Fn : Int) - 192 - 1)) (by simp [results, Tryz.results109, go_sem, c1_0, c1_1]) rfl ⟨by simp, by repeat (first | with_reducible exact HBB.out | with_reducible exact Below.refl _ _ | with_reducible refine Below.drew ?_ | with_reducible refine belowN ?_ _ | with_reducible refine Below.setCell ?_ (by first | omega | (simp; done) | (simp; omega)) _ | with_reducible refine Below.alloc ?_ (by first | omega | (simp; done) | (simp; omega)) _)⟩

end Go.Proofs.YtbfknapmhkpgcaaGreatDoor
