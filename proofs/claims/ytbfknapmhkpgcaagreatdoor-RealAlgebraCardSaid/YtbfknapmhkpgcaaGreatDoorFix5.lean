/-
  PACKAGE real, fixed point: scaled.
-/
import Derived.Test.YtbfknapmhkpgcaaGreatDoorFix4
import Derived.LoopTactic
import Derived.StillTailTactics

namespace Go.Proofs.YtbfknapmhkpgcaaGreatDoor
open Go.RowKit
set_option linter.unusedVariables false

set_option maxRecDepth 100000 in
theorem lead_any (V : Nat) (t : Bool) (w : World) (hV : V < BB ^ 7) :
    Calls Tryz.prog 109 #[digV V, .bool t] w fun r w' => r = .returned (realV (ldM V t) (ldE V)) ∧ Below w.heap.size w w' := by
  obtain ⟨b1, b2⟩ := ld_bd V hV
  have bl := blR_le 7 V
  have hF : (if (blR V 7 : Int) - 62 < 0 then 0 else (blR V 7 : Int) - 62) = (ldF V : Int) := by
    unfold ldF
    split <;> omega
  have e : ldF V = 64 * (ldF V / 64) + ldF V % 64 := (Nat.div_add_mod _ _).symm
  have hm : dg V (ldF V / 64) / 2 ^ (ldF V % 64) ||| (dg V (ldF V / 64 + 1) * 2 ^ (64 - ldF V % 64) % BB) = V / 2 ^ ldF V := by
    rw [lead_man V _ _ (Nat.mod_lt _ (by decide)), ← e]
    exact Nat.mod_eq_of_lt (Nat.lt_trans b1 (by decide))
  have hb : (decide (dg V (ldF V / 64) % 2 ^ (ldF V % 64) ≠ 0) || decide (V % BB ^ (ldF V / 64) ≠ 0)) = decide (V % 2 ^ ldF V ≠ 0) := by
    have := below_iff V (ldF V / 64) (ldF V % 64) (Nat.mod_lt _ (by decide))
    rw [← e] at this
    rw [← Bool.decide_or, decide_eq_decide]
    exact this
  unfold ldM ldE
  by_cases h6 : ldF V / 64 < 6
  · exact lead_a V (ldF V) (blR V 7) _ _ (V / 2 ^ ldF V) t _ _ _ w hV (Lib.hid rfl) hF bl rfl rfl h6 (Nat.mod_lt _ (by decide)) (Lib.hid rfl) (Lib.hid rfl) (Lib.hid hm) b1 (Lib.hid hb)
  · exact lead_b V (ldF V) (blR V 7) _ _ (V / 2 ^ ldF V) t _ _ _ w hV (Lib.hid rfl) hF bl rfl rfl (Lib.hid (by omega)) (by omega) (Nat.mod_lt _ (by decide)) (Lib.hid rfl) (Lib.hid rfl) (Lib.hid hm) b1 (Lib.hid hb)

/-- the table of the powers of ten lies where it lies -/
def P10 (w : World) : Prop := (∀ i : Nat, i < 20 → w.cell? ⟨0, i, none⟩ = some (.int .u64 ((10 ^ i : Nat) : Int))) ∧ 0 < w.heap.size

theorem P10.kept {w w' : World} {B : Nat} (h : P10 w) (k : Below B w w') (hB : w.heap.size ≤ B) : P10 w' :=
  ⟨fun i hi => (k.cell (p := ⟨0, i, none⟩) (Nat.lt_of_lt_of_le h.2 hB)).trans (h.1 i hi), Nat.lt_of_lt_of_le h.2 k.size⟩

/-- a number in fixed point in block n, the result's cells behind it -/
structure FSt (w : World) (n V : Nat) (wr : World) : Prop where
  dig : Dig wr n 0 7 V
  r0 : wr.cell? ⟨n + 1, 0, none⟩ = some (.int .i64 0)
  r1 : wr.cell? ⟨n + 1, 1, none⟩ = some (.int .i64 0)
  f0 : wr.frozen? ⟨n + 1, 0, none⟩ = false
  f1 : wr.frozen? ⟨n + 1, 1, none⟩ = false
  z : n + 1 < wr.heap.size
  bel : Below n w wr

theorem FSt.only {w wr w' : World} {n V V' : Nat} (h : FSt w n V wr) (k : Only n wr w') (d : Dig w' n 0 7 V') : FSt w n V' w' :=
  ⟨d, (k.cell (p := ⟨n + 1, 0, none⟩) (by simp)).trans h.r0, (k.cell (p := ⟨n + 1, 1, none⟩) (by simp)).trans h.r1, (k.froz (p := ⟨n + 1, 0, none⟩) (by simp)).trans h.f0, (k.froz (p := ⟨n + 1, 1, none⟩) (by simp)).trans h.f1, by rw [k.size]; exact h.z, k.below h.bel (Nat.le_refl _)⟩

theorem FSt.drew {w wr : World} {n V : Nat} (h : FSt w n V wr) : FSt w n V wr.drew :=
  ⟨fun i hi => by simpa using h.dig i hi, by simpa using h.r0, by simpa using h.r1, by simpa using h.f0, by simpa using h.f1, by simpa using h.z, h.bel.drew⟩

theorem FSt.start (w : World) (V : Nat) : FSt w w.heap.size V ((w.alloc (Obj.cells (digC V) 94)).alloc (Obj.cells #[Value.int IntKind.i64 0, Value.int IntKind.i64 0] 51)) :=
  ⟨(Dig.of_alloc w V _).kept (B := w.heap.size + 1) ((Below.refl _ _).alloc (by simp) _) (by omega), by go_simp, by go_simp, by go_simp, by go_simp, by simp, ((Below.refl _ _).alloc (Nat.le_refl _) _).alloc (by simp) _⟩

theorem min19 (j : Nat) : (if (19 : Int) < (j : Int) then 19 else (j : Int)) = ((min j 19 : Nat) : Int) := by
  split <;> omega

theorem p10_le (s : Nat) (h : s ≤ 19) : 10 ^ s < BB := Nat.lt_of_le_of_lt (Nat.pow_le_pow_right (by decide) h) (by decide)

set_option maxRecDepth 100000 in
set_option maxHeartbeats 1600000 in
theorem scp_any (V n : Nat) (w : World) (hT : P10 w) (hn : n ≤ 2000) (hV : V * 10 ^ n < BB ^ 7) :
    Calls Tryz.prog 91 #[digV V, .int .i64 (n : Int)] w fun r w' => r = .returned (realV (ldM (V * 10 ^ n) false) (ldE (V * 10 ^ n))) ∧ Below w.heap.size w w' := by
  have HF := Lib.hid (FSt.start w V)
  have HT := Lib.hid hT
  clear hT
  go_enter Tryz.func91, Tryz.ntmps91
  go_wp2_with fail
  go_loopw [1] (fun x wr => ∃ j k : Nat, j + k = n ∧ x = .int .i64 (j : Int) ∧ FSt w w.heap.size (V * 10 ^ k) wr) (fun x _ => (intOf x).toNat)
  case atStart => exact ⟨n, 0, rfl, rfl, by simpa using HF.out⟩
  case round =>
    obtain ⟨j, k, hjk, rfl, hF⟩ := hrel
    have HW := Lib.hid hF
    clear hF HF
    rcases Nat.eq_zero_or_pos j with hj | hj
    · subst hj
      obtain rfl : k = n := by omega
      go_wp2_with fail
      go_loopw [1, 6] (fun x m wq => x = .int .i64 0 ∧ m = .bool false ∧ wq = wr) (fun _ _ _ => 0)
      case atStart => exact ⟨rfl, rfl, rfl⟩
      case round =>
        obtain ⟨rfl, rfl, rfl⟩ := hrel
        have d0 : wr.cell? ⟨w.heap.size, 0, none⟩ = some (.int .u64 (dg (V * 10 ^ k) 0 : Int)) := by have := (HW.out.dig 0 (by decide)).1; simpa using this
        have d1 : wr.cell? ⟨w.heap.size, 1, none⟩ = some (.int .u64 (dg (V * 10 ^ k) 1 : Int)) := by have := (HW.out.dig 1 (by decide)).1; simpa using this
        have d2 : wr.cell? ⟨w.heap.size, 2, none⟩ = some (.int .u64 (dg (V * 10 ^ k) 2 : Int)) := by have := (HW.out.dig 2 (by decide)).1; simpa using this
        have d3 : wr.cell? ⟨w.heap.size, 3, none⟩ = some (.int .u64 (dg (V * 10 ^ k) 3 : Int)) := by have := (HW.out.dig 3 (by decide)).1; simpa using this
        have d4 : wr.cell? ⟨w.heap.size, 4, none⟩ = some (.int .u64 (dg (V * 10 ^ k) 4 : Int)) := by have := (HW.out.dig 4 (by decide)).1; simpa using this
        have d5 : wr.cell? ⟨w.heap.size, 5, none⟩ = some (.int .u64 (dg (V * 10 ^ k) 5 : Int)) := by have := (HW.out.dig 5 (by decide)).1; simpa using this
        have d6 : wr.cell? ⟨w.heap.size, 6, none⟩ = some (.int .u64 (dg (V * 10 ^ k) 6 : Int)) := by have := (HW.out.dig 6 (by decide)).1; simpa using this
        go_wp2_with fail
        refine (lead_any (V * 10 ^ k) false _ hV).mono ?_
        rintro r w2 ⟨rfl, hb2⟩
        have c1_0 : w2.cell? ⟨w.heap.size + 1, 0, none⟩ = some (.int .i64 0) := carry hb2 HW.out.r0
        have c1_1 : w2.cell? ⟨w.heap.size + 1, 1, none⟩ = some (.int .i64 0) := carry hb2 HW.out.r1
        have f1_0 : w2.frozen? ⟨w.heap.size + 1, 0, none⟩ = false := carryF hb2 (v := .int .i64 0) HW.out.r0 HW.out.f0
        have f1_1 : w2.frozen? ⟨w.heap.size + 1, 1, none⟩ = false := carryF hb2 (v := .int .i64 0) HW.out.r1 HW.out.f1
        have z1 : w.heap.size + 1 < w2.heap.size := Nat.lt_of_lt_of_le HW.out.z hb2.size
        have HBB := Lib.hid (HW.out.bel.trans (hb2.mono (by have := HW.out.z; omega)))
        clear hb2 d0 d1 d2 d3 d4 d5 d6
        generalize hm : ldM (V * 10 ^ k) false = am
        generalize he : ldE (V * 10 ^ k) = ae
        have HQ := Lib.hid (And.intro hm he)
        clear hm he
        go_wp2_with fail
        refine bodyPost_ret (v := realV am ae) (by simp [results, Tryz.results91, go_sem, c1_0, c1_1]) rfl ⟨by rw [← HQ.out.1, ← HQ.out.2], by repeat (first | with_reducible exact HBB.out | with_reducible exact Below.refl _ _ | with_reducible refine Below.drew ?_ | with_reducible refine belowN ?_ _ | with_reducible refine Below.setCell ?_ (by first | omega | (simp; done) | (simp; omega)) _ | with_reducible refine Below.alloc ?_ (by first | omega | (simp; done) | (simp; omega)) _)⟩
    · have hmn : ∀ w, Sem.run Tryz.prog (Builtin.min_ #[3, 3] 3 #[.int .i64 (j : Int), .int .i64 19]) w = .ok (.int .i64 ((min j 19 : Nat) : Int)) w := fun w => by rw [← min19]; kernel_rfl
      have hs1 : min j 19 ≤ 19 := Nat.min_le_right _ _
      have hs2 : min j 19 ≤ j := Nat.min_le_left _ _
      have hs3 : 1 ≤ min j 19 := by omega
      generalize min j 19 = s at *
      have hcell := (HT.out.kept HW.out.bel (Nat.le_refl _)).1 s (by omega)
      have hj0 : (0 : Int) < (j : Int) := by omega
      have hs4 : (s : Int) < 20 := by omega
      have HP : Hid (∃ p : Nat, p = 10 ^ s) := Lib.hid ⟨_, rfl⟩
      obtain ⟨p, hp⟩ := HP.out
      rw [← hp] at hcell
      have HPE := Lib.hid hp
      have HPB := Lib.hid (show p < BB from by rw [hp]; exact p10_le s hs1)
      clear hp HP
      go_wp2_with fail
      go_still_tail 4, (by kernel_rfl)
      change wpList _ _ _ _ _ wr.drew
      go_wp2_with fail
      refine (mul_any w.heap.size 0 7 7 (V * 10 ^ k) p 0 wr.drew (by omega) HPB.out (by decide) HW.out.drew.dig).mono ?_
      rintro r w1 ⟨rfl, ho, hd⟩
      have HF1 := Lib.hid (HW.out.drew.only (V' := V * 10 ^ (k + s)) ho.toOnly (by rw [HPE.out, Nat.add_zero] at hd; rw [Nat.pow_add, ← Nat.mul_assoc]; exact hd))
      clear ho hd
      have hjs : (j : Int) - (s : Int) = ((j - s : Nat) : Int) := by omega
      go_wp2_with fail
      exact ⟨⟨j - s, k + s, by omega, by simp, HF1.out⟩, by simp [intOf]; omega⟩

theorem nz_step (V k s : Nat) : decide (V % 10 ^ (k + s) ≠ 0) = (decide (V % 10 ^ k ≠ 0) || decide (V / 10 ^ k % 10 ^ s ≠ 0)) := by
  rw [Nat.pow_add, Nat.mod_mul, ← Bool.decide_or, decide_eq_decide]
  have hp : 0 < 10 ^ k := Nat.pow_pos (by decide)
  generalize V % 10 ^ k = a
  generalize V / 10 ^ k % 10 ^ s = b
  constructor
  · intro h
    by_cases hb : b = 0
    · subst hb
      left
      simpa using h
    · exact Or.inr hb
  · intro h q
    rcases h with h | h
    · omega
    · have : 10 ^ k * b = 0 := by omega
      rcases Nat.mul_eq_zero.1 this with q | q <;> omega

set_option maxRecDepth 100000 in
set_option maxHeartbeats 1600000 in
theorem scn_any (V n : Nat) (w : World) (hT : P10 w) (h1 : 1 ≤ n) (hn : n ≤ 2000) (hV : V < BB ^ 7) (HDiv : Hid (∀ s, s ≤ 19 → DivOk (10 ^ s))) :
    Calls Tryz.prog 91 #[digV V, .int .i64 (-(n : Int))] w fun r w' => r = .returned (realV (ldM (V / 10 ^ n) (decide (V % 10 ^ n ≠ 0))) (ldE (V / 10 ^ n))) ∧ Below w.heap.size w w' := by
  have HF := Lib.hid (FSt.start w V)
  have HT := Lib.hid hT
  clear hT
  have hneg : ¬ (0 : Int) < -(n : Int) := by omega
  have HV := Lib.hid hV
  go_enter Tryz.func91, Tryz.ntmps91
  go_wp2_with fail
  go_loopw [1] (fun x wr => x = .int .i64 (-(n : Int)) ∧ FSt w w.heap.size V wr) (fun _ _ => 0)
  case atStart => exact ⟨rfl, HF.out⟩
  case round =>
    obtain ⟨rfl, hF⟩ := hrel
    have HW0 := Lib.hid hF
    clear hF HF
    rename_i wr0 _ _
    go_wp2_with fail
    go_loopw [1, 6] (fun x m wr => ∃ (j k : Nat) (b : Bool), j + k = n ∧ x = .int .i64 (-(j : Int)) ∧ m = .bool b ∧ b = decide (V % 10 ^ k ≠ 0) ∧ FSt w w.heap.size (V / 10 ^ k) wr) (fun x _ _ => (-(intOf x)).toNat)
    case atStart => exact ⟨n, 0, false, rfl, rfl, rfl, by simp [Nat.mod_one], by simpa using HW0.out⟩
    case round =>
      obtain ⟨j, k, b, hjk, rfl, rfl, hb, hF⟩ := hrel
      have HW := Lib.hid hF
      have HBV := Lib.hid hb
      have HVK := Lib.hid (Nat.lt_of_le_of_lt (Nat.div_le_self V (10 ^ k)) HV.out)
      clear hF hb
      rcases Nat.eq_zero_or_pos j with hj | hj
      · subst hj
        obtain rfl : k = n := by omega
        have d0 : wr.cell? ⟨w.heap.size, 0, none⟩ = some (.int .u64 (dg (V / 10 ^ k) 0 : Int)) := by have := (HW.out.dig 0 (by decide)).1; simpa using this
        have d1 : wr.cell? ⟨w.heap.size, 1, none⟩ = some (.int .u64 (dg (V / 10 ^ k) 1 : Int)) := by have := (HW.out.dig 1 (by decide)).1; simpa using this
        have d2 : wr.cell? ⟨w.heap.size, 2, none⟩ = some (.int .u64 (dg (V / 10 ^ k) 2 : Int)) := by have := (HW.out.dig 2 (by decide)).1; simpa using this
        have d3 : wr.cell? ⟨w.heap.size, 3, none⟩ = some (.int .u64 (dg (V / 10 ^ k) 3 : Int)) := by have := (HW.out.dig 3 (by decide)).1; simpa using this
        have d4 : wr.cell? ⟨w.heap.size, 4, none⟩ = some (.int .u64 (dg (V / 10 ^ k) 4 : Int)) := by have := (HW.out.dig 4 (by decide)).1; simpa using this
        have d5 : wr.cell? ⟨w.heap.size, 5, none⟩ = some (.int .u64 (dg (V / 10 ^ k) 5 : Int)) := by have := (HW.out.dig 5 (by decide)).1; simpa using this
        have d6 : wr.cell? ⟨w.heap.size, 6, none⟩ = some (.int .u64 (dg (V / 10 ^ k) 6 : Int)) := by have := (HW.out.dig 6 (by decide)).1; simpa using this
        go_wp2_with fail
        refine (lead_any (V / 10 ^ k) b _ HVK.out).mono ?_
        rintro r w2 ⟨rfl, hb2⟩
        have c1_0 : w2.cell? ⟨w.heap.size + 1, 0, none⟩ = some (.int .i64 0) := carry hb2 HW.out.r0
        have c1_1 : w2.cell? ⟨w.heap.size + 1, 1, none⟩ = some (.int .i64 0) := carry hb2 HW.out.r1
        have f1_0 : w2.frozen? ⟨w.heap.size + 1, 0, none⟩ = false := carryF hb2 (v := .int .i64 0) HW.out.r0 HW.out.f0
        have f1_1 : w2.frozen? ⟨w.heap.size + 1, 1, none⟩ = false := carryF hb2 (v := .int .i64 0) HW.out.r1 HW.out.f1
        have z1 : w.heap.size + 1 < w2.heap.size := Nat.lt_of_lt_of_le HW.out.z hb2.size
        have HBB := Lib.hid (HW.out.bel.trans (hb2.mono (by have := HW.out.z; omega)))
        clear hb2 d0 d1 d2 d3 d4 d5 d6
        generalize hm : ldM (V / 10 ^ k) b = am
        generalize he : ldE (V / 10 ^ k) = ae
        have HQ := Lib.hid (And.intro hm he)
        clear hm he
        go_wp2_with fail
        refine bodyPost_ret (v := realV am ae) (by simp [results, Tryz.results91, go_sem, c1_0, c1_1]) rfl ⟨by rw [← HQ.out.1, ← HQ.out.2, HBV.out], by repeat (first | with_reducible exact HBB.out | with_reducible exact Below.refl _ _ | with_reducible refine Below.drew ?_ | with_reducible refine belowN ?_ _ | with_reducible refine Below.setCell ?_ (by first | omega | (simp; done) | (simp; omega)) _ | with_reducible refine Below.alloc ?_ (by first | omega | (simp; done) | (simp; omega)) _)⟩
      · have hmn : ∀ w, Sem.run Tryz.prog (Builtin.min_ #[3, 3] 3 #[.int .i64 (j : Int), .int .i64 19]) w = .ok (.int .i64 ((min j 19 : Nat) : Int)) w := fun w => by rw [← min19]; kernel_rfl
        have hs1 : min j 19 ≤ 19 := Nat.min_le_right _ _
        have hs2 : min j 19 ≤ j := Nat.min_le_left _ _
        have hs3 : 1 ≤ min j 19 := by omega
        generalize min j 19 = s at *
        have hcell := (HT.out.kept HW.out.bel (Nat.le_refl _)).1 s (by omega)
        have hj0 : -(j : Int) < 0 := by omega
        have hs4 : (s : Int) < 20 := by omega
        have HP : Hid (∃ p : Nat, p = 10 ^ s) := Lib.hid ⟨_, rfl⟩
        obtain ⟨p, hp⟩ := HP.out
        rw [← hp] at hcell
        have HPE := Lib.hid hp
        have HPB := Lib.hid (show p < BB from by rw [hp]; exact p10_le s hs1)
        have HP0 := Lib.hid (show 0 < p from by rw [hp]; exact Nat.pow_pos (by decide))
        have HPD : Hid (DivOk p) := Lib.hid (by rw [hp]; exact HDiv.out s hs1)
        clear hp HP
        go_wp2_with fail
        go_still_tail 4, (by kernel_rfl)
        change wpList _ _ _ _ _ (World.drew _)
        go_wp2_with fail
        refine (div_any w.heap.size 0 7 7 (V / 10 ^ k) p _ (by omega) HVK.out HP0.out HPB.out HW.out.drew.dig HPD).mono ?_
        rintro r w1 ⟨rfl, ho, hd⟩
        have HF1 := Lib.hid (HW.out.drew.only (V' := V / 10 ^ (k + s)) ho.toOnly (by rw [HPE.out] at hd; rw [Nat.pow_add, ← Nat.div_div_eq_div_mul]; exact hd))
        have HNZ := Lib.hid (show decide (V % 10 ^ (k + s) ≠ 0) = (b || decide (V / 10 ^ k % p ≠ 0)) from by rw [HBV.out, HPE.out]; exact nz_step V k s)
        clear ho hd
        have hjs : -(j : Int) + (s : Int) = -((j - s : Nat) : Int) := by omega
        generalize V / 10 ^ k % p = q at *
        cases b
        · rcases Nat.eq_zero_or_pos q with hq | hq
          · subst hq
            go_wp2_with fail
            exact ⟨⟨j - s, k + s, false, by omega, by simp <;> omega, rfl, by rw [HNZ.out]; rfl, HF1.out⟩, by simp [intOf] <;> omega⟩
          · have hq1 : (((q : Nat) : Int) != 0) = true := by simp; omega
            go_wp2_with fail
            exact ⟨⟨j - s, k + s, true, by omega, by simp <;> omega, rfl, by rw [HNZ.out]; simp; omega, HF1.out⟩, by simp [intOf] <;> omega⟩
        · go_wp2_with fail
          exact ⟨⟨j - s, k + s, true, by omega, by simp <;> omega, rfl, by rw [HNZ.out]; simp, HF1.out⟩, by simp [intOf] <;> omega⟩

end Go.Proofs.YtbfknapmhkpgcaaGreatDoor
