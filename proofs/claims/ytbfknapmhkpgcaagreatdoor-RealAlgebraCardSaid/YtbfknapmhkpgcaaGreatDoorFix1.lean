/-
  PACKAGE real, fixed point: multiply.
-/
import Derived.Test.YtbfknapmhkpgcaaGreatDoorFixN
import Derived.Test.YtbfknapmhkpgcaaGreatDoorShelf
import Derived.LoopTactic
import Derived.Laws.Externs

namespace Go.Proofs.YtbfknapmhkpgcaaGreatDoor
open Go.RowKit
set_option linter.unusedVariables false

theorem run_add (x y : Nat) (w : World) :
    Sem.run Tryz.prog (callFunc 107 #[.int .u64 x, .int .u64 y, .int .u64 0]) w = .ok (.value (.tuple #[.int .u64 (((x + y) % BB : Nat) : Int), .int .u64 (((x + y) / BB : Nat) : Int)])) w := by
  rw [run_callFunc_extern Tryz.func107 (by kernel_rfl) (by kernel_rfl) (by kernel_rfl) (e := add64Entry) (by kernel_rfl), run_add64 (P := Tryz.prog) (x : Int) (y : Int) (0 : Int) (by omega) (by omega) (by omega) (by omega)]
  simp only [Result.andThen, Int.add_zero]
  congr 5

theorem run_mul (x y : Nat) (hx : x < BB) (hy : y < BB) (w : World) :
    Calls Tryz.prog 106 #[.int .u64 x, .int .u64 y] w fun r w' => r = .returned (.tuple #[.int .u64 ((x * y / BB : Nat) : Int), .int .u64 ((x * y % BB : Nat) : Int)]) ∧ w' = w := Tryz.bits_Mul64 x y hx hy w

def MSt (b o n V Q k : Nat) (w : World) : Prop := ∀ i, i < n → w.cell? ⟨b, o + i, none⟩ = some (.int .u64 (dg (if i < k then Q else V) i : Int)) ∧ w.frozen? ⟨b, o + i, none⟩ = false

theorem MSt.step {b o n V Q k : Nat} {w : World} (h : MSt b o n V Q k w) (hk : k < n) {t : Int} (ht : t = (dg Q k : Int)) : MSt b o n V Q (k + 1) (w.setCell ⟨b, o + k, none⟩ (.int .u64 t)) := by
  intro i hi
  obtain ⟨h1, h2⟩ := h i hi
  refine ⟨?_, by rw [World.frozen?_setCell]; exact h2⟩
  by_cases e : i = k
  · subst e
    rw [World.cell?_setCell_same _ _ _ h1, if_pos (by omega), ht]
  · rw [World.cell?_setCell_other _ _ _ _ (by intro q; have := congrArg Addr.off q; simp at this; omega), h1]
    by_cases hlt : i < k
    · rw [if_pos hlt, if_pos (by omega)]
    · rw [if_neg hlt, if_neg (by omega)]

set_option maxRecDepth 100000 in
set_option maxHeartbeats 1600000 in
theorem mul_any (b o n cap V f p : Nat) (w : World) (hn : n ≤ 7) (hf : f < BB) (hp : p < BB) (hD : Dig w b o n V) :
    Calls Tryz.prog 90 #[.slice (some ⟨b, o, none⟩) n cap, .int .u64 f, .int .u64 p] w fun r w' => r = .returned (.int .u64 (((V % BB ^ n * f + p) / BB ^ n : Nat) : Int)) ∧ OnlyR b o n w w' ∧ Dig w' b o n (V * f + p) := by
  obtain ⟨Q, hQ⟩ : ∃ Q, Q = V * f + p := ⟨_, rfl⟩
  have HQ := Lib.hid hQ
  rw [← hQ]
  clear hQ
  have H0 : Hid (MSt b o n V Q 0 w) := Lib.hid (fun i hi => by rw [if_neg (by omega)]; exact hD i hi)
  clear hD
  have hn3 : (n : Int) ≤ 7 := by omega
  go_enter Tryz.func90, Tryz.ntmps90
  go_wp2_with fail
  go_loopw [2, 14] (fun pl i wr => ∃ k c : Nat, k ≤ n ∧ i = .int .i64 k ∧ pl = .int .u64 c ∧ c = (V % BB ^ k * f + p) / BB ^ k ∧ OnlyR b o n w wr ∧ MSt b o n V Q k wr) (fun _ i _ => n - (intOf i).toNat)
  case atStart => exact ⟨0, p, Nat.zero_le _, rfl, rfl, by simp [Nat.mod_one], OnlyR.refl _ _ _ _, H0.out⟩
  case round =>
    obtain ⟨k, c, hk, rfl, rfl, hc, ho, hm⟩ := hrel
    have HO := Lib.hid ho
    have HM := Lib.hid hm
    have HC := Lib.hid hc
    clear ho hm hc
    by_cases hlt : k < n
    · obtain ⟨hcell, hfr⟩ := HM.out k hlt
      rw [if_neg (by omega)] at hcell
      have hcb : c < BB := by rw [HC.out]; exact carry_lt V f p k hf hp
      obtain ⟨s1, s2, s3⟩ := hl_sum (dg V k) f c (dg_lt V k) hf hcb
      have HQD : Hid (((dg V k * f % BB + c) % BB : Nat) = dg Q k) := Lib.hid (by rw [s1, HQ.out, mul_digit, HC.out])
      have HCS : Hid (dg V k * f / BB + (dg V k * f % BB + c) / BB = (V % BB ^ (k + 1) * f + p) / BB ^ (k + 1)) := Lib.hid (by rw [s2, mul_step, HC.out])
      have HMU := Lib.hid (fun w => run_mul (dg V k) f (dg_lt V k) hf w)
      have hA := fun w => run_add (dg V k * f % BB) c w
      rw [← s2] at s3
      generalize dg V k * f % BB = L at *
      generalize dg V k * f / BB = H at *
      generalize (L + c) % BB = T at *
      generalize (L + c) / BB = K at *
      generalize dg V k = a at *
      have hW : IntKind.u64.wrap ((H : Int) + (K : Int)) = ((H + K : Nat) : Int) := by
        rw [IntKind.wrap_u64]
        simp only [BB] at s3
        omega
      clear s1 s2 hcb
      have hlt2 : (k : Int) < (n : Int) := by omega
      go_wp2_with fail
      refine (HMU.out _).mono ?_
      rintro r w1 ⟨rfl, rfl⟩
      go_wp2_with fail
      exact ⟨⟨k + 1, H + K, by omega, by simp, by simp, HCS.out, HO.out.setCell hlt _, HM.out.step hlt (by rw [HQD.out])⟩, by simp [intOf]; omega⟩
    · obtain rfl : k = n := by omega
      go_wp2_with fail
      go_ret
      exact ⟨congrArg (fun x : Nat => Ending.returned (Value.int IntKind.u64 (x : Int))) HC.out, HO.out, fun i hi => by have := HM.out i hi; rwa [if_pos hi] at this⟩

end Go.Proofs.YtbfknapmhkpgcaaGreatDoor
