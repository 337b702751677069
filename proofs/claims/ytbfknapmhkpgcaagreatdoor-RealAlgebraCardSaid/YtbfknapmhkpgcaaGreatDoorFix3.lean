/-
  PACKAGE real, fixed point: divide, from what bits.Div64 returns.
-/
import Derived.Test.YtbfknapmhkpgcaaGreatDoorFix2

namespace Go.Proofs.YtbfknapmhkpgcaaGreatDoor
open Go.RowKit
set_option linter.unusedVariables false

theorem div_hi (V d k : Nat) (hd : 0 < d) : V / BB ^ (k + 1) % d * BB + dg V k < d * BB ∧ (V / BB ^ (k + 1) % d * BB + dg V k) / d = dg (V / d) k ∧ (V / BB ^ (k + 1) % d * BB + dg V k) % d = V / BB ^ k % d := by
  have e : V / BB ^ k = V / BB ^ (k + 1) * BB + dg V k := by
    unfold dg
    rw [Nat.pow_succ, ← Nat.div_div_eq_div_mul]
    exact (Nat.div_add_mod' _ _).symm
  have hq : (V / d) / BB ^ k = (V / BB ^ k) / d := by rw [Nat.div_div_eq_div_mul, Nat.div_div_eq_div_mul, Nat.mul_comm]
  have hdg : dg (V / d) k = (V / BB ^ k) / d % BB := by unfold dg; rw [hq]
  rw [hdg, e]
  have hl := dg_lt V k
  generalize dg V k = lo at *
  generalize V / BB ^ (k + 1) = U at *
  clear e hq hdg
  have hU : U = d * (U / d) + U % d := (Nat.div_add_mod U d).symm
  have hh : U % d < d := Nat.mod_lt _ hd
  generalize U / d = q at hU
  generalize U % d = h at *
  subst hU
  have e2 : (d * q + h) * BB + lo = (h * BB + lo) + d * (q * BB) := by
    rw [Nat.add_mul, Nat.mul_assoc]
    omega
  have hb : h * BB + lo < d * BB := by
    have : (h + 1) * BB ≤ d * BB := Nat.mul_le_mul_right _ hh
    rw [Nat.add_mul, Nat.one_mul] at this
    simp only [BB] at *
    omega
  refine ⟨hb, ?_, ?_⟩
  · rw [e2, Nat.add_mul_div_left _ _ hd, Nat.add_mul_mod_self_right]
    exact (Nat.mod_eq_of_lt ((Nat.div_lt_iff_lt_mul hd).2 (by rw [Nat.mul_comm BB d]; exact hb))).symm
  · rw [e2, Nat.add_mul_mod_self_left]

def DSt (b o n V Q k : Nat) (w : World) : Prop := ∀ i, i < n → w.cell? ⟨b, o + i, none⟩ = some (.int .u64 (dg (if i < k then V else Q) i : Int)) ∧ w.frozen? ⟨b, o + i, none⟩ = false

theorem DSt.drewN {b o n V Q k : Nat} {w : World} (h : DSt b o n V Q k w) (m : Nat) : DSt b o n V Q k (w.drewN m) := fun i hi => by simpa using h i hi

theorem DSt.step {b o n V Q k : Nat} {w : World} (h : DSt b o n V Q (k + 1) w) (hk : k < n) {t : Int} (ht : t = (dg Q k : Int)) : DSt b o n V Q k (w.setCell ⟨b, o + k, none⟩ (.int .u64 t)) := by
  intro i hi
  obtain ⟨h1, h2⟩ := h i hi
  refine ⟨?_, by rw [World.frozen?_setCell]; exact h2⟩
  by_cases e : i = k
  · subst e
    rw [World.cell?_setCell_same _ _ _ h1, if_neg (by omega), ht]
  · rw [World.cell?_setCell_other _ _ _ _ (by intro q; have := congrArg Addr.off q; simp at this; omega), h1]
    by_cases hlt : i < k
    · rw [if_pos hlt, if_pos (by omega)]
    · rw [if_neg hlt, if_neg (by omega)]

abbrev DivOk (d : Nat) : Prop := ∀ (hi lo : Nat) (w : World), hi < d → lo < BB → Calls Tryz.prog 126 #[.int .u64 hi, .int .u64 lo, .int .u64 d] w fun r w' => r = .returned (.tuple #[.int .u64 (((hi * BB + lo) / d : Nat) : Int), .int .u64 (((hi * BB + lo) % d : Nat) : Int)]) ∧ ∃ n, w' = w.drewN n

set_option maxRecDepth 100000 in
set_option maxHeartbeats 1600000 in
theorem div_any (b o n cap V d : Nat) (w : World) (hn : n ≤ 7) (hV : V < BB ^ n) (h0 : 0 < d) (hd : d < BB) (hD : Dig w b o n V) (HDiv : Hid (DivOk d)) :
    Calls Tryz.prog 108 #[.slice (some ⟨b, o, none⟩) n cap, .int .u64 d] w fun r w' => r = .returned (.int .u64 ((V % d : Nat) : Int)) ∧ OnlyR b o n w w' ∧ Dig w' b o n (V / d) := by
  obtain ⟨Q, hQ⟩ : ∃ Q, Q = V / d := ⟨_, rfl⟩
  have HQ := Lib.hid hQ
  rw [← hQ]
  clear hQ
  have H0 : Hid (DSt b o n V Q n w) := Lib.hid (fun i hi => by rw [if_pos hi]; exact hD i hi)
  have HV : Hid (0 = V / BB ^ n % d) := Lib.hid (by rw [Nat.div_eq_of_lt hV, Nat.zero_mod])
  clear hD hV
  have hn3 : (n : Int) ≤ 7 := by omega
  go_enter Tryz.func108, Tryz.ntmps108
  go_wp2_with fail
  go_loopw [5, 6] (fun rs i wr => ∃ (k c : Nat) (x : Int), k ≤ n ∧ i = .int .i64 x ∧ x = (k : Int) - 1 ∧ rs = .int .u64 c ∧ c = V / BB ^ k % d ∧ OnlyR b o n w wr ∧ DSt b o n V Q k wr) (fun _ i _ => (intOf i + 1).toNat)
  case atStart => exact ⟨n, 0, _, Nat.le_refl _, rfl, rfl, rfl, HV.out, OnlyR.refl _ _ _ _, H0.out⟩
  case round =>
    obtain ⟨k, c, x, hk, rfl, hx, rfl, hc, ho, hm⟩ := hrel
    have HO := Lib.hid ho
    have HM := Lib.hid hm
    have HC := Lib.hid hc
    clear ho hm hc
    rcases k with _ | j
    · obtain rfl : x = -1 := by omega
      clear hx
      go_wp2_with fail
      go_ret
      exact ⟨congrArg (fun x : Nat => Ending.returned (Value.int IntKind.u64 (x : Int))) (show c = V % d from by rw [HC.out]; simp), HO.out, fun i hi => by have := HM.out i hi; rwa [if_neg (by omega)] at this⟩
    · obtain rfl : x = (j : Int) := by omega
      clear hx
      have hjn : j < n := by omega
      obtain ⟨hcell, hfr⟩ := HM.out j hjn
      rw [if_pos (by omega)] at hcell
      have hj2 : (j : Int) < (n : Int) := by omega
      have hcd : c < d := by rw [HC.out]; exact Nat.mod_lt _ h0
      obtain ⟨s1, s2, s3⟩ := div_hi V d j h0
      rw [← HC.out] at s1 s2 s3
      have HDC := Lib.hid (fun w => HDiv.out c (dg V j) w hcd (dg_lt V j))
      have HQD : Hid ((c * BB + dg V j) / d = dg Q j) := Lib.hid (by rw [s2, HQ.out])
      have HRD : Hid ((c * BB + dg V j) % d = V / BB ^ j % d) := Lib.hid s3
      clear s1 s2 s3
      generalize (c * BB + dg V j) / d = q at *
      generalize (c * BB + dg V j) % d = r at *
      generalize dg V j = a at *
      go_wp2_with fail
      refine (HDC.out _).mono ?_
      rintro rr w1 ⟨rfl, nd, rfl⟩
      have HON := Lib.hid (HO.out.drewN nd)
      have HMN := Lib.hid (HM.out.drewN nd)
      go_wp2_with fail
      exact ⟨⟨j, r, _, by omega, rfl, rfl, rfl, HRD.out, HON.out.setCell hjn _, HMN.out.step hjn (by rw [HQD.out])⟩, by simp [intOf]⟩

end Go.Proofs.YtbfknapmhkpgcaaGreatDoor
