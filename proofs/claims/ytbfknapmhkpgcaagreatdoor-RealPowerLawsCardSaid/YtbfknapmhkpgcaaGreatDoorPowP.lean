/-
  Several texts in one (PowM, PowN).
-/
import Derived.Test.YtbfknapmhkpgcaaGreatDoorPowC
import Derived.Test.YtbfknapmhkpgcaaGreatDoorNaS
import Derived.Test.YtbfknapmhkpgcaaGreatDoorNaE

namespace Go.Proofs.YtbfknapmhkpgcaaGreatDoor
open Go.RowKit
set_option linter.unusedVariables false

theorem VI_ix {m e : Int} (h : vr m e = true) : VI (ix m e) = UU m e := by
  unfold VI
  rw [(at_ix h).1, (at_ix h).2]

theorem VI_one : VI 1073741824 = 2 ^ 150 := by
  have h := VI_ix one_vr
  rw [one_UU] at h
  exact h

theorem VI_neg (p : Int) : VI (-p) = -VI p := by
  unfold VI
  rw [aM_neg, aE_neg, UU_neg]

theorem mI_one {m e : Int} (h : vr m e = true) : mI (UU m e) (2 ^ 150) = some (ix m e) := by
  obtain ⟨b1, b2⟩ := ix_bd h
  have e1 : RI (UU m e * 2 ^ 150) 150 = ix m e := by
    have := RI_scale (UU m e) 0 150
    rw [ix_val h]
    exact this
  unfold mI
  rw [e1, if_pos ⟨b1, b2⟩]

theorem pw_0 (U : Int) : pwO U 0 = some 1073741824 := by rw [pwO, if_pos rfl]

theorem pw_1 {m e : Int} (h : vr m e = true) : pwO (UU m e) 1 = some (ix m e) := by
  rw [pwO, if_neg (by decide), if_pos (by decide), show 1 - 1 = 0 from rfl, pw_0]
  show mI (UU m e) (VI 1073741824) = _
  rw [VI_one, mI_one h]

theorem pw_2 {m e : Int} (h : vr m e = true) : pwO (UU m e) 2 = mI (UU m e) (UU m e) := by
  rw [pwO, if_neg (by decide), if_neg (by decide), show 2 / 2 = 1 from rfl, pw_1 h]
  show mI (VI (ix m e)) (VI (ix m e)) = _
  rw [VI_ix h]

theorem mI_neg_l (U V : Int) : mI (-U) V = (mI U V).map (fun p => -p) := by
  unfold mI
  rw [Int.neg_mul, RI_neg]
  by_cases h : -2533359615 ≤ RI (U * V) 150 ∧ RI (U * V) 150 ≤ 2533359615
  · rw [if_pos h, if_pos (by omega)]; rfl
  · rw [if_neg h, if_neg (by omega)]; rfl

theorem mI_neg_r (U V : Int) : mI U (-V) = (mI U V).map (fun p => -p) := by
  unfold mI
  rw [Int.mul_neg, RI_neg]
  by_cases h : -2533359615 ≤ RI (U * V) 150 ∧ RI (U * V) 150 ≤ 2533359615
  · rw [if_pos h, if_pos (by omega)]; rfl
  · rw [if_neg h, if_neg (by omega)]; rfl

theorem mI_neg_b (U V : Int) : mI (-U) (-V) = mI U V := by
  unfold mI
  rw [Int.neg_mul_neg]

/-- the sign of a power -/
theorem pw_neg (U : Int) (n : Nat) : pwO (-U) n = if n % 2 = 1 then (pwO U n).map (fun p => -p) else pwO U n := by
  induction n using Nat.strongRecOn with
  | ind n ih =>
    by_cases h0 : n = 0
    · subst h0
      rw [if_neg (by decide), pw_0, pw_0]
    · by_cases h1 : n % 2 = 1
      · rw [if_pos h1]
        have i1 := ih (n - 1) (by omega)
        rw [if_neg (by omega)] at i1
        rw [pwO, if_neg h0, if_pos h1, i1]
        conv => rhs; rw [pwO, if_neg h0, if_pos h1]
        cases pwO U (n - 1) with
        | none => rfl
        | some p => exact mI_neg_l U (VI p)
      · rw [if_neg h1]
        have i1 := ih (n / 2) (by omega)
        rw [pwO, if_neg h0, if_neg h1, i1]
        conv => rhs; rw [pwO, if_neg h0, if_neg h1]
        cases pwO U (n / 2) with
        | none => split <;> rfl
        | some p =>
          split
          · show mI (VI (-p)) (VI (-p)) = mI (VI p) (VI p)
            rw [VI_neg, mI_neg_b]
          · rfl

theorem VI_two {t : Int} (h1 : -127 ≤ t) (h2 : t ≤ 173) : VI (ix 8388608 (t - 23)) = 2 ^ (t + 150).toNat := by
  rw [VI_ix (two_vr h1 h2), two_UU h1]

theorem mI_two {a b : Int} (a1 : -127 ≤ a) (a2 : a ≤ 173) (b1 : -127 ≤ b) (b2 : b ≤ 173) (h1 : -127 ≤ a + b) (h2 : a + b ≤ 173) :
    mI (2 ^ (a + 150).toNat) (2 ^ (b + 150).toNat) = some (ix 8388608 (a + b - 23)) := by
  have hv := two_vr h1 h2
  obtain ⟨c1, c2⟩ := ix_bd hv
  have e1 : RI (2 ^ (a + 150).toNat * 2 ^ (b + 150).toNat) 150 = ix 8388608 (a + b - 23) := by
    rw [← Int.pow_add, show (a + 150).toNat + (b + 150).toNat = (a + b + 150).toNat + 150 from by omega, Int.pow_add]
    have := RI_scale (2 ^ (a + b + 150).toNat) 0 150
    rw [ix_val hv, two_UU h1]
    exact this
  unfold mI
  rw [e1, if_pos ⟨c1, c2⟩]

theorem pw_two (n : Nat) (hn : n ≤ 173) : pwO (UU 8388608 (-22)) n = some (ix 8388608 ((n : Int) - 23)) := by
  have h2 : UU 8388608 (-22) = 2 ^ ((1 : Int) + 150).toNat := two_UU (t := 1) (by decide)
  induction n using Nat.strongRecOn with
  | ind n ih =>
    by_cases h0 : n = 0
    · subst h0
      rw [pw_0]
      rfl
    · by_cases h1 : n % 2 = 1
      · rw [pwO, if_neg h0, if_pos h1, ih (n - 1) (by omega) (by omega)]
        show mI (UU 8388608 (-22)) (VI (ix 8388608 (((n - 1 : Nat) : Int) - 23))) = _
        rw [VI_two (by omega) (by omega), h2, mI_two (by omega) (by omega) (by omega) (by omega) (by omega) (by omega)]
        congr 2
        omega
      · rw [pwO, if_neg h0, if_neg h1, ih (n / 2) (by omega) (by omega)]
        show mI (VI (ix 8388608 (((n / 2 : Nat) : Int) - 23))) (VI (ix 8388608 (((n / 2 : Nat) : Int) - 23))) = _
        rw [VI_two (by omega) (by omega), mI_two (by omega) (by omega) (by omega) (by omega) (by omega) (by omega)]
        congr 2
        omega

/-- the reciprocal of a power of two -/
theorem inv_two {t : Int} (h1 : 0 ≤ t) (h2 : t ≤ 126) : rI (quM 8388608 8388608) (quE 8388608 (-23) (t - 23)) = ix 8388608 (-t - 23) := by
  refine div_exact (n := 8388608) (g := -t - 23) (by decide) (two_vr (by omega) (by omega)) (two_vr (by omega) (by omega)) (by decide) ?_
  rw [show (-23 : Int) = 0 - 23 from rfl, two_UU (t := 0) (by decide), two_UU (t := -t) (by omega), two_UU (t := t) (by omega), ← Int.pow_add, ← Int.pow_add]
  congr 1
  omega

end Go.Proofs.YtbfknapmhkpgcaaGreatDoor

namespace Go.Proofs.YtbfknapmhkpgcaaGreatDoor
open Go.RowKit
set_option linter.unusedVariables false

/-- the middle between an index and the next one, in units of 2^-151 -/
def Hf (i : Int) : Int := (2 * aM i + 1) * 2 ^ (sx i).toNat

theorem sx_norm (r k : Nat) (h : r < 16777216) (hk : k = 0 ∨ 8388608 ≤ r) : sx ((r + k * 8388608 : Nat) : Int) = (k : Int) := by
  unfold sx ab
  (repeat' split) <;> omega

theorem aM_norm (r k : Nat) (h : r < 16777216) (hk : k = 0 ∨ 8388608 ≤ r) : aM ((r + k * 8388608 : Nat) : Int) = (r : Int) := by
  have hs := sx_norm r k h hk
  unfold aM
  split
  · omega
  · rw [if_neg (by omega), hs]
    unfold ab
    rw [if_neg (by omega)]
    omega

theorem hf_norm (r k : Nat) (h : r < 16777216) (hk : k = 0 ∨ 8388608 ≤ r) : Hf ((r + k * 8388608 : Nat) : Int) = (((2 * r + 1) * 2 ^ k : Nat) : Int) := by
  unfold Hf
  rw [sx_norm r k h hk, aM_norm r k h hk]
  simp

theorem hf_dec (i : Int) (h0 : 0 ≤ i) : ∃ r k : Nat, i = ((r + k * 8388608 : Nat) : Int) ∧ r < 16777216 ∧ (k = 0 ∨ 8388608 ≤ r) := by
  by_cases h : i < 16777216
  · exact ⟨i.toNat, 0, by omega, by omega, .inl rfl⟩
  · exact ⟨(i - (i / 8388608 - 1) * 8388608).toNat, (i / 8388608 - 1).toNat, by omega, by omega, .inr (by omega)⟩

theorem hf_step (i : Int) (h0 : 0 ≤ i) : Hf i < Hf (i + 1) := by
  obtain ⟨r, k, rfl, h1, h2⟩ := hf_dec i h0
  have hp : 0 < 2 ^ k := Nat.pow_pos (by decide)
  rw [hf_norm r k h1 h2]
  by_cases h : r + 1 < 16777216
  · rw [show (((r + k * 8388608 : Nat) : Int) + 1) = (((r + 1) + k * 8388608 : Nat) : Int) from by omega, hf_norm (r + 1) k h (by omega)]
    have := Nat.mul_lt_mul_of_pos_right (show 2 * r + 1 < 2 * (r + 1) + 1 by omega) hp
    omega
  · rw [show (((r + k * 8388608 : Nat) : Int) + 1) = ((8388608 + (k + 1) * 8388608 : Nat) : Int) from by omega, hf_norm 8388608 (k + 1) (by decide) (.inr (Nat.le_refl _)), Nat.pow_succ]
    have hr : r = 16777215 := by omega
    subst hr
    omega

theorem hf_mono' (n : Nat) : ∀ i : Int, 0 ≤ i → Hf i < Hf (i + (n + 1 : Nat)) := by
  induction n with
  | zero => intro i h; exact hf_step i h
  | succ n ih =>
    intro i h
    have h1 := ih i h
    have h2 := hf_step (i + (n + 1 : Nat)) (by omega)
    rw [show i + ((n + 1 + 1 : Nat) : Int) = i + (n + 1 : Nat) + 1 from by omega]
    omega

theorem hf_mono {i j : Int} (h0 : 0 ≤ i) (h : i < j) : Hf i < Hf j := by
  have := hf_mono' (j - i - 1).toNat i h0
  rw [show i + (((j - i - 1).toNat + 1 : Nat) : Int) = j from by omega] at this
  exact this

/-- the middles around what is rounded to -/
structure Mid (N q : Nat) (R : Nat) : Prop where
  hi : 2 * (N : Int) ≤ Hf R * 2 ^ q
  lo : R = 0 ∨ Hf ((R : Int) - 1) * 2 ^ q ≤ 2 * (N : Int)
  ti : 2 * (N : Int) = Hf R * 2 ^ q → aM R % 2 = 0
  tl : R ≠ 0 → Hf ((R : Int) - 1) * 2 ^ q = 2 * (N : Int) → aM ((R : Int) - 1) % 2 ≠ 0

theorem pq_cast (x k q P : Nat) (hP : P = 2 ^ (q + k)) : ((x * 2 ^ k : Nat) : Int) * 2 ^ q = ((x * P : Nat) : Int) := by
  have e5 : ((x * 2 ^ k : Nat) : Int) * 2 ^ q = ((x * 2 ^ k * 2 ^ q : Nat) : Int) := by rw [Int.natCast_mul (x * 2 ^ k), Int.natCast_pow]; rfl
  rw [e5, hP, Nat.pow_add, Nat.mul_assoc, Nat.mul_comm (2 ^ k)]

theorem up_mid (r k q P : Nat) (hP : P = 2 ^ (q + k)) (h1 : r ≤ 16777216) (hk : k = 0 ∨ 8388608 ≤ r) :
    (r < 16777216 ∧ Hf ((r + k * 8388608 : Nat) : Int) * 2 ^ q = (((2 * r + 1) * P : Nat) : Int) ∧ aM ((r + k * 8388608 : Nat) : Int) = r) ∨ (r = 16777216 ∧ Hf ((r + k * 8388608 : Nat) : Int) * 2 ^ q = ((33554434 * P : Nat) : Int)) := by
  have hc := fun x => pq_cast x k q P hP
  clear hP
  by_cases h : r < 16777216
  · left
    exact ⟨h, by rw [hf_norm r k h hk, hc], aM_norm r k h hk⟩
  · right
    have hr0 : r = 16777216 := by omega
    subst hr0
    refine ⟨rfl, ?_⟩
    have e : 16777216 + k * 8388608 = 8388608 + (k + 1) * 8388608 := by omega
    have e2 : (2 * 8388608 + 1) * (2 ^ k * 2) = 33554434 * 2 ^ k := by
      rw [Nat.mul_comm (2 ^ k) 2, ← Nat.mul_assoc]
    rw [e, hf_norm 8388608 (k + 1) (by decide) (.inr (Nat.le_refl _)), Nat.pow_succ, e2, hc]

theorem dn_mid (r k q P : Nat) (hP : P = 2 ^ (q + k)) (h1 : r ≤ 16777216) (hk : k = 0 ∨ 8388608 ≤ r) :
    (r = 0 ∧ k = 0) ∨ (0 < r ∧ Hf (((r + k * 8388608 : Nat) : Int) - 1) * 2 ^ q = (((2 * (r - 1) + 1) * P : Nat) : Int) ∧ aM (((r + k * 8388608 : Nat) : Int) - 1) = ((r - 1 : Nat) : Int)) ∨ (r = 8388608 ∧ k ≠ 0 ∧ 2 * (Hf (((r + k * 8388608 : Nat) : Int) - 1) * 2 ^ q) = ((33554431 * P : Nat) : Int)) := by
  by_cases h0 : r = 0
  · left
    exact ⟨h0, by omega⟩
  · right
    by_cases h1' : k = 0 ∨ 8388608 ≤ r - 1
    · left
      have hc := fun x => pq_cast x k q P hP
      clear hP
      have e : (((r + k * 8388608 : Nat) : Int) - 1) = (((r - 1) + k * 8388608 : Nat) : Int) := by omega
      refine ⟨by omega, ?_, ?_⟩
      · rw [e, hf_norm (r - 1) k (by omega) h1', hc]
      · rw [e, aM_norm (r - 1) k (by omega) h1']
    · right
      obtain ⟨j, rfl⟩ : ∃ j, k = j + 1 := by
        cases k with
        | zero => exact absurd (Or.inl rfl) h1'
        | succ j => exact ⟨j, rfl⟩
      have hP2 : P = 2 * 2 ^ (q + j) := by rw [hP, ← Nat.add_assoc, Nat.pow_succ, Nat.mul_comm]
      have hc := pq_cast 33554431 j q (2 ^ (q + j)) rfl
      clear hP
      have hr0 : r = 8388608 := by
        have : ¬ 8388608 ≤ r - 1 := fun h => h1' (.inr h)
        rcases hk with h | h
        · cases h
        · omega
      subst hr0
      refine ⟨rfl, Nat.succ_ne_zero j, ?_⟩
      have e : (((8388608 + (j + 1) * 8388608 : Nat) : Int) - 1) = ((16777215 + j * 8388608 : Nat) : Int) := by omega
      rw [e, hf_norm 16777215 j (by decide) (.inr (by decide)), show 2 * 16777215 + 1 = 33554431 from rfl, hc, hP2]
      generalize 2 ^ (q + j) = X
      omega

theorem mid_lin (N r a d P X Y U V Z k : Nat) (H1 G1 A1 B1 : Int) (hN : N = X + d) (hd : d < P) (e1 : U = 2 * Y + P) (e3 : 0 < r → V + P = 2 * Y)
    (hr : (r = a ∧ Y = X ∧ (2 * d < P ∨ 2 * d = P ∧ a % 2 = 0)) ∨ (r = a + 1 ∧ Y = X + P ∧ (P < 2 * d ∨ 2 * d = P ∧ a % 2 = 1)))
    (up : (H1 = (U : Int) ∧ A1 = (r : Int)) ∨ (r = a + 1 ∧ Y = 2 * Z ∧ H1 = ((4 * Z + 2 * P : Nat) : Int)))
    (dn : (r = 0 ∧ k = 0) ∨ (0 < r ∧ G1 = (V : Int) ∧ B1 = ((r - 1 : Nat) : Int)) ∨ (r = a ∧ Y = Z ∧ 2 * G1 + P = ((4 * Z : Nat) : Int))) :
    2 * (N : Int) ≤ H1 ∧ ((r = 0 ∧ k = 0) ∨ G1 ≤ 2 * (N : Int)) ∧ (2 * (N : Int) = H1 → A1 % 2 = 0) ∧ (¬ (r = 0 ∧ k = 0) → G1 = 2 * (N : Int) → B1 % 2 ≠ 0) := by
  refine ⟨?_, ?_, ?_, ?_⟩
  · clear dn e3
    rcases up with ⟨u, _⟩ | ⟨_, u0, u⟩ <;> omega
  · clear up e1
    rcases dn with h | ⟨v0, v, _⟩ | ⟨v0, v1, v⟩
    · exact .inl h
    · right; have := e3 v0; omega
    · right; clear e3; omega
  · clear dn e3
    intro h2
    rcases up with ⟨u, um⟩ | ⟨_, u0, u⟩ <;> omega
  · clear up e1
    intro h0 h2
    rcases dn with h | ⟨v0, v, vm⟩ | ⟨v0, v1, v⟩
    · exact absurd h h0
    · have := e3 v0; omega
    · clear e3; omega

theorem mid_mk (N q r k a d P : Nat) (hP : P = 2 ^ (q + k)) (hN : N = P * a + d) (hd : d < P) (ha : a < 16777216) (hk : k = 0 ∨ 8388608 ≤ a)
    (hr : (r = a ∧ (2 * d < P ∨ 2 * d = P ∧ a % 2 = 0)) ∨ (r = a + 1 ∧ (P < 2 * d ∨ 2 * d = P ∧ a % 2 = 1))) : Mid N q (r + k * 8388608) := by
  have hr1 : r ≤ 16777216 := by omega
  have hk1 : k = 0 ∨ 8388608 ≤ r := by omega
  have up := up_mid r k q P hP hr1 hk1
  have dn := dn_mid r k q P hP hr1 hk1
  clear hP
  rw [Nat.mul_comm P a] at hN
  have e1 : (2 * r + 1) * P = 2 * (r * P) + P := by rw [Nat.add_mul, Nat.one_mul, Nat.mul_assoc]
  have e3 : 0 < r → (2 * (r - 1) + 1) * P + P = 2 * (r * P) := fun h => by
    obtain ⟨j, rfl⟩ : ∃ j, r = j + 1 := ⟨r - 1, (Nat.succ_pred_eq_of_pos h).symm⟩
    rw [Nat.add_sub_cancel, Nat.add_mul, Nat.one_mul, Nat.mul_assoc, Nat.add_mul, Nat.one_mul, Nat.mul_add, Nat.two_mul P, Nat.add_assoc]
  have key := mid_lin N r a d P (a * P) (r * P) ((2 * r + 1) * P) ((2 * (r - 1) + 1) * P) (8388608 * P) k _ _ _ _ hN hd e1 e3
    (by
      rcases hr with ⟨h, h'⟩ | ⟨h, h'⟩
      · exact .inl ⟨h, by rw [h], h'⟩
      · exact .inr ⟨h, by rw [h, Nat.add_mul, Nat.one_mul], h'⟩)
    (by
      rcases up with ⟨_, u, um⟩ | ⟨u0, u⟩
      · exact .inl ⟨u, um⟩
      · refine .inr ⟨by clear dn e1 e3 hN u; omega, by rw [u0, ← Nat.mul_assoc], ?_⟩
        rw [u, ← Nat.mul_assoc, ← Nat.add_mul])
    (by
      rcases dn with h | h | ⟨v0, vk, v⟩
      · exact .inl h
      · exact .inr (.inl h)
      · by_cases hk0 : r = a
        · refine .inr (.inr ⟨hk0, by rw [v0], ?_⟩)
          rw [v, ← Int.natCast_add, ← Nat.mul_assoc]
          congr 1
          rw [show 4 * 8388608 = 33554431 + 1 from rfl, Nat.add_mul, Nat.one_mul]
        · refine .inr (.inl ⟨by rw [v0]; decide, ?_⟩)
          exfalso
          have hka : k = 0 ∨ r ≤ a := by rw [v0]; exact hk
          rcases hka with h0 | h0
          · exact vk h0
          · clear up e1 e3 hN v; omega)
  refine ⟨key.1, ?_, key.2.2.1, fun h0 => key.2.2.2 (fun h => h0 (by rw [h.1, h.2]))⟩
  rcases key.2.1 with h | h
  · exact .inl (by rw [h.1, h.2])
  · exact .inr h

theorem rr_mid (N q : Nat) : Mid N q (RR N q) := by
  have h1 := kk_lt N q
  have hP : (0 : Nat) < 2 ^ (q + kk N q) := Nat.pow_pos (by decide)
  have ha : N / 2 ^ (q + kk N q) < 16777216 := by
    rw [Nat.div_lt_iff_lt_mul hP]
    have e : (16777216 : Nat) * 2 ^ (q + kk N q) = 2 ^ (q + 24 + kk N q) := by rw [show q + 24 + kk N q = 24 + (q + kk N q) from by omega, Nat.pow_add 2 24]
    omega
  have hk : kk N q = 0 ∨ 8388608 ≤ N / 2 ^ (q + kk N q) := by
    by_cases h : kk N q = 0
    · exact .inl h
    · right
      have h5 := kk_ge N q (by omega)
      rw [Nat.le_div_iff_mul_le hP]
      have e : (8388608 : Nat) * 2 ^ (q + kk N q) = 2 ^ (q + 23 + kk N q) := by rw [show q + 23 + kk N q = 23 + (q + kk N q) from by omega, Nat.pow_add 2 23]
      omega
  unfold RR
  refine mid_mk N q _ (kk N q) (N / 2 ^ (q + kk N q)) (N % 2 ^ (q + kk N q)) (2 ^ (q + kk N q)) rfl (Nat.div_add_mod _ _).symm (Nat.mod_lt _ hP) ha hk ?_
  unfold rhe
  by_cases hs : q + kk N q = 0
  · rw [if_pos hs, hs]
    left
    simp [Nat.mod_one]
  · rw [if_neg hs]
    obtain ⟨j, hj⟩ : ∃ j, q + kk N q = j + 1 := ⟨q + kk N q - 1, by omega⟩
    rw [hj, show j + 1 - 1 = j from rfl]
    have e : (2 : Nat) ^ (j + 1) = 2 * 2 ^ j := by rw [Nat.pow_succ]; omega
    generalize N % 2 ^ (j + 1) = d at *
    generalize N / 2 ^ (j + 1) = a at *
    generalize (2 : Nat) ^ (j + 1) = P at *
    generalize (2 : Nat) ^ j = Q at *
    split
    · rename_i hc
      right
      omega
    · rename_i hc
      left
      omega

theorem r_le {n f E : Nat} (h1 : f * f ≤ n) (h2 : n < (f + 1) * (f + 1)) : (2 * f + (if f * f = n then 0 else 1) ≤ 2 * E ↔ n ≤ E * E) ∧ (2 * f + (if f * f = n then 0 else 1) = 2 * E ↔ n = E * E) := by
  rcases Nat.lt_trichotomy f E with h | h | h
  · have h3 := Nat.mul_le_mul (show f + 1 ≤ E from h) (show f + 1 ≤ E from h)
    split <;> exact ⟨by omega, by omega⟩
  · subst h
    split <;> exact ⟨by omega, by omega⟩
  · have h3 := Nat.mul_le_mul (show E + 1 ≤ f from h) (show E + 1 ≤ f from h)
    have h4 : (E + 1) * (E + 1) = E * E + 2 * E + 1 := by rw [Nat.add_mul, Nat.mul_add]; omega
    split <;> exact ⟨by omega, by omega⟩

/-- the root's bits against a middle -/
theorem s_mid {A H : Nat} (N f : Nat) (h1 : f * f ≤ A * 4 ^ 76) (h2 : A * 4 ^ 76 < (f + 1) * (f + 1)) (hN : N = 2 * f + (if f * f = A * 4 ^ 76 then 0 else 1)) :
    (A * 2 ^ 152 ≤ H * H ↔ 2 * N ≤ H * 2 ^ 2) ∧ (H * H = A * 2 ^ 152 ↔ 2 * N = H * 2 ^ 2) := by
  have h := r_le (E := H) h1 h2
  rw [← hN] at h
  have e : (4 : Nat) ^ 76 = 2 ^ 152 := by rw [show (4 : Nat) = 2 ^ 2 from rfl, ← Nat.pow_mul]
  rw [e] at h
  clear h1 h2 hN e
  obtain ⟨X, hX⟩ : ∃ X, X = A * 2 ^ 152 := ⟨_, rfl⟩
  rw [← hX] at h ⊢
  clear hX
  generalize H * H = Y at *
  exact ⟨by omega, by omega⟩

theorem hf_nn' {i : Int} (h : 0 ≤ i) : 0 ≤ Hf i := by
  have hm : 0 ≤ aM i := by unfold aM sx ab; (repeat' split) <;> omega
  unfold Hf
  exact Int.mul_nonneg (by omega) (Int.le_of_lt (Int.pow_pos (by decide)))

theorem s_midI {A : Nat} (i : Int) (hi : 0 ≤ i) :
    ((A : Int) * 2 ^ 152 ≤ Hf i * Hf i ↔ 2 * ((sts A 76 : Nat) : Int) ≤ Hf i * 2 ^ 2) ∧ (Hf i * Hf i = (A : Int) * 2 ^ 152 ↔ 2 * ((sts A 76 : Nat) : Int) = Hf i * 2 ^ 2) := by
  obtain ⟨H, hH⟩ := Int.eq_ofNat_of_zero_le (hf_nn' hi)
  rw [hH]
  obtain ⟨s1, s2⟩ := sqr_spec (A * 4 ^ 76)
  have h := s_mid (A := A) (H := H) (sts A 76) (sqr (A * 4 ^ 76)) s1 s2 rfl
  clear s1 s2
  have c1 : (A : Int) * 2 ^ 152 = ((A * 2 ^ 152 : Nat) : Int) := by rw [Int.natCast_mul, Int.natCast_pow]; rfl
  have c2 : (H : Int) * (H : Int) = ((H * H : Nat) : Int) := by rw [Int.natCast_mul]
  have c3 : (H : Int) * 2 ^ 2 = ((H * 2 ^ 2 : Nat) : Int) := by rw [Int.natCast_mul]; rfl
  rw [c1, c2, c3]
  clear c1 c2 c3
  generalize sts A 76 = N at *
  obtain ⟨X, hX⟩ : ∃ X, X = A * 2 ^ 152 := ⟨_, rfl⟩
  rw [← hX] at h ⊢
  clear hX
  generalize H * H = Y at *
  generalize H * 2 ^ 2 = Z at *
  exact ⟨by omega, by omega⟩

theorem sts_big {U : Nat} (h : 1 ≤ U) : 33554432 ≤ sts U 74 := by
  have e : (4 : Nat) ^ 74 = 2 ^ 74 * 2 ^ 74 := by rw [show (4 : Nat) = 2 ^ 2 from rfl, ← Nat.pow_mul, ← Nat.pow_add]
  have h1 : 2 ^ 74 * 2 ^ 74 ≤ U * 4 ^ 74 := by
    rw [e]
    exact Nat.le_mul_of_pos_left _ h
  have h2 := sqr_ge h1
  have h3 : (33554432 : Nat) ≤ 2 ^ 74 := by
    have : (2 : Nat) ^ 25 ≤ 2 ^ 74 := Nat.pow_le_pow_right (by decide) (by decide)
    exact this
  have h4 : 2 * sqr (U * 4 ^ 74) ≤ sts U 74 := Nat.le_add_right _ _
  omega

theorem si_rr (U : Nat) : RR (sts U 76) 2 = RR (sts U 74) 0 := by
  by_cases h : U = 0
  · subst h
    have h1 : sts 0 76 = 0 := by unfold sts; rw [Nat.zero_mul]; rfl
    have h2 : sts 0 74 = 0 := by unfold sts; rw [Nat.zero_mul]; rfl
    rw [h1, h2, RR_zero, RR_zero]
  · rw [show 76 = 74 + 2 from rfl, sts_lift (sts_big (show 1 ≤ U by omega)) 2 2]
    exact RR_scale (sts U 74) 0 2

theorem si_le {m e : Int} (h : vr m e = true) : SI (UU m e) ≤ 2533359615 := by
  obtain ⟨T, hT⟩ : ∃ T : Nat, T = 324 := ⟨_, rfl⟩
  have hu := (UU_abs h T (by have := vr_bd h; omega)).2
  have hU : (UU m e).toNat < 2 ^ T := by
    have c : ((2 : Int) ^ T) = ((2 ^ T : Nat) : Int) := by rw [Int.natCast_pow]; rfl
    rw [c] at hu
    have hp : 0 < (2 : Nat) ^ T := Nat.pow_pos (by decide)
    generalize (2 : Nat) ^ T = P at *
    omega
  have e1 : (2 : Nat) ^ 236 * 2 ^ 236 = 2 ^ T * 4 ^ 74 := by
    rw [show (4 : Nat) = 2 ^ 2 from rfl, ← Nat.pow_mul, ← Nat.pow_add, ← Nat.pow_add]
    congr 1
    omega
  have h1 : (UU m e).toNat * 4 ^ 74 < 2 ^ 236 * 2 ^ 236 := by
    rw [e1]
    exact Nat.mul_lt_mul_of_pos_right hU (Nat.pow_pos (by decide))
  have h2 := sqr_lt h1
  have h3 : sts (UU m e).toNat 74 ≤ 2 * sqr ((UU m e).toNat * 4 ^ 74) + 1 := by unfold sts; split <;> omega
  have h4 : sts (UU m e).toNat 74 ≤ 8388608 * 2 ^ 214 := by
    have e2 : (8388608 : Nat) * 2 ^ 214 = 2 * 2 ^ 236 := by rw [show (8388608 : Nat) = 2 ^ 23 from rfl, ← Nat.pow_add, show 23 + 214 = 236 + 1 from rfl, Nat.pow_succ, Nat.mul_comm]
    rw [e2]
    obtain ⟨P, hP⟩ : ∃ P, P = (2 : Nat) ^ 236 := ⟨_, rfl⟩
    rw [← hP] at h2 ⊢
    clear hP e2 h1 hu e1 hU
    omega
  have h5 := RR_mono h4 0
  rw [RR_full 8388608 214 (by decide) (by decide)] at h5
  unfold SI
  omega

theorem uu_sg (m e : Int) : (m < 0 ↔ UU m e < 0) := by
  have hp : (0 : Int) < 2 ^ (e + 150).toNat := Int.pow_pos (by decide)
  unfold UU
  constructor
  · exact fun h => Int.mul_neg_of_neg_of_pos h hp
  · intro h
    by_cases hm : m < 0
    · exact hm
    · have := Int.mul_nonneg (show 0 ≤ m by omega) (Int.le_of_lt hp)
      omega

theorem sqx {A s r k : Nat} (hA : A < 16777216) (hAs : s = 0 ∨ 8388608 ≤ A) (hr : r < 16777216) (hk : k = 0 ∨ 8388608 ≤ r) (hV : 1125899906842624 ≤ r * 2 ^ k) (D W : Nat) (hD : D = 2 ^ (2 * s)) (hW : W = 2 ^ (k + 150))
    (lo : 2 * (r * W) ≤ 2 * (A * A * D) + W) (hi : 2 * (A * A * D) ≤ 2 * (r * W) + W) :
    8388608 ≤ A ∧ 4 * (r * W) < 4 * (A * A * D) + 4 * (A * D) + D ∧ (A ≠ 8388608 → 4 * (A * A * D) + D < 4 * (r * W) + 4 * (A * D)) ∧ (A = 8388608 → r * W = A * A * D) := by
  have hDp : 0 < D := by rw [hD]; exact Nat.pow_pos (by decide)
  have hWp : 0 < W := by rw [hW]; exact Nat.pow_pos (by decide)
  have hk1 : 8388608 ≤ r := by
    rcases hk with h | h
    · rw [h, Nat.pow_zero] at hV; omega
    · exact h
  have rW : 8388608 * W ≤ r * W := Nat.mul_le_mul_right W hk1
  have rW2 : r * W ≤ 16777215 * W := Nat.mul_le_mul_right W (by omega)
  have AA : A * A ≤ 16777215 * 16777215 := Nat.mul_le_mul (by omega) (by omega)
  have AD : A * A * D ≤ 16777215 * 16777215 * D := Nat.mul_le_mul_right D AA
  have hA1 : 8388608 ≤ A := by
    rcases hAs with h | h
    · exfalso
      rw [h] at hD
      have hD1 : D = 1 := by rw [hD]
      rw [hD1] at AD lo
      have hW2 : 2 ^ 150 ≤ W := by rw [hW]; exact Nat.pow_le_pow_right (by decide) (by omega)
      have hW3 : 281474976710656 ≤ W := Nat.le_trans (by decide) hW2
      generalize A * A * 1 = Y at *
      generalize r * W = X at *
      clear hW hD hW2
      omega
    · exact h
  have up : ∀ j, 2 * s + j ≤ k + 150 → 2 ^ j * D ≤ W := fun j h => by
    rw [hW, hD, ← Nat.pow_add]
    exact Nat.pow_le_pow_right (by decide) (by omega)
  have dn : ∀ j, k + 150 ≤ 2 * s + j → W ≤ 2 ^ j * D := fun j h => by
    rw [hW, hD, ← Nat.pow_add]
    exact Nat.pow_le_pow_right (by decide) (by omega)
  clear hD hW hV hk hAs AA
  have aD : 8388608 * D ≤ A * D := Nat.mul_le_mul_right D hA1
  have aD1 : A ≠ 8388608 → 8388609 * D ≤ A * D := fun h => Nat.mul_le_mul_right D (by omega)
  have hj : k + 150 ≤ 2 * s + 24 := by
    by_cases h : k + 150 ≤ 2 * s + 24
    · exact h
    · exfalso
      have h1 := up 25 (by omega)
      rw [show (2 : Nat) ^ 25 = 33554432 from rfl] at h1
      generalize A * A * D = Y at *
      generalize r * W = X at *
      omega
  have hw := dn 24 hj
  rw [show (2 : Nat) ^ 24 = 16777216 from rfl] at hw
  refine ⟨hA1, ?_, ?_, ?_⟩
  · generalize A * A * D = Y at *
    generalize A * D = Z at *
    generalize r * W = X at *
    omega
  · intro h
    have := aD1 h
    generalize A * A * D = Y at *
    generalize A * D = Z at *
    generalize r * W = X at *
    omega
  · intro h
    subst h
    have e1 : 8388608 * 8388608 * D = 70368744177664 * D := rfl
    rw [e1] at lo hi ⊢
    have h2 : k + 150 = 2 * s + 23 := by
      rcases Nat.lt_trichotomy (k + 150) (2 * s + 23) with g | g | g
      · exfalso
        have h1 := dn 22 (by omega)
        rw [show (2 : Nat) ^ 22 = 4194304 from rfl] at h1
        generalize r * W = X at *
        omega
      · exact g
      · exfalso
        have h1 := up 24 (by omega)
        rw [show (2 : Nat) ^ 24 = 16777216 from rfl] at h1
        generalize r * W = X at *
        omega
    have h1 := dn 23 (by omega)
    have h3 := up 23 (by omega)
    rw [show (2 : Nat) ^ 23 = 8388608 from rfl] at h1 h3
    have hWD : W = 8388608 * D := by omega
    have hr2 : r = 8388608 := by
      by_cases g : r = 8388608
      · exact g
      · exfalso
        have := Nat.mul_le_mul_right W (show 8388609 ≤ r by omega)
        generalize r * W = X at *
        omega
    rw [hr2, hWD]
    omega

theorem rr_uniq {N q R : Nat} (h1 : 2 * (N : Int) < Hf R * 2 ^ q) (h2 : R = 0 ∨ Hf ((R : Int) - 1) * 2 ^ q < 2 * (N : Int)) : RR N q = R := by
  have hq : (0 : Int) < 2 ^ q := Int.pow_pos (by decide)
  have hmono : ∀ i j : Int, 0 ≤ i → i ≤ j → Hf i * 2 ^ q ≤ Hf j * 2 ^ q := fun i j h0 h => by
    rcases Int.lt_or_eq_of_le h with g | g
    · exact Int.le_of_lt (Int.mul_lt_mul_of_pos_right (hf_mono h0 g) hq)
    · rw [g]; exact Int.le_refl _
  have hM := rr_mid N q
  generalize RR N q = S at *
  have m1 := hM.hi
  rcases Nat.lt_trichotomy S R with h | h | h
  · exfalso
    rcases h2 with g | g
    · omega
    · have := hmono S (R - 1) (by omega) (by omega)
      omega
  · exact h
  · exfalso
    rcases hM.lo with g | g
    · omega
    · have := hmono R (S - 1) (by omega) (by omega)
      omega

theorem low2 {X W Y : Nat} {Z : Int} (h3 : ((2 * X : Nat) : Int) - (W : Int) ≤ Z) (h1 : Z ≤ 2 * (Y : Int)) : 2 * X ≤ 2 * Y + W := by omega
theorem hnv {Hn j : Nat} (c : 2 * (Hn : Int) = ((33554431 * 2 ^ (j + 1) : Nat) : Int)) : Hn = 33554431 * 2 ^ j := by
  rw [Nat.pow_succ] at c
  generalize 2 ^ j = Q at *
  omega
theorem lastq {Q : Nat} (h : 0 < Q) : 33554431 * 33554431 * Q < 4 * (8388608 * 8388608 * (4 * Q)) := by omega
theorem nn1 (A j : Nat) : (0 : Int) ≤ ((A + (j + 1) * 8388608 : Nat) : Int) - 1 := by omega
theorem two_j (j : Nat) : 2 * (j + 1) = j + j + 2 := by omega
theorem thirdI {G Q X : Int} (c : 2 * G = 33554431 * Q) (hx : X = 16777216 * Q) (hq : 0 ≤ Q) : 2 * G + 2 * Q ≥ 2 * X := by
  rw [c, hx]
  clear c hx
  omega

theorem third {G : Int} {Q r x : Nat} (c : 2 * G = ((33554431 * Q : Nat) : Int)) (hr : r = 8388608) (hx : x = 2 * r * Q) : 2 * G + 2 * ((Q : Nat) : Int) ≥ 2 * ((x : Nat) : Int) := by
  refine thirdI (by rw [c, Int.natCast_mul]; rfl) ?_ (Int.natCast_nonneg _)
  rw [hx, hr, Int.natCast_mul]
  rfl

/-- the value and the middles of an index that is not negative -/
theorem vi_parts (R : Nat) (h : (R : Int) ≤ 2533359615) : ∃ r k : Nat, R = r + k * 8388608 ∧ r < 16777216 ∧ (k = 0 ∨ 8388608 ≤ r) ∧ VI (R : Int) = ((r * 2 ^ k : Nat) : Int) ∧ Hf (R : Int) = (((2 * r + 1) * 2 ^ k : Nat) : Int) ∧ (R = 0 ∨ (2 * Hf ((R : Int) - 1) + 2 * ((2 ^ k : Nat) : Int) ≥ 2 * ((2 * r * 2 ^ k : Nat) : Int) ∧ Hf ((R : Int) - 1) < Hf (R : Int))) := by
  obtain ⟨r, k, e, hr, hk⟩ := hf_dec (R : Int) (Int.natCast_nonneg _)
  have e' : R = r + k * 8388608 := by omega
  refine ⟨r, k, e', hr, hk, ?_, ?_, ?_⟩
  · have h0 := at_vr (show -2533359615 ≤ (R : Int) by omega) h
    unfold VI UU
    rw [e, aM_norm r k hr hk, Int.natCast_mul]
    by_cases hz : r = 0
    · subst hz; simp
    · congr 1
      have hE : aE ((r + k * 8388608 : Nat) : Int) = (k : Int) - 150 := by
        unfold aE
        rw [if_neg (by omega), sx_norm r k hr hk]
      rw [hE, show ((k : Int) - 150 + 150).toNat = k from by omega, Int.natCast_pow]
      rfl
  · rw [e, hf_norm r k hr hk]
  · by_cases hR : R = 0
    · exact .inl hR
    · right
      refine ⟨?_, ?_⟩
      · have h3 := dn_mid r k 0 (2 ^ k) (by rw [Nat.zero_add]) (by omega) hk
        rw [← e] at h3
        simp only [Int.pow_zero, Int.mul_one] at h3
        rcases h3 with ⟨a, b⟩ | ⟨a, b, _⟩ | ⟨a, b, c⟩
        · omega
        · rw [b]
          obtain ⟨j, rfl⟩ : ∃ j, r = j + 1 := ⟨r - 1, by omega⟩
          have e5 : (2 * (j + 1 - 1) + 1) * 2 ^ k + 2 ^ k = 2 * (j + 1) * 2 ^ k := by
            rw [Nat.add_sub_cancel, ← Nat.succ_mul]
            rfl
          omega
        · exact third c a rfl
      · have := hf_mono (i := (R : Int) - 1) (j := (R : Int)) (by omega) (by omega)
        exact this

/-- the root of a square that is no very small number is the magnitude -/
theorem sq_root {m e : Int} (h : vr m e = true) (P : Int) (hP : mI (UU m e) (UU m e) = some P) (hc : 2 ^ 50 ≤ VI P) : SI (VI P) = ix (ab m) e := by
  obtain ⟨p1, p2⟩ := mI_in hP
  have hab : vr (ab m) e = true := by
    unfold ab
    split
    · rw [vr_neg]; exact h
    · exact h
  have hUU : UU m e * UU m e = UU (ab m) e * UU (ab m) e := by
    unfold ab
    split
    · rw [UU_neg, Int.neg_mul_neg]
    · rfl
  have hA0 : 0 ≤ ab m := by unfold ab; split <;> omega
  generalize hM : ab m = M at *
  clear hM
  obtain ⟨A, rfl⟩ := Int.eq_ofNat_of_zero_le hA0
  have hv := vr_iff.1 hab
  have habA : ab (A : Int) = (A : Int) := by unfold ab; rw [if_neg (by omega)]
  rw [habA] at hv
  obtain ⟨s, hs⟩ : ∃ s : Nat, s = (e + 150).toNat := ⟨_, rfl⟩
  have hU : UU (A : Int) e = ((A * 2 ^ s : Nat) : Int) := by
    unfold UU
    rw [← hs, Int.natCast_mul, Int.natCast_pow]
    rfl
  have hsA : A = 0 ∨ s = 0 ∨ 8388608 ≤ A := by omega
  have hA : A < 16777216 := by omega
  have hR : ((A * 2 ^ s : Nat) : Int) * ((A * 2 ^ s : Nat) : Int) = ((A * 2 ^ s * (A * 2 ^ s) : Nat) : Int) := (Int.natCast_mul _ _).symm
  unfold mI at hP
  rw [hUU, hU, hR] at hP
  have hRI : RI ((A * 2 ^ s * (A * 2 ^ s) : Nat) : Int) 150 = ((RR (A * 2 ^ s * (A * 2 ^ s)) 150 : Nat) : Int) := by
    unfold RI
    rw [if_neg (Int.not_lt.2 (Int.natCast_nonneg _)), Int.toNat_natCast]
  rw [hRI] at hP
  obtain ⟨R, hRR⟩ : ∃ R, R = RR (A * 2 ^ s * (A * 2 ^ s)) 150 := ⟨_, rfl⟩
  have hmid := rr_mid (A * 2 ^ s * (A * 2 ^ s)) 150
  rw [← hRR] at hP hmid
  clear hRR
  have hPR : P = (R : Int) := by
    split at hP
    · cases hP; rfl
    · cases hP
  subst hPR
  clear hP hUU
  obtain ⟨r, k, e1, hr, hk, hVI, hHf, hlow⟩ := vi_parts R p2
  rw [hVI] at hc ⊢
  have hc' : 2 ^ 50 ≤ r * 2 ^ k := by
    have c : ((2 : Int) ^ 50) = ((2 ^ 50 : Nat) : Int) := rfl
    rw [c] at hc
    exact Int.ofNat_le.1 hc
  rw [show (2 : Nat) ^ 50 = 1125899906842624 from rfl] at hc'
  -- the middles in natural numbers
  obtain ⟨D, hD⟩ : ∃ D, D = 2 ^ (2 * s) := ⟨_, rfl⟩
  obtain ⟨W, hW⟩ : ∃ W, W = 2 ^ (k + 150) := ⟨_, rfl⟩
  have eU : A * 2 ^ s * (A * 2 ^ s) = A * A * D := by
    rw [hD, show 2 * s = s + s from by omega, Nat.pow_add]
    simp only [Nat.mul_assoc, Nat.mul_comm, Nat.mul_left_comm]
  have eW : ∀ x : Nat, x * 2 ^ k * 2 ^ 150 = x * W := fun x => by rw [hW, Nat.pow_add, Nat.mul_assoc]
  rw [eU] at hmid
  have hR0 : R ≠ 0 := by
    intro h0
    rw [h0] at e1
    have : r = 0 := by omega
    rw [this, Nat.zero_mul] at hc'
    omega
  have hi : 2 * (A * A * D) ≤ 2 * (r * W) + W := by
    have h1 := hmid.hi
    rw [hHf] at h1
    have c : (((2 * r + 1) * 2 ^ k : Nat) : Int) * 2 ^ 150 = (((2 * r + 1) * 2 ^ k * 2 ^ 150 : Nat) : Int) := by rw [Int.natCast_mul ((2 * r + 1) * 2 ^ k), Int.natCast_pow]; rfl
    rw [c, eW, Nat.add_mul, Nat.one_mul, Nat.mul_assoc 2 r W] at h1
    generalize A * A * D = Y at *
    generalize r * W = X at *
    omega
  have lo : 2 * (r * W) ≤ 2 * (A * A * D) + W := by
    have h1 := hmid.lo
    rcases h1 with h1 | h1
    · exact absurd h1 hR0
    · rcases hlow with h2 | ⟨h2, _⟩
      · exact absurd h2 hR0
      · have h3 : (((2 * r * 2 ^ k : Nat) : Int) - ((2 ^ k : Nat) : Int)) * 2 ^ 150 ≤ Hf ((R : Int) - 1) * 2 ^ 150 := Int.mul_le_mul_of_nonneg_right (by omega) (Int.le_of_lt (Int.pow_pos (by decide)))
        rw [Int.sub_mul] at h3
        have c1 : ((2 * r * 2 ^ k : Nat) : Int) * 2 ^ 150 = ((2 * r * 2 ^ k * 2 ^ 150 : Nat) : Int) := by rw [Int.natCast_mul (2 * r * 2 ^ k), Int.natCast_pow]; rfl
        have c2 : ((2 ^ k : Nat) : Int) * 2 ^ 150 = ((1 * 2 ^ k * 2 ^ 150 : Nat) : Int) := by rw [Int.natCast_mul (1 * 2 ^ k), Nat.one_mul, Int.natCast_pow (2) 150]; rfl
        rw [c1, c2, eW, eW, Nat.one_mul, Nat.mul_assoc 2 r W] at h3
        clear h2
        exact low2 h3 h1
  have hAs : s = 0 ∨ 8388608 ≤ A := by
    rcases hsA with g | g
    · exfalso
      subst g
      have hW2 : 2 ^ 150 ≤ W := by rw [hW]; exact Nat.pow_le_pow_right (by decide) (by omega)
      have hWp : 0 < W := Nat.lt_of_lt_of_le (Nat.pow_pos (by decide)) hW2
      have hrp : 1 ≤ r := by
        by_cases g : r = 0
        · rw [g, Nat.zero_mul] at hc'; omega
        · omega
      have := Nat.mul_le_mul_right W hrp
      simp only [Nat.zero_mul, Nat.mul_zero, Nat.one_mul] at lo this
      generalize r * W = X at *
      clear hW hW2
      omega
    · exact g
  obtain ⟨hA1, q1, q2, q3⟩ := sqx hA hAs hr hk hc' D W hD hW lo hi
  -- the index of the magnitude
  have hix : ix (A : Int) e = ((A + s * 8388608 : Nat) : Int) := by
    unfold ix
    rw [if_neg (by omega), if_neg (by omega)]
    omega
  rw [hix]
  unfold SI
  rw [Int.toNat_natCast, ← si_rr]
  congr 1
  have hVW : (r * 2 ^ k) * 2 ^ 152 = 4 * (r * W) := by
    rw [show 152 = 150 + 2 from rfl, Nat.pow_add, ← Nat.mul_assoc, eW, Nat.mul_comm]
  have hk2 : s = 0 ∨ 8388608 ≤ A := hAs
  have H1 : Hf ((A + s * 8388608 : Nat) : Int) = (((2 * A + 1) * 2 ^ s : Nat) : Int) := hf_norm A s hA hk2
  have sqr2 : ∀ x : Nat, x * 2 ^ s * (x * 2 ^ s) = x * x * D := fun x => by
    rw [hD, show 2 * s = s + s from by omega, Nat.pow_add]
    simp only [Nat.mul_assoc, Nat.mul_comm, Nat.mul_left_comm]
  have c0 : (((r * 2 ^ k : Nat) : Int)) * 2 ^ 152 = ((4 * (r * W) : Nat) : Int) := by
    rw [← hVW, Int.natCast_mul (r * 2 ^ k), Int.natCast_pow 2 152]
    rfl
  refine rr_uniq ?_ (.inr ?_)
  · have hm := s_midI (A := r * 2 ^ k) ((A + s * 8388608 : Nat) : Int) (Int.natCast_nonneg _)
    rw [c0, H1] at hm
    rw [H1]
    have c1 : (((2 * A + 1) * 2 ^ s : Nat) : Int) * (((2 * A + 1) * 2 ^ s : Nat) : Int) = (((2 * A + 1) * (2 * A + 1) * D : Nat) : Int) := by rw [← Int.natCast_mul, sqr2]
    rw [c1] at hm
    have e9 : (2 * A + 1) * (2 * A + 1) * D = 4 * (A * A * D) + 4 * (A * D) + D := by
      have : (2 * A + 1) * (2 * A + 1) = 4 * (A * A) + 4 * A + 1 := by
        rw [Nat.add_mul, Nat.mul_add, Nat.mul_mul_mul_comm]
        generalize A * A = Y
        omega
      rw [this, Nat.add_mul, Nat.add_mul, Nat.one_mul, Nat.mul_assoc, Nat.mul_assoc 4 A D]
    rw [e9] at hm
    generalize (((2 * A + 1) * 2 ^ s : Nat) : Int) * 2 ^ 2 = Z at *
    clear e9 c1 c0 hVW hi lo eU eW hW hD
    omega
  · have hm := s_midI (A := r * 2 ^ k) (((A + s * 8388608 : Nat) : Int) - 1) (by omega)
    rw [c0] at hm
    have key : ∀ Hn : Nat, Hf (((A + s * 8388608 : Nat) : Int) - 1) = (Hn : Int) → Hn * Hn < 4 * (r * W) → Hf (((A + s * 8388608 : Nat) : Int) - 1) * 2 ^ 2 < 2 * ((sts (r * 2 ^ k) 76 : Nat) : Int) := by
      intro Hn e2 h2
      rw [e2] at hm ⊢
      rw [← Int.natCast_mul] at hm
      generalize (Hn : Int) * 2 ^ 2 = Z at *
      generalize sts (r * 2 ^ k) 76 = N at *
      clear hVW hi lo eU eW hW hD c0 e2
      omega
    have h3 := dn_mid A s 0 (2 ^ s) (by rw [Nat.zero_add]) (by omega) hk2
    simp only [Int.pow_zero, Int.mul_one] at h3
    have e8 : (2 * (A - 1) + 1) * (2 * (A - 1) + 1) * D + 4 * (A * D) = 4 * (A * A * D) + D := by
      obtain ⟨j, rfl⟩ : ∃ j, A = j + 1 := ⟨A - 1, by omega⟩
      rw [Nat.add_sub_cancel]
      have : (2 * j + 1) * (2 * j + 1) + 4 * (j + 1) = 4 * ((j + 1) * (j + 1)) + 1 := by
        have e5 : 2 * j * (2 * j) = 4 * (j * j) := Nat.mul_mul_mul_comm 2 j 2 j
        have e6 : (2 * j + 1) * (2 * j + 1) = 2 * j * (2 * j) + 4 * j + 1 := by
          rw [Nat.add_mul, Nat.mul_add]
          omega
        have e7 : (j + 1) * (j + 1) = j * j + 2 * j + 1 := by
          rw [Nat.add_mul, Nat.mul_add]
          omega
        rw [e6, e5, e7]
        clear e5 e6 e7
        generalize j * j = Y
        clear key hm hi lo hVW c0 eU eW hD hW q1 q2 q3 h3 hmid hlow hc hc' hVI hHf H1 sqr2 e1 hix hU
        omega
      rw [← Nat.mul_assoc 4 (j + 1) D, ← Nat.add_mul, this, Nat.add_mul, Nat.one_mul, Nat.mul_assoc]
    obtain ⟨Hn, hHn⟩ := Int.eq_ofNat_of_zero_le (hf_nn' (show (0 : Int) ≤ ((A + s * 8388608 : Nat) : Int) - 1 by omega))
    rcases h3 with ⟨a, _⟩ | ⟨_, b, _⟩ | ⟨a, b, c⟩
    · omega
    · by_cases h8 : A = 8388608
      · refine key _ b ?_
        rw [sqr2]
        have h4 := q3 h8
        have hDp : 0 < D := by rw [hD]; exact Nat.pow_pos (by decide)
        rw [h4]
        generalize (2 * (A - 1) + 1) * (2 * (A - 1) + 1) * D = Y2 at *
        have hAD : 8388608 * D ≤ A * D := Nat.mul_le_mul_right D hA1
        generalize A * A * D = Y at *
        generalize A * D = Z at *
        clear key hm hi lo hVW c0 eU eW hD hW
        omega
      · refine key _ b ?_
        rw [sqr2]
        have h4 := q2 h8
        generalize (2 * (A - 1) + 1) * (2 * (A - 1) + 1) * D = Y2 at *
        generalize A * A * D = Y at *
        generalize A * D = Z at *
        generalize r * W = X at *
        clear key hm hi lo hVW c0 eU eW hD hW
        omega
    · have h4 := q3 a
      refine key Hn hHn ?_
      clear key hm
      obtain ⟨j, hj⟩ : ∃ j, s = j + 1 := Nat.exists_eq_succ_of_ne_zero b
      have hHv : Hn = 33554431 * 2 ^ j := by
        rw [hHn, hj] at c
        exact hnv c
      have hDj : D = 4 * (2 ^ j * 2 ^ j) := by
        rw [hD, hj, two_j j, Nat.pow_add, Nat.pow_add, Nat.mul_comm]
      rw [h4, a, hHv, hDj]
      have hQ : 0 < 2 ^ j * 2 ^ j := Nat.mul_pos (Nat.pow_pos (by decide)) (Nat.pow_pos (by decide))
      have e7 : 33554431 * 2 ^ j * (33554431 * 2 ^ j) = 33554431 * 33554431 * (2 ^ j * 2 ^ j) := by rw [Nat.mul_mul_mul_comm]
      rw [e7]
      exact lastq hQ

end Go.Proofs.YtbfknapmhkpgcaaGreatDoor
