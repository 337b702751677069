/-
  PLAIN NUMBERS: results of members lie between the extreme results on the ends.
-/
import Derived.Test.YtnhieokegidibaaQuo

namespace Go.Proofs.Ytnhieokegidibaa
open Go.RowKit

theorem low4_of {v : Bool → Bool → Int} {z : Int} (h : ∃ p q, v p q ≤ z) : low4 v ≤ z := by
  obtain ⟨p, q, h⟩ := h
  exact Int.le_trans (low4_le v p q).1 h
theorem high4_of {v : Bool → Bool → Int} {z : Int} (h : ∃ p q, z ≤ v p q) : z ≤ high4 v := by
  obtain ⟨p, q, h⟩ := h
  exact Int.le_trans h (low4_le v p q).2
/-- an operation that is monotone, up or down, in each operand while the other one stays the same -/
theorem between {f : Int → Int → Int} {la ua lb ub x y : Int} (hx : la ≤ x ∧ x ≤ ua)
    (h1 : ∀ y, (y = lb ∨ y = ub) → (f la y ≤ f x y ∧ f x y ≤ f ua y) ∨ (f ua y ≤ f x y ∧ f x y ≤ f la y))
    (h2 : (f x lb ≤ f x y ∧ f x y ≤ f x ub) ∨ (f x ub ≤ f x y ∧ f x y ≤ f x lb)) :
    low4 (fun p q => f (cond p ua la) (cond q ub lb)) ≤ f x y ∧ f x y ≤ high4 (fun p q => f (cond p ua la) (cond q ub lb)) := by
  have a := h1 lb (.inl rfl)
  have b := h1 ub (.inr rfl)
  have m : ∀ p q, low4 (fun p q => f (cond p ua la) (cond q ub lb)) ≤ f (cond p ua la) (cond q ub lb) ∧ f (cond p ua la) (cond q ub lb) ≤ high4 (fun p q => f (cond p ua la) (cond q ub lb)) :=
    fun p q => low4_le (fun p q => f (cond p ua la) (cond q ub lb)) p q
  have m1 := m false false; have m2 := m false true; have m3 := m true false; have m4 := m true true
  simp only [cond_true, cond_false] at m1 m2 m3 m4
  omega
theorem add_between {la ua lb ub x y : Int} (hx : la ≤ x ∧ x ≤ ua) (hy : lb ≤ y ∧ y ≤ ub) : low4 (addF la ua lb ub) ≤ x + y ∧ x + y ≤ high4 (addF la ua lb ub) :=
  between (f := fun x y => x + y) hx (fun _ _ => by omega) (by omega)
theorem sub_between {la ua lb ub x y : Int} (hx : la ≤ x ∧ x ≤ ua) (hy : lb ≤ y ∧ y ≤ ub) : low4 (subF la ua lb ub) ≤ x - y ∧ x - y ≤ high4 (subF la ua lb ub) :=
  between (f := fun x y => x - y) hx (fun _ _ => by omega) (by omega)
theorem mul_mono (a b c : Int) (h : a ≤ b) : (a * c ≤ b * c) ∨ (b * c ≤ a * c) := by
  by_cases hc : 0 ≤ c
  · exact .inl (Int.mul_le_mul_of_nonneg_right h hc)
  · exact .inr (Int.mul_le_mul_of_nonpos_right h (by omega))
theorem mul_way {a b x : Int} (h : a ≤ x ∧ x ≤ b) (c : Int) : (a * c ≤ x * c ∧ x * c ≤ b * c) ∨ (b * c ≤ x * c ∧ x * c ≤ a * c) := by
  by_cases hc : 0 ≤ c
  · exact .inl ⟨Int.mul_le_mul_of_nonneg_right h.1 hc, Int.mul_le_mul_of_nonneg_right h.2 hc⟩
  · exact .inr ⟨Int.mul_le_mul_of_nonpos_right h.2 (by omega), Int.mul_le_mul_of_nonpos_right h.1 (by omega)⟩
theorem mul_between {la ua lb ub x y : Int} (hx : la ≤ x ∧ x ≤ ua) (hy : lb ≤ y ∧ y ≤ ub) : low4 (mulF la ua lb ub) ≤ x * y ∧ x * y ≤ high4 (mulF la ua lb ub) :=
  between (f := fun x y => x * y) hx (fun c _ => mul_way hx c) (by
    have := mul_way hy x
    simp only [Int.mul_comm x]
    exact this)
theorem cmp_between {la ua lb ub x y : Int} (hx : la ≤ x ∧ x ≤ ua) (hy : lb ≤ y ∧ y ≤ ub) : low4 (cmpF la ua lb ub) ≤ cmp3 x y ∧ cmp3 x y ≤ high4 (cmpF la ua lb ub) := by
  have up : ∀ a b c : Int, a ≤ b → cmp3 a c ≤ cmp3 b c := fun a b c h => by
    rcases cmp3_cases a c with k | k | k <;> rcases cmp3_cases b c with l | l | l <;> omega
  have down : ∀ a b c : Int, a ≤ b → cmp3 c b ≤ cmp3 c a := fun a b c h => by
    rcases cmp3_cases c a with k | k | k <;> rcases cmp3_cases c b with l | l | l <;> omega
  exact between (f := cmp3) hx (fun c _ => .inl ⟨up _ _ _ hx.1, up _ _ _ hx.2⟩) (.inr ⟨down _ _ _ hy.2, down _ _ _ hy.1⟩)

/-! ### quotients, rounded towards zero -/
theorem tdiv_up {a b c : Int} (hc : 0 < c) (h : a ≤ b) : a.tdiv c ≤ b.tdiv c := by
  by_cases ha : 0 ≤ a
  · rw [Int.tdiv_eq_ediv_of_nonneg ha, Int.tdiv_eq_ediv_of_nonneg (by omega)]
    exact Int.ediv_le_ediv hc h
  · by_cases hb : 0 ≤ b
    · have h1 : 0 ≤ b.tdiv c := Int.tdiv_nonneg hb (by omega)
      have h2 : 0 ≤ (-a).tdiv c := Int.tdiv_nonneg (by omega) (by omega)
      rw [Int.neg_tdiv] at h2
      omega
    · have h1 : (-b).tdiv c ≤ (-a).tdiv c := by
        rw [Int.tdiv_eq_ediv_of_nonneg (by omega), Int.tdiv_eq_ediv_of_nonneg (by omega)]
        exact Int.ediv_le_ediv hc (by omega)
      rw [Int.neg_tdiv, Int.neg_tdiv] at h1
      omega
theorem tdiv_way {a b x c : Int} (hc : c ≠ 0) (h : a ≤ x ∧ x ≤ b) : (a.tdiv c ≤ x.tdiv c ∧ x.tdiv c ≤ b.tdiv c) ∨ (b.tdiv c ≤ x.tdiv c ∧ x.tdiv c ≤ a.tdiv c) := by
  by_cases hp : 0 < c
  · exact .inl ⟨tdiv_up hp h.1, tdiv_up hp h.2⟩
  · right
    have h1 := tdiv_up (c := -c) (by omega) h.1
    have h2 := tdiv_up (c := -c) (by omega) h.2
    rw [Int.tdiv_neg, Int.tdiv_neg] at h1 h2
    omega
theorem ediv_down {x a b : Int} (hx : 0 ≤ x) (ha : 0 < a) (h : a ≤ b) : x / b ≤ x / a := by
  have h1 : x / b * b ≤ x := Int.ediv_mul_le x (by omega)
  have h0 : 0 ≤ x / b := Int.ediv_nonneg hx (by omega)
  have h2 : x / b * a ≤ x / b * b := Int.mul_le_mul_of_nonneg_left h h0
  exact (Int.le_ediv_iff_mul_le ha).2 (by omega)
/-- by divisors of one sign -/
theorem tdiv_side {x a y b : Int} (h : a ≤ y ∧ y ≤ b) (hs : 0 < a ∨ b < 0) : (x.tdiv a ≤ x.tdiv y ∧ x.tdiv y ≤ x.tdiv b) ∨ (x.tdiv b ≤ x.tdiv y ∧ x.tdiv y ≤ x.tdiv a) := by
  have pos : ∀ {x a b : Int}, 0 ≤ x → 0 < a → a ≤ b → x.tdiv b ≤ x.tdiv a := fun hx ha h => by
    rw [Int.tdiv_eq_ediv_of_nonneg hx, Int.tdiv_eq_ediv_of_nonneg hx]; exact ediv_down hx ha h
  by_cases hx : 0 ≤ x
  · rcases hs with hs | hs
    · exact .inr ⟨pos hx (by omega) h.2, pos hx hs h.1⟩
    · have h1 := pos (x := x) (a := -y) (b := -a) hx (by omega) (by omega)
      have h2 := pos (x := x) (a := -b) (b := -y) hx (by omega) (by omega)
      rw [Int.tdiv_neg, Int.tdiv_neg] at h1 h2
      omega
  · have hx' : 0 ≤ -x := by omega
    rcases hs with hs | hs
    · have h1 := pos (x := -x) (a := y) (b := b) hx' (by omega) h.2
      have h2 := pos (x := -x) (a := a) (b := y) hx' hs h.1
      rw [Int.neg_tdiv, Int.neg_tdiv] at h1 h2
      omega
    · have h1 := pos (x := -x) (a := -y) (b := -a) hx' (by omega) (by omega)
      have h2 := pos (x := -x) (a := -b) (b := -y) hx' (by omega) (by omega)
      rw [Int.tdiv_neg, Int.tdiv_neg, Int.neg_tdiv, Int.neg_tdiv] at h1 h2
      omega
theorem quo_between {la ua lo hi x y : Int} (hx : la ≤ x ∧ x ≤ ua) (hy : lo ≤ y ∧ y ≤ hi) (hs : 0 < lo ∨ hi < 0) : low4 (quoF la ua lo hi) ≤ x.tdiv y ∧ x.tdiv y ≤ high4 (quoF la ua lo hi) :=
  between (f := fun x y => x.tdiv y) hx (fun c hc => tdiv_way (by omega) hx) (tdiv_side hy hs)

end Go.Proofs.Ytnhieokegidibaa
