/-
  PACKAGE lex: what stands in a text and, elsewhere, in another one is read alike: a token alone, two texts, a blank ahead of a token.
-/
import Derived.Test.YtnmifeiokhpcfaaDoorLexOrd
import Derived.Test.YtnmifeiokhpcfaaDoorLexCut3

namespace Go.Proofs.YtnmifeiokhpcfaaDoor
open Go.RowKit
set_option linter.unusedVariables false

/-- m bytes of t from p on lie in s from q on, and s goes on with a byte that ends every run -/
structure Emb (t s : ByteArray) (p q m : Nat) : Prop where
  tl : p + m ≤ t.size
  sl : q + m ≤ s.size
  eq : (s.data.toList.drop q).take m = (t.data.toList.drop p).take m
  st : byt s (q + m) = 256 ∨ byt s (q + m) = 32 ∨ byt s (q + m) = 10

theorem byt_list (s : ByteArray) (k : Nat) : byt s k = ((s.data.toList[k]?).map UInt8.toNat).getD 256 := by
  by_cases h : k < s.size
  · rw [byt_in h, List.getElem?_eq_getElem (by rw [← Lib.size_eq]; exact h)]
    rfl
  · rw [byt_out (by omega), List.getElem?_eq_none (by rw [← Lib.size_eq]; omega)]
    rfl

section
variable {t s : ByteArray} {p q m : Nat}

theorem Emb.byt (E : Emb t s p q m) {k : Nat} (hk : k < m) : Go.Proofs.YtnmifeiokhpcfaaDoor.byt s (q + k) = Go.Proofs.YtnmifeiokhpcfaaDoor.byt t (p + k) := by
  rw [byt_list, byt_list]
  have h := congrArg (fun l => l[k]?) E.eq
  simp only [List.getElem?_take_of_lt hk, List.getElem?_drop] at h
  rw [h]

theorem Emb.stop (E : Emb t s p q m) {f : Nat → Bool} (h1 : f 256 = false) (h2 : f 32 = false) (h3 : f 10 = false) : f (Go.Proofs.YtnmifeiokhpcfaaDoor.byt s (q + m)) = false := by
  rcases E.st with h | h | h <;> rw [h] <;> assumption

theorem Emb.ext (E : Emb t s p q m) (x : Nat) {y : Nat} (hy : y ≤ m) : s.extract (q + x) (q + y) = t.extract (p + x) (p + y) := by
  apply ByteArray.ext
  apply Array.ext'
  rw [Lib.extract_data, Lib.extract_data]
  have h := congrArg (fun l => (l.drop x).take (y - x)) E.eq
  simp only [List.drop_take, List.take_take, List.drop_drop] at h
  rw [show min (y - x) (m - x) = y - x from by omega] at h
  rw [show q + y - (q + x) = y - x from by omega, show p + y - (p + x) = y - x from by omega]
  exact h

theorem Emb.upTo (E : Emb t s p q m) {f : Nat → Bool} : ∀ d x, x + d = m → Go.Proofs.YtnmifeiokhpcfaaDoor.upTo f t (p + x) ≤ p + m → (f (Go.Proofs.YtnmifeiokhpcfaaDoor.byt s (q + m)) = false ∨ Go.Proofs.YtnmifeiokhpcfaaDoor.upTo f t (p + x) < p + m) →
    ∃ y, x ≤ y ∧ y ≤ m ∧ Go.Proofs.YtnmifeiokhpcfaaDoor.upTo f t (p + x) = p + y ∧ Go.Proofs.YtnmifeiokhpcfaaDoor.upTo f s (q + x) = q + y := by
  intro d
  have htl := E.tl
  have hsl := E.sl
  induction d with
  | zero =>
    intro x hx hu hs
    obtain rfl : x = m := by omega
    have hg := upTo_ge f t (p + x)
    rcases hs with hs | hs
    · exact ⟨x, Nat.le_refl _, Nat.le_refl _, by omega, upTo_stop hs⟩
    · omega
  | succ d ih =>
    intro x hx hu hs
    have hb := E.byt (show x < m by omega)
    cases hf : f (Go.Proofs.YtnmifeiokhpcfaaDoor.byt t (p + x))
    · refine ⟨x, Nat.le_refl _, by omega, upTo_stop hf, upTo_stop (by rw [hb]; exact hf)⟩
    · rw [upTo_step (by omega) hf] at hu hs ⊢
      rw [upTo_step (s := s) (by omega) (by rw [hb]; exact hf)]
      obtain ⟨y, h1, h2, h3, h4⟩ := ih (x + 1) (by omega) hu hs
      exact ⟨y, by omega, h2, h3, h4⟩

theorem Emb.up (E : Emb t s p q m) {f : Nat → Bool} {x : Nat} (hx : x ≤ m) (hu : Go.Proofs.YtnmifeiokhpcfaaDoor.upTo f t (p + x) ≤ p + m) (h1 : f 256 = false) (h2 : f 32 = false) (h3 : f 10 = false) :
    ∃ y, x ≤ y ∧ y ≤ m ∧ Go.Proofs.YtnmifeiokhpcfaaDoor.upTo f t (p + x) = p + y ∧ Go.Proofs.YtnmifeiokhpcfaaDoor.upTo f s (q + x) = q + y :=
  E.upTo (m - x) x (by omega) hu (.inl (E.stop h1 h2 h3))

/-- what is blank up to the border goes on behind it -/
theorem Emb.over (E : Emb t s p q m) {f : Nat → Bool} : ∀ d x, x + d = m → p + m ≤ Go.Proofs.YtnmifeiokhpcfaaDoor.upTo f t (p + x) → Go.Proofs.YtnmifeiokhpcfaaDoor.upTo f s (q + x) = Go.Proofs.YtnmifeiokhpcfaaDoor.upTo f s (q + m) := by
  intro d
  have htl := E.tl
  have hsl := E.sl
  induction d with
  | zero =>
    intro x hx hu
    obtain rfl : x = m := by omega
    rfl
  | succ d ih =>
    intro x hx hu
    have hb := E.byt (show x < m by omega)
    cases hf : f (Go.Proofs.YtnmifeiokhpcfaaDoor.byt t (p + x))
    · rw [upTo_stop hf] at hu; omega
    · rw [upTo_step (by omega) hf] at hu
      rw [upTo_step (s := s) (by omega) (by rw [hb]; exact hf)]
      exact ih (x + 1) (by omega) hu

theorem Emb.frac (E : Emb t s p q m) {x : Nat} (hx : x ≤ m) (hu : fracEnd t (p + x) ≤ p + m) : ∃ y, x ≤ y ∧ y ≤ m ∧ fracEnd t (p + x) = p + y ∧ fracEnd s (q + x) = q + y := by
  have htl := E.tl
  have hsl := E.sl
  by_cases hc : Go.Proofs.YtnmifeiokhpcfaaDoor.byt t (p + x) = 46 ∧ isDig (Go.Proofs.YtnmifeiokhpcfaaDoor.byt t (p + x + 1)) = true
  · have e : fracEnd t (p + x) = Go.Proofs.YtnmifeiokhpcfaaDoor.upTo isDig t (p + x + 1) := by unfold fracEnd; rw [if_pos hc]
    have hlt : p + x + 1 < t.size := by
      by_cases h1 : p + x + 1 < t.size
      · exact h1
      · have := hc.2
        rw [byt_out (by omega)] at this
        cases this
    have h2 : p + x + 2 ≤ Go.Proofs.YtnmifeiokhpcfaaDoor.upTo isDig t (p + x + 1) := by rw [upTo_step hlt hc.2]; exact upTo_ge _ _ _
    rw [e] at hu ⊢
    obtain ⟨y, g1, g2, g3, g4⟩ := E.up (f := isDig) (show x + 1 ≤ m by omega) hu (by decide) (by decide) (by decide)
    refine ⟨y, by omega, g2, g3, ?_⟩
    unfold fracEnd
    rw [if_pos ⟨by rw [E.byt (show x < m by omega)]; exact hc.1, by rw [show q + x + 1 = q + (x + 1) from rfl, E.byt (show x + 1 < m by omega)]; exact hc.2⟩]
    exact g4
  · have e : fracEnd t (p + x) = p + x := by unfold fracEnd; rw [if_neg hc]
    refine ⟨x, Nat.le_refl _, hx, e, ?_⟩
    unfold fracEnd
    rw [if_neg]
    rintro ⟨h1, h2⟩
    by_cases g1 : x < m
    · rw [E.byt g1] at h1
      by_cases g2 : x + 1 < m
      · rw [show q + x + 1 = q + (x + 1) from rfl, E.byt g2] at h2
        exact hc ⟨h1, h2⟩
      · rw [show q + x + 1 = q + m from by omega, E.stop (f := isDig) (by decide) (by decide) (by decide)] at h2
        cases h2
    · obtain rfl : x = m := by omega
      rcases E.st with h | h | h <;> omega

theorem Emb.from (E : Emb t s p q m) {x : Nat} (hx : x + 1 < m) : expFrom s (q + x) = q + (expFrom t (p + x) - p) ∧ p ≤ expFrom t (p + x) := by
  have := expFrom_ge t (p + x)
  have e := E.byt hx
  unfold expFrom
  rw [show q + x + 1 = q + (x + 1) from rfl, e, show p + (x + 1) = p + x + 1 from rfl]
  split <;> omega

theorem Emb.exp (E : Emb t s p q m) {x : Nat} (hx : x ≤ m) (hu : expEnd t (p + x) ≤ p + m) : ∃ y, x ≤ y ∧ y ≤ m ∧ expEnd t (p + x) = p + y ∧ expEnd s (q + x) = q + y := by
  have htl := E.tl
  have hsl := E.sl
  have hf := expFrom_ge t (p + x)
  have hg := expFrom_ge s (q + x)
  by_cases hc : Go.Proofs.YtnmifeiokhpcfaaDoor.byt t (p + x) = 101 ∧ isDig (Go.Proofs.YtnmifeiokhpcfaaDoor.byt t (expFrom t (p + x))) = true
  · have e : expEnd t (p + x) = Go.Proofs.YtnmifeiokhpcfaaDoor.upTo isDig t (expFrom t (p + x)) := by unfold expEnd; rw [if_pos hc]
    have hlt : expFrom t (p + x) < t.size := by
      by_cases h1 : expFrom t (p + x) < t.size
      · exact h1
      · have := hc.2
        rw [byt_out (by omega)] at this
        cases this
    have h2 : expFrom t (p + x) + 1 ≤ Go.Proofs.YtnmifeiokhpcfaaDoor.upTo isDig t (expFrom t (p + x)) := by rw [upTo_step hlt hc.2]; exact upTo_ge _ _ _
    rw [e] at hu ⊢
    have e2 := E.from (show x + 1 < m by omega)
    obtain ⟨z, hz⟩ : ∃ z, expFrom t (p + x) = p + z := ⟨expFrom t (p + x) - p, by omega⟩
    rw [hz] at hu h2 hf hc e2 ⊢
    rw [show p + z - p = z from by omega] at e2
    obtain ⟨y, g1, g2, g3, g4⟩ := E.up (f := isDig) (show z ≤ m by omega) hu (by decide) (by decide) (by decide)
    refine ⟨y, by omega, g2, g3, ?_⟩
    unfold expEnd
    rw [e2.1, if_pos ⟨by rw [E.byt (show x < m by omega)]; exact hc.1, by rw [E.byt (show z < m by omega)]; exact hc.2⟩]
    exact g4
  · have e : expEnd t (p + x) = p + x := by unfold expEnd; rw [if_neg hc]
    refine ⟨x, Nat.le_refl _, hx, e, ?_⟩
    unfold expEnd
    rw [if_neg]
    rintro ⟨h1, h2⟩
    by_cases g1 : x < m
    · rw [E.byt g1] at h1
      by_cases g2 : x + 1 < m
      · have e2 := E.from g2
        obtain ⟨z, hz⟩ : ∃ z, expFrom t (p + x) = p + z := ⟨expFrom t (p + x) - p, by omega⟩
        rw [hz] at e2 hc hf
        rw [show p + z - p = z from by omega] at e2
        rw [e2.1] at h2
        by_cases g3 : z < m
        · rw [E.byt g3] at h2
          exact hc ⟨h1, h2⟩
        · rw [show z = m from by omega, E.stop (f := isDig) (by decide) (by decide) (by decide)] at h2
          cases h2
      · have e3 : expFrom s (q + x) = q + m := by
          unfold expFrom
          rw [if_neg]
          · omega
          · rw [show q + x + 1 = q + m from by omega]
            rcases E.st with h | h | h <;> rw [h] <;> decide
        rw [e3, E.stop (f := isDig) (by decide) (by decide) (by decide)] at h2
        cases h2
    · obtain rfl : x = m := by omega
      rcases E.st with h | h | h <;> omega

theorem fracEnd_ge' (s : ByteArray) (a : Nat) : a ≤ fracEnd s a := by
  unfold fracEnd
  split
  · have := upTo_ge isDig s (a + 1); omega
  · exact Nat.le_refl _

theorem expEnd_ge' (s : ByteArray) (a : Nat) : a ≤ expEnd s a := by
  unfold expEnd
  split
  · have := upTo_ge isDig s (expFrom s a)
    have := expFrom_ge s a
    omega
  · exact Nat.le_refl _

theorem Emb.num (E : Emb t s p q m) {x : Nat} (hx : x ≤ m) (hu : numEnd t (p + x) ≤ p + m) : ∃ z y, x ≤ z ∧ z ≤ y ∧ y ≤ m ∧ Go.Proofs.YtnmifeiokhpcfaaDoor.upTo isDig t (p + x) = p + z ∧ Go.Proofs.YtnmifeiokhpcfaaDoor.upTo isDig s (q + x) = q + z ∧ numEnd t (p + x) = p + y ∧ numEnd s (q + x) = q + y := by
  have h1 := fracEnd_ge' t (Go.Proofs.YtnmifeiokhpcfaaDoor.upTo isDig t (p + x))
  have h2 := expEnd_ge' t (fracEnd t (Go.Proofs.YtnmifeiokhpcfaaDoor.upTo isDig t (p + x)))
  have hu' : expEnd t (fracEnd t (Go.Proofs.YtnmifeiokhpcfaaDoor.upTo isDig t (p + x))) ≤ p + m := hu
  obtain ⟨z, a1, a2, a3, a4⟩ := E.up (f := isDig) hx (by omega) (by decide) (by decide) (by decide)
  rw [a3] at h1 h2 hu'
  obtain ⟨z2, b1, b2, b3, b4⟩ := E.frac a2 (by omega)
  rw [b3] at h1 h2 hu'
  obtain ⟨y, c1, c2, c3, c4⟩ := E.exp b2 hu'
  refine ⟨z, y, a1, by omega, c2, a3, a4, ?_, ?_⟩
  · unfold numEnd; rw [a3, b3, c3]
  · unfold numEnd; rw [a4, b4, c4]

theorem lgs_same {r r' : List UInt8} : ∀ (l : List ByteArray) (b : ByteArray), (∀ x ∈ l, Lib.hasPrefix r x.data.toList = Lib.hasPrefix r' x.data.toList) → lgs r l b = lgs r' l b := by
  intro l
  induction l with
  | nil => intro b _; rfl
  | cons x l ih =>
    intro b h
    unfold lgs
    rw [h x List.mem_cons_self]
    exact ih _ (fun y hy => h y (List.mem_cons_of_mem _ hy))

theorem signs_nostop : ∀ x ∈ signL, ∀ b ∈ x.data.toList, b.toNat ≠ 32 ∧ b.toNat ≠ 10 := by decide +kernel

theorem Emb.sign (E : Emb t s p q m) {x : Nat} (hx : x ≤ m) (hu : p + x + (signAt t (p + x)).size ≤ p + m) : signAt s (q + x) = signAt t (p + x) := by
  have htl := E.tl
  have hsl := E.sl
  unfold signAt at hu ⊢
  obtain ⟨r, hr⟩ : ∃ r, r = (t.data.toList.drop (p + x)).take (m - x) := ⟨_, rfl⟩
  have et : t.data.toList.drop (p + x) = r ++ t.data.toList.drop (p + m) := by
    rw [hr]
    conv => lhs; rw [← List.take_append_drop (m - x) (t.data.toList.drop (p + x))]
    rw [List.drop_drop]
    congr 2
    omega
  have hr2 : r = (s.data.toList.drop (q + x)).take (m - x) := by
    have h := congrArg (fun l => l.drop x) E.eq
    simp only [List.drop_take, List.drop_drop] at h
    rw [hr]
    exact h.symm
  have es : s.data.toList.drop (q + x) = r ++ s.data.toList.drop (q + m) := by
    rw [hr2]
    conv => lhs; rw [← List.take_append_drop (m - x) (s.data.toList.drop (q + x))]
    rw [List.drop_drop]
    congr 2
    omega
  have hl : r.length = m - x := by
    rw [hr, List.length_take, List.length_drop, ← Lib.size_eq]
    omega
  rw [et] at hu ⊢
  rw [es]
  rw [← lgs_cut r (t.data.toList.drop (p + m)) signL ⟨#[]⟩ (by omega)]
  apply lgs_same
  intro g hg
  by_cases hlen : g.data.toList.length ≤ r.length
  · exact pre_cut hlen
  · have n2 : Lib.hasPrefix r g.data.toList = false := by
      cases h : Lib.hasPrefix r g.data.toList
      · rfl
      · unfold Lib.hasPrefix at h
        rw [List.isPrefixOf_iff_prefix] at h
        exact absurd h.length_le hlen
    rw [n2]
    cases h : Lib.hasPrefix (r ++ s.data.toList.drop (q + m)) g.data.toList
    · rfl
    · exfalso
      unfold Lib.hasPrefix at h
      rw [List.isPrefixOf_iff_prefix] at h
      obtain ⟨y, hy⟩ := h
      have e1 : (g.data.toList ++ y)[r.length]? = (r ++ s.data.toList.drop (q + m))[r.length]? := by rw [hy]
      have hlt : r.length < g.data.toList.length := by omega
      rw [List.getElem?_append_left hlt, List.getElem?_append_right (Nat.le_refl _), Nat.sub_self, List.getElem?_drop, List.getElem?_eq_getElem hlt, Nat.add_zero] at e1
      have e2 := signs_nostop g hg _ (List.getElem_mem hlt)
      have e3 := byt_list s (q + m)
      rw [← e1] at e3
      simp only [Option.map_some, Option.getD_some] at e3
      rcases E.st with h | h | h
      · have := (g.data.toList[r.length]).toNat_lt
        omega
      · exact e2.1 (by rw [← e3]; exact h)
      · exact e2.2 (by rw [← e3]; exact h)

end

/-- where the comment behind an end goes on -/
def nxt (s : ByteArray) (a : Nat) : Nat := if isRun (byt s a) = true then upTo isRun s a else a + 1

theorem nxt_gt {s : ByteArray} {a : Nat} : a < nxt s a := by
  unfold nxt
  split
  · rename_i h; exact run_gt h
  · omega

theorem cloN_fuel {s : ByteArray} : ∀ n n' a, s.size - a < n → s.size - a < n' → cloN s n a = cloN s n' a := by
  intro n
  induction n with
  | zero => intro n' a h; omega
  | succ n ih =>
    intro n' a h h'
    obtain ⟨n', rfl⟩ : ∃ j, n' = j + 1 := ⟨n' - 1, by omega⟩
    unfold cloN
    split
    · rename_i hc
      split
      · rfl
      · have := nxt_gt (s := s) (a := a)
        unfold nxt at this
        exact ih _ _ (by omega) (by omega)
    · rfl

theorem closer_eq (s : ByteArray) (a : Nat) : closer s a = if a < s.size ∧ byt s a ≠ 59 then (if stops (s.extract a (upTo isRun s a)).toList = true then a else closer s (nxt s a)) else a := by
  have e : closer s a = cloN s (s.size + 1 + 1) a := cloN_fuel _ _ _ (by omega) (by omega)
  rw [e, cloN]
  rfl

section
variable {t s : ByteArray} {p q m : Nat}

theorem Emb.clo (E : Emb t s p q m) (hm : Bd t (p + m)) : ∀ d x, m - x ≤ d → x ≤ m →
    (closer t (p + x) < p + m → ∃ y, x ≤ y ∧ y < m ∧ closer t (p + x) = p + y ∧ closer s (q + x) = q + y) ∧
    (p + m ≤ closer t (p + x) → closer s (q + x) = closer s (q + m) ∧ closer t (p + x) = closer t (p + m)) := by
  intro d
  have htl := E.tl
  have hsl := E.sl
  have base : ∀ x, x = m → (closer t (p + x) < p + m → ∃ y, x ≤ y ∧ y < m ∧ closer t (p + x) = p + y ∧ closer s (q + x) = q + y) ∧
      (p + m ≤ closer t (p + x) → closer s (q + x) = closer s (q + m) ∧ closer t (p + x) = closer t (p + m)) := by
    rintro x rfl
    have := (closer_ge (s := t) (a := p + x) (by omega)).1
    exact ⟨fun h => by omega, fun _ => ⟨rfl, rfl⟩⟩
  induction d with
  | zero => intro x hd hx; exact base x (by omega)
  | succ d ih =>
    intro x hd hx
    by_cases hxm : x = m
    · exact base x hxm
    · have hb := E.byt (show x < m by omega)
      have hr := hm.run (show p + x < p + m by omega)
      obtain ⟨y1, u1, u2, u3, u4⟩ := E.up (f := isRun) hx hr (by decide) (by decide) (by decide)
      have hx2 : s.extract (q + x) (Go.Proofs.YtnmifeiokhpcfaaDoor.upTo isRun s (q + x)) = t.extract (p + x) (Go.Proofs.YtnmifeiokhpcfaaDoor.upTo isRun t (p + x)) := by rw [u3, u4]; exact E.ext x u2
      have hn : ∃ z, x < z ∧ z ≤ m ∧ nxt t (p + x) = p + z ∧ nxt s (q + x) = q + z := by
        have g := nxt_gt (s := t) (a := p + x)
        unfold nxt at g ⊢
        rw [hb]
        split
        · rename_i h9
          rw [if_pos h9] at g
          exact ⟨y1, by omega, u2, u3, u4⟩
        · exact ⟨x + 1, by omega, by omega, rfl, rfl⟩
      obtain ⟨z, z1, z2, z3, z4⟩ := hn
      by_cases h59 : Go.Proofs.YtnmifeiokhpcfaaDoor.byt t (p + x) ≠ 59
      · by_cases hst : stops (t.extract (p + x) (Go.Proofs.YtnmifeiokhpcfaaDoor.upTo isRun t (p + x))).toList = true
        · have et : closer t (p + x) = p + x := by rw [closer_eq t (p + x), if_pos ⟨by omega, h59⟩, if_pos hst]
          have es : closer s (q + x) = q + x := by rw [closer_eq s (q + x), hb, hx2, if_pos ⟨by omega, h59⟩, if_pos hst]
          rw [et, es]
          exact ⟨fun _ => ⟨x, Nat.le_refl _, by omega, rfl, rfl⟩, fun h => by omega⟩
        · have et : closer t (p + x) = closer t (p + z) := by rw [closer_eq t (p + x), if_pos ⟨by omega, h59⟩, if_neg hst, z3]
          have es : closer s (q + x) = closer s (q + z) := by rw [closer_eq s (q + x), hb, hx2, if_pos ⟨by omega, h59⟩, if_neg hst, z4]
          rw [et, es]
          obtain ⟨i1, i2⟩ := ih z (by omega) z2
          refine ⟨fun h => ?_, i2⟩
          obtain ⟨y, j1, j2, j3, j4⟩ := i1 h
          exact ⟨y, by omega, j2, j3, j4⟩
      · have et : closer t (p + x) = p + x := by rw [closer_eq t (p + x), if_neg (fun h => h59 h.2)]
        have es : closer s (q + x) = q + x := by rw [closer_eq s (q + x), hb, if_neg (fun h => h59 h.2)]
        rw [et, es]
        exact ⟨fun _ => ⟨x, Nat.le_refl _, by omega, rfl, rfl⟩, fun h => by omega⟩

end

/-- the token at other offsets -/
def Tk.mv (p q : Nat) (u : Tk) : Tk := { u with ofs := u.ofs - p + q, en := u.en - p + q }

theorem Tk.mv_zero (u : Tk) : u.mv 0 0 = u := rfl

theorem mayCom_mv (L l : List Tk) (u : Tk) (p q : Nat) : mayCom (L ++ [u.mv p q]) = mayCom (l ++ [u]) := by
  unfold mayCom
  rw [List.getLast?_concat, List.getLast?_concat]
  rfl

/-- a token does not depend on those ahead of it -/
theorem tok_any {nf : Num} {s : ByteArray} {a b : Nat} {l l' : List Tk} (h : tokOut nf s a l = .ok (b, l')) : ∃ u, l' = l ++ [u] ∧ ∀ L, tokOut nf s a L = .ok (b, L ++ [u]) := by
  unfold tokOut at h ⊢
  split at h
  · rename_i h1
    simp only [if_pos h1]
    unfold numOut at h ⊢
    cases hn : nf a with
    | error e => rw [hn] at h; cases h
    | ok v =>
      obtain ⟨e, t⟩ := v
      rw [hn] at h
      simp only [Except.ok.injEq, Prod.mk.injEq] at h
      obtain ⟨rfl, rfl⟩ := h
      exact ⟨t, rfl, fun L => rfl⟩
  · rename_i h1
    simp only [if_neg h1]
    split at h
    · rename_i h2
      simp only [if_pos h2]
      unfold wordOut at h ⊢
      split at h
      · rename_i h3
        simp only [if_pos h3]
        split at h
        · rename_i h4
          simp only [Except.ok.injEq, Prod.mk.injEq] at h
          obtain ⟨rfl, rfl⟩ := h
          simp only [if_pos h4]
          exact ⟨_, rfl, fun L => rfl⟩
        · rename_i h4
          simp only [Except.ok.injEq, Prod.mk.injEq] at h
          obtain ⟨rfl, rfl⟩ := h
          simp only [if_neg h4]
          exact ⟨_, rfl, fun L => rfl⟩
      · rename_i h3
        simp only [if_neg h3]
        split at h
        · cases h
        · rename_i h4
          simp only [Except.ok.injEq, Prod.mk.injEq] at h
          obtain ⟨rfl, rfl⟩ := h
          simp only [if_neg h4]
          exact ⟨_, rfl, fun L => rfl⟩
    · rename_i h2
      simp only [if_neg h2]
      split at h
      · rename_i h3
        simp only [if_pos h3]
        unfold strOut at h ⊢
        split at h
        · rename_i h4
          simp only [if_pos h4]
          split at h
          · cases h
          · rename_i h5
            simp only [Except.ok.injEq, Prod.mk.injEq] at h
            obtain ⟨rfl, rfl⟩ := h
            simp only [if_neg h5]
            exact ⟨_, rfl, fun L => rfl⟩
        · cases h
      · rename_i h3
        simp only [if_neg h3]
        unfold signOut at h ⊢
        split at h
        · cases h
        · rename_i h4
          simp only [Except.ok.injEq, Prod.mk.injEq] at h
          obtain ⟨rfl, rfl⟩ := h
          simp only [if_neg h4]
          exact ⟨_, rfl, fun L => rfl⟩

/-- what is asked of how numbers are read -/
structure NumOk (nf : Num) (s : ByteArray) : Prop where
  en : ∀ a e t, nf a = .ok (e, t) → a < e ∧ e ≤ s.size ∧ t.ofs = a ∧ t.en = e
  run : ∀ a e t, nf a = .ok (e, t) → isRun (byt s e) = false

def isEndT (u : Tk) : Prop := u.kind = 1 ∧ u.text.toList = [101, 110, 100]

section
variable {t s : ByteArray} {p q m : Nat} {nf nf' : Num}

/-- numbers are read alike in both -/
def NumE (nf nf' : Num) (p q m : Nat) : Prop := ∀ x b u, x < m → nf (p + x) = .ok (b, u) → b ≤ p + m → nf' (q + x) = .ok (b - p + q, u.mv p q)

theorem Emb.tok (E : Emb t s p q m) (hm : Bd t (p + m)) (N : NumOk nf t) (hnn : NumE nf nf' p q m) {x b : Nat} {u : Tk} (hx : x < m) (h : tokOut nf t (p + x) [] = .ok (b, [u])) (hu : u.en ≤ p + m) :
    u.ofs = p + x ∧ p + x < u.en ∧ u.en ≤ b ∧ ∃ b', tokOut nf' s (q + x) [] = .ok (b', [u.mv p q]) ∧ (b < p + m → q + x < b' ∧ b' = b - p + q) ∧ (p + m ≤ b → b' = q + m ∧ b = p + m ∨ isEndT u ∧ b = closer t (p + m) ∧ b' = closer s (q + m)) := by
  have htl := E.tl
  have hsl := E.sl
  have hb := E.byt hx
  have hr := hm.run (show p + x < p + m by omega)
  obtain ⟨y1, u1, u2, u3, u4⟩ := E.up (f := isRun) (Nat.le_of_lt hx) hr (by decide) (by decide) (by decide)
  have hx2 : s.extract (q + x) (q + y1) = t.extract (p + x) (p + y1) := E.ext x u2
  have g1 : p + x - p + q = q + x := by omega
  have g2 : ∀ y, p + y - p + q = q + y := fun y => by omega
  unfold tokOut at h ⊢
  rw [hb]
  split at h
  · rename_i hd
    rw [if_pos hd]
    unfold numOut at h ⊢
    cases hn : nf (p + x) with
    | error e => rw [hn] at h; cases h
    | ok v =>
      obtain ⟨e, w⟩ := v
      rw [hn] at h
      simp only [Except.ok.injEq, Prod.mk.injEq, List.nil_append, List.cons.injEq, and_true] at h
      obtain ⟨rfl, rfl⟩ := h
      have k := N.en _ _ _ hn
      rw [hnn x _ _ hx hn (by omega)]
      exact ⟨k.2.2.1, by omega, by omega, _, rfl, fun _ => ⟨by omega, rfl⟩, fun h => .inl ⟨by omega, by omega⟩⟩
  · rename_i hd
    rw [if_neg hd]
    split at h
    · rename_i hr1
      rw [if_pos hr1]
      have hgt := run_gt hr1
      unfold wordOut at h ⊢
      rw [u3] at h
      rw [u4, hx2]
      split at h
      · rename_i hw
        rw [if_pos hw]
        split at h
        · rename_i he
          rw [if_pos he]
          simp only [Except.ok.injEq, Prod.mk.injEq, List.nil_append, List.cons.injEq, and_true] at h
          obtain ⟨rfl, rfl⟩ := h
          have hc := E.clo hm (m - y1) y1 (Nat.le_refl _) u2
          have hge := (closer_ge (s := t) (a := p + y1) (by omega)).1
          refine ⟨rfl, by simp only; omega, by simp only; omega, closer s (q + y1), ?_, fun h => ?_, fun h => .inr ?_⟩
          · simp only [List.nil_append, Tk.mv, g2]
          · obtain ⟨y, j1, j2, j3, j4⟩ := hc.1 h
            omega
          · have := hc.2 h
            exact ⟨⟨rfl, by simpa using he⟩, this.2, this.1⟩
        · rename_i he
          rw [if_neg he]
          simp only [Except.ok.injEq, Prod.mk.injEq, List.nil_append, List.cons.injEq, and_true] at h
          obtain ⟨rfl, rfl⟩ := h
          refine ⟨rfl, by simp only; omega, by simp only; omega, q + y1, ?_, fun h => by omega, fun h => .inl (by omega)⟩
          simp only [List.nil_append, Tk.mv, g2]
      · rename_i hw
        rw [if_neg hw]
        split at h
        · cases h
        · rename_i h16
          rw [if_neg (by omega)]
          simp only [Except.ok.injEq, Prod.mk.injEq, List.nil_append, List.cons.injEq, and_true] at h
          obtain ⟨rfl, rfl⟩ := h
          refine ⟨rfl, by simp only; omega, by simp only; omega, q + y1, ?_, fun h => by omega, fun h => .inl (by omega)⟩
          simp only [List.nil_append, Tk.mv, g2]
    · rename_i hr1
      rw [if_neg hr1]
      split at h
      · rename_i hq
        rw [if_pos hq]
        unfold strOut at h ⊢
        split at h
        · rename_i h3
          split at h
          · cases h
          · rename_i h8
            simp only [Except.ok.injEq, Prod.mk.injEq, List.nil_append, List.cons.injEq, and_true] at h
            obtain ⟨rfl, rfl⟩ := h
            simp only at hu
            have g : p + x + 1 ≤ strEnd t (p + x) := upTo_ge _ _ _
            have hse : strEnd t (p + x) = Go.Proofs.YtnmifeiokhpcfaaDoor.upTo isStr t (p + (x + 1)) := rfl
            obtain ⟨y, j1, j2, j3, j4⟩ := E.upTo (f := isStr) (m - (x + 1)) (x + 1) (by omega) (by rw [← hse]; omega) (.inr (by rw [← hse]; omega))
            have hs2 : strEnd s (q + x) = q + y := j4
            rw [hse, j3] at h3 h8 hu g ⊢
            rw [hs2, E.byt (show y < m by omega), if_pos h3, if_neg (by omega)]
            refine ⟨rfl, by simp only; omega, by simp only; omega, q + y + 1, ?_, fun h => by omega, fun h => .inl (by omega)⟩
            have ex : s.extract (q + x + 1) (q + y) = t.extract (p + x + 1) (p + y) := E.ext (x + 1) j2
            simp only [List.nil_append, Tk.mv, ex, g2, show p + y + 1 - p + q = q + y + 1 from by omega]
        · cases h
      · rename_i hq
        rw [if_neg hq]
        unfold signOut at h ⊢
        split at h
        · cases h
        · rename_i h5
          simp only [Except.ok.injEq, Prod.mk.injEq, List.nil_append, List.cons.injEq, and_true] at h
          obtain ⟨rfl, rfl⟩ := h
          simp only at hu
          have hp := size_pos (by simpa using h5)
          rw [E.sign (Nat.le_of_lt hx) hu, if_neg h5]
          refine ⟨rfl, by simp only; omega, by simp only; omega, q + x + (signAt t (p + x)).size, ?_, fun h => by omega, fun h => .inl (by omega)⟩
          simp only [List.nil_append, Tk.mv, g2, show p + x + (signAt t (p + x)).size - p + q = q + x + (signAt t (p + x)).size from by omega]

/-- no run crosses the end of a token -/
theorem tok_bd (N : NumOk nf t) {a b : Nat} {u : Tk} (ha : a < t.size) (h : tokOut nf t a [] = .ok (b, [u])) : Bd t u.en := by
  unfold tokOut at h
  split at h
  · unfold numOut at h
    cases hn : nf a with
    | error e => rw [hn] at h; cases h
    | ok v =>
      obtain ⟨e, w⟩ := v
      rw [hn] at h
      simp only [Except.ok.injEq, Prod.mk.injEq, List.nil_append, List.cons.injEq, and_true] at h
      obtain ⟨rfl, rfl⟩ := h
      rw [(N.en _ _ _ hn).2.2.2]
      exact Bd.stop (N.run _ _ _ hn)
  · have hw : Bd t (Go.Proofs.YtnmifeiokhpcfaaDoor.upTo isRun t a) := Bd.stop (upTo_false (by decide) t a)
    split at h
    · unfold wordOut at h
      split at h
      · split at h
        · simp only [Except.ok.injEq, Prod.mk.injEq, List.nil_append, List.cons.injEq, and_true] at h
          obtain ⟨rfl, rfl⟩ := h
          exact hw
        · simp only [Except.ok.injEq, Prod.mk.injEq, List.nil_append, List.cons.injEq, and_true] at h
          obtain ⟨rfl, rfl⟩ := h
          exact hw
      · split at h
        · cases h
        · simp only [Except.ok.injEq, Prod.mk.injEq, List.nil_append, List.cons.injEq, and_true] at h
          obtain ⟨rfl, rfl⟩ := h
          exact hw
    · split at h
      · unfold strOut at h
        split at h
        · rename_i hq
          split at h
          · cases h
          · simp only [Except.ok.injEq, Prod.mk.injEq, List.nil_append, List.cons.injEq, and_true] at h
            obtain ⟨rfl, rfl⟩ := h
            exact Bd.prev (by rw [hq]; exact run34)
        · cases h
      · unfold signOut at h
        split at h
        · cases h
        · rename_i he
          simp only [Except.ok.injEq, Prod.mk.injEq, List.nil_append, List.cons.injEq, and_true] at h
          obtain ⟨rfl, rfl⟩ := h
          have h1 := size_pos (by simpa using he)
          exact fun _ => .inr (sign_last h1 (Nat.le_of_lt ha))

end

/-- from one place that is no blank to another one -/
inductive Run (nf : Num) (s : ByteArray) : Nat → List Tk → Nat → List Tk → Prop where
  | nil (i : Nat) (l : List Tk) : Run nf s i l i l
  | cons {i j b : Nat} {l l1 l2 : List Tk} : i < s.size → isBlank (byt s i) = false → stepOut nf s i l = .ok (b, l1) → Run nf s (upTo isBlank s b) l1 j l2 → Run nf s i l j l2

theorem Run.trans {nf : Num} {s : ByteArray} {i j k : Nat} {l l1 l2 : List Tk} (h : Run nf s i l j l1) (h2 : Run nf s j l1 k l2) : Run nf s i l k l2 := by
  induction h with
  | nil => exact h2
  | cons a1 a2 a3 _ ih => exact .cons a1 a2 a3 (ih h2)

theorem stepOut_len {nf : Num} {s : ByteArray} {i b : Nat} {l l1 : List Tk} (h : stepOut nf s i l = .ok (b, l1)) : (l1 = l ∧ mayCom l = true ∧ ((s.extract i (upTo isRun s i)).toList == comL) = true ∧ toSemi s i < s.size ∧ b = toSemi s i + 1) ∨ (∃ u, l1 = l ++ [u] ∧ l.length ≠ 131072 ∧ ((s.extract i (upTo isRun s i)).toList == comL) = false ∧ ∀ L, tokOut nf s i L = .ok (b, L ++ [u])) := by
  unfold stepOut at h
  split at h
  · rename_i h1
    split at h
    · rename_i h2
      simp only [Except.ok.injEq, Prod.mk.injEq] at h
      exact .inl ⟨h.2.symm, h2.1, h1, h2.2, h.1.symm⟩
    · cases h
  · rename_i h1
    split at h
    · cases h
    · rename_i h2
      obtain ⟨u, rfl, hu⟩ := tok_any h
      exact .inr ⟨u, rfl, h2, by simpa using h1, hu⟩

theorem Run.le {nf : Num} {s : ByteArray} (N : NumOk nf s) {i j : Nat} {l l' : List Tk} (h : Run nf s i l j l') : i ≤ j ∧ (i = j → l' = l) ∧ (∃ X, l' = l ++ X) ∧ (l.length ≤ 131072 → l'.length ≤ 131072) ∧ (i ≤ s.size → j ≤ s.size) ∧ (Bd s i → Bd s j) := by
  induction h with
  | nil => exact ⟨Nat.le_refl _, fun _ => rfl, ⟨[], by simp⟩, fun h => h, fun h => h, fun h => h⟩
  | @cons i j b l l1 l2 a1 a2 a3 _ ih =>
    have hg := stepOut_gt (fun a e t h => ⟨(N.en a e t h).1, (N.en a e t h).2.1⟩) a1 a3
    have hu := upTo_ge isBlank s b
    have hu2 := upTo_le (f := isBlank) hg.2
    obtain ⟨h1, h2, ⟨X, h3⟩, h4, h5, h6⟩ := ih
    have hbd := stepOut_bd N.run a1 a3
    refine ⟨by omega, fun e => by omega, ?_, fun hl => h4 ?_, fun _ => h5 hu2, fun _ => h6 hbd.blank⟩
    · rcases stepOut_len a3 with ⟨rfl, _⟩ | ⟨u, rfl, _⟩
      · exact ⟨X, h3⟩
      · exact ⟨u :: X, by rw [h3]; simp⟩
    · rcases stepOut_len a3 with ⟨rfl, _⟩ | ⟨u, rfl, h9, _⟩
      · exact hl
      · simp; omega

theorem scan_run {nf : Num} {s : ByteArray} (N : NumOk nf s) : ∀ (n a : Nat) (l l' : List Tk), a ≤ s.size → s.size - a < n → scan nf s n a l = .ok l' → Run nf s (upTo isBlank s a) l s.size l' := by
  intro n
  induction n with
  | zero => intro a l l' _ h; omega
  | succ n ih =>
    intro a l l' ha hn h
    have hu := upTo_le (f := isBlank) ha
    have hu' := upTo_ge isBlank s a
    unfold scan at h
    split at h
    · rename_i he
      simp only [Except.ok.injEq] at h
      subst h
      rw [he]
      exact .nil _ _
    · rename_i he
      cases hs : stepOut nf s (upTo isBlank s a) l with
      | error e => rw [hs] at h; cases h
      | ok v =>
        obtain ⟨b, l1⟩ := v
        rw [hs] at h
        have hg := stepOut_gt (fun a e t h => ⟨(N.en a e t h).1, (N.en a e t h).2.1⟩) (by omega) hs
        exact .cons (by omega) (upTo_false (by decide) s a) hs (ih b l1 l' hg.2 (by omega) h)

theorem run_scan {nf : Num} {s : ByteArray} (N : NumOk nf s) {i j : Nat} {l l' : List Tk} (h : Run nf s i l j l') : j = s.size → ∀ n a, a ≤ s.size → upTo isBlank s a = i → s.size - a < n → scan nf s n a l = .ok l' := by
  induction h with
  | nil i l =>
    intro hj n a ha hu hn
    obtain ⟨n, rfl⟩ : ∃ j, n = j + 1 := ⟨n - 1, by omega⟩
    unfold scan
    rw [if_pos (by omega)]
  | @cons i j b l l1 l2 a1 a2 a3 _ ih =>
    intro hj n a ha hu hn
    obtain ⟨n, rfl⟩ : ∃ j, n = j + 1 := ⟨n - 1, by omega⟩
    have hu' := upTo_ge isBlank s a
    have hg := stepOut_gt (fun a e t h => ⟨(N.en a e t h).1, (N.en a e t h).2.1⟩) a1 a3
    unfold scan
    rw [hu, if_neg (by omega), a3]
    exact ih hj n b hg.2 rfl (by omega)

/-- the place at which a token begins -/
theorem Run.split {nf : Num} {s : ByteArray} (N : NumOk nf s) {i j : Nat} {l l' : List Tk} (h : Run nf s i l j l') : ∀ k, l.length ≤ k → k < l'.length →
    ∃ u b, l'[k]? = some u ∧ Run nf s i l u.ofs (l'.take k) ∧ u.ofs < s.size ∧ isBlank (byt s u.ofs) = false ∧ ((s.extract u.ofs (upTo isRun s u.ofs)).toList == comL) = false ∧ (∀ L, tokOut nf s u.ofs L = .ok (b, L ++ [u])) ∧ Run nf s u.ofs (l'.take k) j l' := by
  induction h with
  | nil i l => intro k h1 h2; omega
  | @cons i j b l l1 l2 a1 a2 a3 hr ih =>
    intro k h1 h2
    rcases stepOut_len a3 with ⟨rfl, _⟩ | ⟨u, rfl, h9, h10, h11⟩
    · obtain ⟨u, b', c1, c2, c3⟩ := ih k h1 h2
      exact ⟨u, b', c1, .cons a1 a2 a3 c2, c3⟩
    · by_cases hk : k = l.length
      · subst hk
        obtain ⟨X, hX⟩ := (hr.le N).2.2.1
        have ho := tokOut_tok (l := l) N.en a1 (h11 l)
        obtain ⟨_, u', e1, e2, _⟩ := ho
        obtain rfl : u = u' := by
          have := List.append_cancel_left e1
          simpa using this
        have et : l2.take l.length = l := by rw [hX]; simp
        have eg : l2[l.length]? = some u := by rw [hX]; simp
        rw [et]
        refine ⟨u, b, eg, ?_, ?_⟩
        · rw [e2]; exact .nil _ _
        · rw [e2]
          exact ⟨a1, a2, h10, h11, .cons a1 a2 a3 hr⟩
      · obtain ⟨u', b', c1, c2, c3⟩ := ih k (by simp; omega) h2
        exact ⟨u', b', c1, .cons a1 a2 a3 c2, c3⟩

section
variable {t s : ByteArray} {p q m : Nat} {nf nf' : Num}

/-- where a place of the window lies: its end lies at Z -/
def plc (q m Z x : Nat) : Nat := if x < m then q + x else Z

theorem Emb.blank (E : Emb t s p q m) {Z x y : Nat} (hZ : Go.Proofs.YtnmifeiokhpcfaaDoor.upTo isBlank s (q + m) = Z) (hx : x ≤ m) (hy : y ≤ m) (h : Go.Proofs.YtnmifeiokhpcfaaDoor.upTo isBlank t (p + x) = p + y) : Go.Proofs.YtnmifeiokhpcfaaDoor.upTo isBlank s (q + x) = plc q m Z y := by
  unfold plc
  split
  · obtain ⟨z, j1, j2, j3, j4⟩ := E.upTo (f := isBlank) (m - x) x (by omega) (by omega) (.inr (by omega))
    omega
  · rw [E.over (f := isBlank) (m - x) x (by omega) (by omega)]
    exact hZ

theorem Emb.semi (E : Emb t s p q m) {x : Nat} (hx : x ≤ m) (h : toSemi t (p + x) < p + m) : ∃ y, x ≤ y ∧ y < m ∧ toSemi t (p + x) = p + y ∧ toSemi s (q + x) = q + y := by
  obtain ⟨y, j1, j2, j3, j4⟩ := E.upTo (f := noSemi) (m - x) x (by omega) (Nat.le_of_lt h) (.inr h)
  have j3' : toSemi t (p + x) = p + y := j3
  exact ⟨y, j1, by omega, j3', j4⟩

theorem Emb.step (E : Emb t s p q m) (hm : Bd t (p + m)) (N : NumOk nf t) (hnn : NumE nf nf' p q m) {x b : Nat} {l l1 L : List Tk} (hx : x < m) (h : stepOut nf t (p + x) l = .ok (b, l1)) (hb : b ≤ p + m)
    (hL : mayCom l = true → mayCom L = true) (hlen : L.length < 131072 ∨ l1 = l) : ∃ X b', l1 = l ++ X ∧ (mayCom l1 = true → mayCom (L ++ X.map (Tk.mv p q)) = true) ∧ X.length ≤ 1 ∧ stepOut nf' s (q + x) L = .ok (b', L ++ X.map (Tk.mv p q)) ∧ (b < p + m → q + x < b' ∧ b' = b - p + q) ∧
      (p + m ≤ b → b' = q + m ∧ b = p + m ∨ b = closer t (p + m) ∧ b' = closer s (q + m) ∧ ∃ u, l1.getLast? = some u ∧ isEndT u) := by
  have htl := E.tl
  have hsl := E.sl
  have hr := hm.run (show p + x < p + m by omega)
  obtain ⟨y1, u1, u2, u3, u4⟩ := E.up (f := isRun) (Nat.le_of_lt hx) hr (by decide) (by decide) (by decide)
  have hx2 : s.extract (q + x) (Go.Proofs.YtnmifeiokhpcfaaDoor.upTo isRun s (q + x)) = t.extract (p + x) (Go.Proofs.YtnmifeiokhpcfaaDoor.upTo isRun t (p + x)) := by rw [u3, u4]; exact E.ext x u2
  rcases stepOut_len h with ⟨rfl, h1, h2, h3, h4⟩ | ⟨u, rfl, h1, h2, h3⟩
  · obtain ⟨y, j1, j2, j3, j4⟩ := E.semi (Nat.le_of_lt hx) (by omega)
    refine ⟨[], q + y + 1, by simp, by simpa using hL, by simp, ?_, fun _ => by omega, fun _ => .inl (by omega)⟩
    unfold stepOut
    rw [hx2, if_pos h2, if_pos ⟨hL h1, by omega⟩, j4]
    simp
  · have hlen' : L.length < 131072 := by
      rcases hlen with h | h
      · exact h
      · exact absurd h (by simp)
    have ho := tokOut_tok (l := []) N.en (show p + x < t.size by omega) (h3 [])
    have hen : u.en ≤ p + m := by
      obtain ⟨_, u', e1, _, _, e4⟩ := ho
      obtain rfl : u = u' := by simpa using e1
      omega
    obtain ⟨k1, k2, k3, b', k4, k5, k6⟩ := E.tok hm N hnn hx (h3 []) hen
    obtain ⟨v, e1, k7⟩ := tok_any k4
    obtain rfl : u.mv p q = v := by simpa using e1
    refine ⟨[u], b', rfl, by simp only [List.map_cons, List.map_nil]; rw [mayCom_mv L l u p q]; exact id, by simp, ?_, k5, fun hb => ?_⟩
    · unfold stepOut
      rw [hx2, if_neg (by simp [h2]), if_neg (by omega)]
      exact k7 L
    · rcases k6 hb with h | h
      · exact .inl h
      · exact .inr ⟨h.2.1, h.2.2, u, List.getLast?_concat, h.1⟩

theorem Emb.run (E : Emb t s p q m) (hm : Bd t (p + m)) (N : NumOk nf t) (hnn : NumE nf nf' p q m) {Z : Nat} (hZ : Go.Proofs.YtnmifeiokhpcfaaDoor.upTo isBlank s (q + m) = Z) {i j : Nat} {l l' : List Tk} (h : Run nf t i l j l')
    (hE : ∀ u, l'.getLast? = some u → isEndT u → closer t (p + m) = p + m → Go.Proofs.YtnmifeiokhpcfaaDoor.upTo isBlank s (closer s (q + m)) = Z) :
    ∀ x y L, i = p + x → j = p + y → x ≤ m → y ≤ m → (mayCom l = true → mayCom L = true) → L.length + (l'.length - l.length) ≤ 131072 →
    ∃ X, l' = l ++ X ∧ Run nf' s (plc q m Z x) L (plc q m Z y) (L ++ X.map (Tk.mv p q)) := by
  have htl := E.tl
  have hsl := E.sl
  induction h with
  | nil i l =>
    intro x y L hi hj hx hy hL hlen
    obtain rfl : x = y := by omega
    exact ⟨[], by simp, by simpa using Run.nil _ _⟩
  | @cons i j b l l1 l2 a1 a2 a3 hr ih =>
    intro x y L hi hj hx hy hL hlen
    subst hi
    subst hj
    have hg := stepOut_gt (fun a e t h => ⟨(N.en a e t h).1, (N.en a e t h).2.1⟩) a1 a3
    have hu := upTo_ge isBlank t b
    have hle := hr.le N
    obtain ⟨Y, hY⟩ := hle.2.2.1
    have hxm : x < m := by omega
    have hl1 : L.length < 131072 ∨ l1 = l := by
      rcases stepOut_len a3 with ⟨e, _⟩ | ⟨u, e, _⟩
      · exact .inr e
      · left
        rw [hY, e] at hlen
        simp at hlen
        omega
    obtain ⟨X, b', k1, k2, k3, k4, k5, k6⟩ := E.step hm N hnn hxm a3 (by omega) hL hl1
    obtain ⟨z, hz⟩ : ∃ z, Go.Proofs.YtnmifeiokhpcfaaDoor.upTo isBlank t b = p + z := ⟨Go.Proofs.YtnmifeiokhpcfaaDoor.upTo isBlank t b - p, by omega⟩
    have hzm : z ≤ m := by omega
    have hpos : Go.Proofs.YtnmifeiokhpcfaaDoor.upTo isBlank s b' = plc q m Z z := by
      by_cases hbm : b < p + m
      · have := (k5 hbm).2
        have e := E.blank hZ (show b - p ≤ m by omega) hzm (by rw [show p + (b - p) = b from by omega]; exact hz)
        rw [this, show b - p + q = q + (b - p) from by omega]
        exact e
      · have hbe : b = p + m := by omega
        have hzme : z = m := by omega
        have hp : plc q m Z z = Z := by unfold plc; rw [if_neg (by omega)]
        rw [hp]
        rcases k6 (by omega) with ⟨e, _⟩ | ⟨e1, e2, u, e3, e4⟩
        · rw [e]; exact hZ
        · rw [e2]
          have hl2 : l2 = l1 := hle.2.1 (by omega)
          rw [hl2] at hE
          exact hE u e3 e4 (by rw [← e1]; exact hbe)
    obtain ⟨X2, i1, i2⟩ := ih hE z y (L ++ X.map (Tk.mv p q)) hz rfl hzm hy k2 (by
      have : l1.length = l.length + X.length := by rw [k1]; simp
      have : l2.length = l1.length + Y.length := by rw [hY]; simp
      simp
      omega)
    refine ⟨X ++ X2, by rw [i1, k1]; simp, ?_⟩
    · have e : plc q m Z x = q + x := by unfold plc; rw [if_pos hxm]
      rw [e]
      refine .cons (by omega) (by rw [E.byt hxm]; exact a2) k4 ?_
      rw [hpos]
      have e2 : L ++ (X ++ X2).map (Tk.mv p q) = L ++ X.map (Tk.mv p q) ++ X2.map (Tk.mv p q) := by simp
      rw [e2]
      exact i2

/-- A TOKEN ALONE -/
theorem alone {t s : ByteArray} {nf nf' : Num} (N : NumOk nf t) (N' : NumOk nf' s) {a b : Nat} {u : Tk} (ha : a < t.size) (hbl : isBlank (byt t a) = false) (hc : ((t.extract a (upTo isRun t a)).toList == comL) = false)
    (h : tokOut nf t a [] = .ok (b, [u])) (E : Emb t s a 0 (u.en - a)) (hs : s.size = u.en - a) (hnn : NumE nf nf' a 0 (u.en - a)) : scan nf' s (s.size + 1) 0 [] = .ok [u.mv a 0] := by
  have ho := tokOut_tok (l := []) N.en ha h
  obtain ⟨o1, u', e1, o2, o3, o4⟩ := ho
  obtain rfl : u = u' := by simpa using e1
  have hm : Bd t (a + (u.en - a)) := by rw [show a + (u.en - a) = u.en from by omega]; exact tok_bd N ha h
  have h' : tokOut nf t (a + 0) [] = .ok (b, [u]) := h
  obtain ⟨k1, k2, k3, b', k4, k5, k6⟩ := E.tok hm N hnn (show 0 < u.en - a by omega) h' (by omega)
  have hb' : b' = s.size := by
    rcases k6 (by omega) with h | h
    · omega
    · rw [h.2.2, closer_eq, if_neg (by omega)]
      omega
  have hr := hm.run (show a + 0 < a + (u.en - a) by omega)
  obtain ⟨y1, u1, u2, u3, u4⟩ := E.up (f := isRun) (show 0 ≤ u.en - a by omega) hr (by decide) (by decide) (by decide)
  have hx2 : s.extract (0 + 0) (upTo isRun s (0 + 0)) = t.extract (a + 0) (upTo isRun t (a + 0)) := by rw [u3, u4]; exact E.ext 0 u2
  simp only [Nat.add_zero] at hx2 k4
  have hby : byt s 0 = byt t a := E.byt (show 0 < u.en - a by omega)
  have h0 : upTo isBlank s 0 = 0 := upTo_stop (by rw [hby]; exact hbl)
  have hst : stepOut nf' s 0 [] = .ok (b', [u.mv a 0]) := by
    unfold stepOut
    rw [hx2, if_neg (by simp [hc]), if_neg (by simp)]
    exact k4
  have hrun : Run nf' s 0 [] s.size [u.mv a 0] := .cons (by omega) (by rw [hby]; exact hbl) hst (by
    rw [hb', upTo_end (Nat.le_refl _)]
    exact .nil _ _)
  exact run_scan N' hrun rfl _ _ (by omega) h0 (by omega)

theorem bs10 (a b : ByteArray) {s : ByteArray} (hs : s.data.toList = a.data.toList ++ 10 :: b.data.toList) : Emb a s 0 0 a.size ∧ Emb b s 0 (a.size + 1) b.size := by
  have sz : s.size = a.size + 1 + b.size := by rw [Lib.size_eq, hs, Lib.size_eq a, Lib.size_eq b]; simp; omega
  have b10 : byt s a.size = 10 := by
    rw [byt_list, hs, List.getElem?_append_right (by rw [← Lib.size_eq]; exact Nat.le_refl _), ← Lib.size_eq, Nat.sub_self]
    rfl
  refine ⟨⟨by omega, by omega, ?_, .inr (.inr (by simpa using b10))⟩, ⟨by omega, by omega, ?_, .inl (byt_out (by omega))⟩⟩
  · rw [hs]
    simp only [List.drop_zero]
    rw [Lib.size_eq, List.take_left, List.take_length]
  · rw [hs]
    have e : (a.data.toList ++ 10 :: b.data.toList).drop (a.size + 1) = b.data.toList := by
      rw [Lib.size_eq, List.drop_append, List.drop_eq_nil_of_le (by omega)]
      simp
    rw [e]
    rfl

/-- TWO TEXTS -/
theorem parts {a b s : ByteArray} {na nb ns : Num} (Na : NumOk na a) (Nb : NumOk nb b) (Ns : NumOk ns s) (hs : s.data.toList = a.data.toList ++ 10 :: b.data.toList)
    (E1 : NumE na ns 0 0 a.size) (E2 : NumE nb ns 0 (a.size + 1) b.size) {l m : List Tk} (ha : scan na a (a.size + 1) 0 [] = .ok l) (hb : scan nb b (b.size + 1) 0 [] = .ok m)
    (hl : l.length + m.length ≤ 131072) (hE : ∀ u, l.getLast? = some u → ¬ isEndT u) : scan ns s (s.size + 1) 0 [] = .ok (l ++ m.map (Tk.mv 0 (a.size + 1))) := by
  have sz : s.size = a.size + 1 + b.size := by rw [Lib.size_eq, hs, Lib.size_eq a, Lib.size_eq b]; simp; omega
  have b10 : byt s a.size = 10 := by
    rw [byt_list, hs, List.getElem?_append_right (by rw [← Lib.size_eq]; exact Nat.le_refl _), ← Lib.size_eq, Nat.sub_self]
    rfl
  have EA : Emb a s 0 0 a.size := ⟨by omega, by omega, by
    rw [hs]
    simp only [List.drop_zero]
    rw [Lib.size_eq, List.take_left, List.take_length], .inr (.inr (by simpa using b10))⟩
  have EB : Emb b s 0 (a.size + 1) b.size := ⟨by omega, by omega, by
    rw [hs]
    have e : (a.data.toList ++ 10 :: b.data.toList).drop (a.size + 1) = b.data.toList := by
      rw [Lib.size_eq, List.drop_append, List.drop_eq_nil_of_le (by omega)]
      simp
    rw [e]
    rfl, .inl (byt_out (by omega))⟩
  have ra := scan_run Na _ _ _ _ (by omega) (by omega) ha
  have rb := scan_run Nb _ _ _ _ (by omega) (by omega) hb
  have ea : Bd a (0 + a.size) := Bd.stop (by rw [byt_out (by omega)]; rfl)
  have eb : Bd b (0 + b.size) := Bd.stop (by rw [byt_out (by omega)]; rfl)
  have hbe : upTo isBlank s (a.size + 1 + b.size) = s.size := by rw [← sz]; exact upTo_end (Nat.le_refl _)
  have u1 := upTo_le (f := isBlank) (s := a) (a := 0) (by omega)
  have u2 := upTo_le (f := isBlank) (s := b) (a := 0) (by omega)
  have hZ : upTo isBlank s (0 + a.size) = plc (a.size + 1) b.size s.size (upTo isBlank b 0) := by
    rw [Nat.zero_add, upTo_step (by omega) (by rw [b10]; rfl)]
    have := EB.blank hbe (show 0 ≤ b.size by omega) u2 (show upTo isBlank b (0 + 0) = 0 + upTo isBlank b 0 by simp)
    simpa using this
  obtain ⟨X, x1, x2⟩ := EA.run ea Na E1 hZ ra (fun u hu he _ => absurd he (hE u hu)) (upTo isBlank a 0) a.size [] (by simp) (by simp) u1 (Nat.le_refl _) (fun h => h) (by simp; omega)
  simp only [List.nil_append] at x1 x2
  have em : X.map (Tk.mv 0 0) = X := by
    conv => rhs; rw [← List.map_id X]
    exact List.map_congr_left (fun u _ => rfl)
  rw [em, ← x1] at x2
  have e0 := EA.blank hZ (show 0 ≤ a.size by omega) u1 (show upTo isBlank a (0 + 0) = 0 + upTo isBlank a 0 by simp)
  simp only [Nat.add_zero] at e0
  have pE : plc 0 a.size (plc (a.size + 1) b.size s.size (upTo isBlank b 0)) a.size = plc (a.size + 1) b.size s.size (upTo isBlank b 0) := by unfold plc; rw [if_neg (by omega)]
  rw [← e0, pE] at x2
  have pF : plc (a.size + 1) b.size s.size b.size = s.size := by unfold plc; rw [if_neg (by omega)]
  obtain ⟨Y, y1, y2⟩ := EB.run eb Nb E2 hbe rb (fun u hu he _ => by
    rw [closer_eq, if_neg (by omega)]
    exact hbe) (upTo isBlank b 0) b.size l (by simp) (by simp) u2 (Nat.le_refl _) (fun h => by cases h) (by simp; omega)
  rw [List.nil_append] at y1
  rw [pF, ← y1] at y2
  exact run_scan Ns (x2.trans y2) rfl _ _ (by omega) rfl (by omega)

end

theorem bs32 (t : ByteArray) {a : Nat} (ha : a ≤ t.size) {s : ByteArray} (hs : s.data.toList = t.data.toList.take a ++ 32 :: t.data.toList.drop a) : Emb t s 0 0 a ∧ Emb t s a (a + 1) (t.size - a) := by
  have sz : s.size = t.size + 1 := by rw [Lib.size_eq, hs]; simp; have := Lib.size_eq t; omega
  have b32 : byt s a = 32 := by
    rw [byt_list, hs, List.getElem?_append_right (by rw [List.length_take]; omega), List.length_take, ← Lib.size_eq, Nat.min_eq_left (by omega), Nat.sub_self]
    rfl
  refine ⟨⟨by omega, by omega, ?_, .inr (.inl (by simpa using b32))⟩, ⟨by omega, by omega, ?_, .inl (byt_out (by omega))⟩⟩
  · rw [hs]
    simp only [List.drop_zero]
    rw [List.take_append_of_le_length (by rw [List.length_take, ← Lib.size_eq]; omega), List.take_take, Nat.min_self]
  · rw [hs]
    have e : (t.data.toList.take a ++ 32 :: t.data.toList.drop a).drop (a + 1) = t.data.toList.drop a := by
      rw [List.drop_append, List.drop_eq_nil_of_le (by rw [List.length_take]; omega), List.length_take, ← Lib.size_eq, Nat.min_eq_left (by omega), show a + 1 - a = 1 from by omega]
      rfl
    rw [e]

/-- A BLANK AHEAD OF A TOKEN -/
theorem blanks {t s : ByteArray} {nt ns : Num} (Nt : NumOk nt t) (Ns : NumOk ns s) {l : List Tk} {k : Nat} {u : Tk} (h : scan nt t (t.size + 1) 0 [] = .ok l) (hk : l[k]? = some u)
    (hs : s.data.toList = t.data.toList.take u.ofs ++ 32 :: t.data.toList.drop u.ofs) (E1 : NumE nt ns 0 0 u.ofs) (E2 : NumE nt ns u.ofs (u.ofs + 1) (t.size - u.ofs)) :
    scan ns s (s.size + 1) 0 [] = .ok (l.take k ++ (l.drop k).map (Tk.mv u.ofs (u.ofs + 1))) := by
  have hkl : k < l.length := by
    rcases Nat.lt_or_ge k l.length with h | h
    · exact h
    · rw [List.getElem?_eq_none h] at hk; cases hk
  have rt := scan_run Nt _ _ _ _ (by omega) (by omega) h
  obtain ⟨u', b, c1, r1, c3, c4, c5, c6, r2⟩ := rt.split Nt k (by simp) hkl
  obtain rfl : u = u' := by rw [hk] at c1; exact Option.some.inj c1
  have sz : s.size = t.size + 1 := by rw [Lib.size_eq, hs]; simp; omega
  have hlen : l.length ≤ 131072 := (rt.le Nt).2.2.2.1 (by simp)
  have b32 : byt s u.ofs = 32 := by
    rw [byt_list, hs, List.getElem?_append_right (by rw [List.length_take]; omega), List.length_take, ← Lib.size_eq, Nat.min_eq_left (by omega), Nat.sub_self]
    rfl
  have EA : Emb t s 0 0 u.ofs := ⟨by omega, by omega, by
    rw [hs]
    simp only [List.drop_zero]
    rw [List.take_append_of_le_length (by rw [List.length_take, ← Lib.size_eq]; omega), List.take_take, Nat.min_self], .inr (.inl (by simpa using b32))⟩
  have EB : Emb t s u.ofs (u.ofs + 1) (t.size - u.ofs) := ⟨by omega, by omega, by
    rw [hs]
    have e : (t.data.toList.take u.ofs ++ 32 :: t.data.toList.drop u.ofs).drop (u.ofs + 1) = t.data.toList.drop u.ofs := by
      rw [List.drop_append, List.drop_eq_nil_of_le (by rw [List.length_take]; omega), List.length_take, ← Lib.size_eq, Nat.min_eq_left (by omega), show u.ofs + 1 - u.ofs = 1 from by omega]
      rfl
    rw [e], .inl (byt_out (by omega))⟩
  have u1 := upTo_le (f := isBlank) (s := t) (a := 0) (by omega)
  have hle := r1.le Nt
  have ea : Bd t (0 + u.ofs) := by
    rw [Nat.zero_add]
    exact hle.2.2.2.2.2 (Bd.blank (fun _ => .inl rfl))
  have eb : Bd t (u.ofs + (t.size - u.ofs)) := Bd.stop (by rw [byt_out (by omega)]; rfl)
  have b1 : byt s (u.ofs + 1) = byt t u.ofs := EB.byt (show 0 < t.size - u.ofs by omega)
  have hu1 : upTo isBlank s (u.ofs + 1) = u.ofs + 1 := upTo_stop (by rw [b1]; exact c4)
  have hZ : upTo isBlank s (0 + u.ofs) = u.ofs + 1 := by
    rw [Nat.zero_add, upTo_step (by omega) (by rw [b32]; rfl)]
    exact hu1
  have hE : closer t (0 + u.ofs) = 0 + u.ofs → upTo isBlank s (closer s (0 + u.ofs)) = u.ofs + 1 := by
    intro hc
    rw [Nat.zero_add] at hc
    have e1 : closer s u.ofs = closer s (u.ofs + 1) := by
      have hn : nxt s u.ofs = u.ofs + 1 := by unfold nxt; rw [b32]; rfl
      have hx : s.extract u.ofs (upTo isRun s u.ofs) = ⟨#[]⟩ := by
        rw [upTo_stop (by rw [b32]; rfl)]
        apply ByteArray.ext
        apply Array.ext'
        rw [Lib.extract_data]
        simp
      rw [closer_eq s u.ofs, hx, hn, if_pos ⟨by omega, by rw [b32]; decide⟩, if_neg (by rw [ByteArray.toList_eq]; decide)]
    obtain ⟨y, j1, j2, j3, j4⟩ := (EB.clo eb (t.size - u.ofs) 0 (by omega) (by omega)).1 (by rw [Nat.add_zero, hc]; omega)
    rw [Nat.add_zero] at j3 j4
    rw [Nat.zero_add, e1, j4, show y = 0 from by omega]
    exact hu1
  obtain ⟨X, x1, x2⟩ := EA.run ea Nt E1 hZ r1 (fun u _ _ h => hE h) (upTo isBlank t 0) u.ofs [] (by simp) (by simp) (by omega) (Nat.le_refl _) (fun h => h) (by simp; omega)
  simp only [List.nil_append] at x1 x2
  have em : X.map (Tk.mv 0 0) = X := by
    conv => rhs; rw [← List.map_id X]
    exact List.map_congr_left (fun u _ => rfl)
  rw [em, ← x1] at x2
  have e0 := EA.blank hZ (show 0 ≤ u.ofs by omega) (show upTo isBlank t 0 ≤ u.ofs by omega) (show upTo isBlank t (0 + 0) = 0 + upTo isBlank t 0 by simp)
  simp only [Nat.add_zero] at e0
  have pE : plc 0 u.ofs (u.ofs + 1) u.ofs = u.ofs + 1 := by unfold plc; rw [if_neg (by omega)]
  rw [← e0, pE] at x2
  have hbe : upTo isBlank s (u.ofs + 1 + (t.size - u.ofs)) = s.size := by rw [show u.ofs + 1 + (t.size - u.ofs) = s.size from by omega]; exact upTo_end (Nat.le_refl _)
  obtain ⟨Y, y1, y2⟩ := EB.run eb Nt E2 hbe r2 (fun _ _ _ _ => by
    rw [closer_eq, if_neg (by omega)]
    exact hbe) 0 (t.size - u.ofs) (l.take k) (by simp) (by omega) (by omega) (Nat.le_refl _) (fun h => h) (by simp; omega)
  have p0 : plc (u.ofs + 1) (t.size - u.ofs) s.size 0 = u.ofs + 1 := by unfold plc; rw [if_pos (by omega)]
  have pF : plc (u.ofs + 1) (t.size - u.ofs) s.size (t.size - u.ofs) = s.size := by unfold plc; rw [if_neg (by omega)]
  rw [p0, pF] at y2
  have ey : Y = l.drop k := by
    have e : l.take k ++ l.drop k = l.take k ++ Y := by rw [List.take_append_drop]; exact y1
    exact (List.append_cancel_left e).symm
  rw [ey] at y2
  exact run_scan Ns (x2.trans y2) rfl _ _ (by omega) rfl (by omega)

theorem numN_runs (s : ByteArray) (a e : Nat) (t : Tk) (h : numN s a = .ok (e, t)) : isRun (byt s e) = false ∧ byt s e ≠ 46 ∧ e = numEnd s a := by
  unfold numN at h
  split at h
  · split at h
    · cases h
    · rename_i hx
      have k : isRun (byt s (numEnd s a)) = false ∧ byt s (numEnd s a) ≠ 46 := by
        refine ⟨?_, fun q => hx (.inr q)⟩
        cases hr : isRun (byt s (numEnd s a))
        · rfl
        · exact absurd (.inl hr) hx
      split at h
      · split at h
        · cases h; exact ⟨k.1, k.2, rfl⟩
        · cases h
      · split at h
        · cases h; exact ⟨k.1, k.2, rfl⟩
        · cases h
  · cases h

theorem numN_good (s : ByteArray) : NumOk (numN s) s := ⟨fun a e t h => numN_ok s a e t h, fun a e t h => (numN_runs s a e t h).1⟩

theorem numN_emb {t s : ByteArray} {p q m : Nat} (E : Emb t s p q m) : NumE (numN t) (numN s) p q m := by
  intro x b u hx h hb
  have h1 := numN_ok t (p + x) b u h
  obtain ⟨r1, r2, r3⟩ := numN_runs t (p + x) b u h
  have htl := E.tl
  have hsl := E.sl
  obtain ⟨z, y, a1, a2, a3, a4, a5, a6, a7⟩ := E.num (Nat.le_of_lt hx) (by rw [← r3]; exact hb)
  have hby : b = p + y := by omega
  have hb' : ¬ (isRun (byt t (p + y)) = true ∨ byt t (p + y) = 46) := by
    rw [← hby]
    rintro (k | k)
    · rw [r1] at k; cases k
    · exact r2 k
  have hbs : ¬ (isRun (byt s (q + y)) = true ∨ byt s (q + y) = 46) := by
    by_cases hlt : y < m
    · rw [E.byt hlt]; exact hb'
    · rw [show y = m from by omega]
      rintro (k | k)
      · rw [E.stop (f := isRun) (by decide) (by decide) (by decide)] at k; cases k
      · rcases E.st with g | g | g <;> omega
  have x1 : s.extract (q + x) (q + z) = t.extract (p + x) (p + z) := E.ext x (by omega)
  have x2 : s.extract (q + x) (q + y) = t.extract (p + x) (p + y) := E.ext x a3
  unfold numN at h ⊢
  rw [a6, a4, if_pos ⟨by omega, by omega⟩, if_neg hb'] at h
  rw [a7, a5, x1, x2, if_pos ⟨by omega, by omega⟩, if_neg hbs]
  have g1 : p + x - p + q = q + x := by omega
  have g2 : p + y - p + q = q + y := by omega
  split at h
  · rename_i c1
    rw [if_pos c1]
    split at h
    · rename_i c2
      rw [if_pos c2]
      simp only [Except.ok.injEq, Prod.mk.injEq] at h
      obtain ⟨rfl, rfl⟩ := h
      simp only [Tk.mv, g1, g2]
    · cases h
  · rename_i c1
    rw [if_neg c1]
    split at h
    · rename_i c2
      rw [if_pos c2]
      simp only [Except.ok.injEq, Prod.mk.injEq] at h
      obtain ⟨rfl, rfl⟩ := h
      simp only [Tk.mv, g1, g2]
    · cases h

/-- the token alone, as Lex reads it -/
theorem alone_lex {s : ByteArray} {l : List Tk} (h : scan (numN s) s (s.size + 1) 0 [] = .ok l) {k : Nat} {u : Tk} (hk : l[k]? = some u) :
    u.ofs < u.en ∧ u.en ≤ s.size ∧ scan (numN (s.extract u.ofs u.en)) (s.extract u.ofs u.en) ((s.extract u.ofs u.en).size + 1) 0 [] = .ok [u.mv u.ofs 0] := by
  have N := numN_good s
  have hkl : k < l.length := by
    rcases Nat.lt_or_ge k l.length with h | h
    · exact h
    · rw [List.getElem?_eq_none h] at hk; cases hk
  obtain ⟨u', b, c1, r1, c3, c4, c5, c6, r2⟩ := (scan_run N _ _ _ _ (by omega) (by omega) h).split N k (by simp) hkl
  obtain rfl : u = u' := by rw [hk] at c1; exact Option.some.inj c1
  have ho := tokOut_tok (l := []) N.en c3 (c6 [])
  obtain ⟨o1, u', e1, o2, o3, o4⟩ := ho
  obtain rfl : u = u' := by simpa using e1
  have hsz : (s.extract u.ofs u.en).size = u.en - u.ofs := by rw [ByteArray.size_extract]; omega
  refine ⟨by omega, by omega, ?_⟩
  have E : Emb s (s.extract u.ofs u.en) u.ofs 0 (u.en - u.ofs) := ⟨by omega, by omega, by
    rw [Lib.extract_data]
    simp only [List.drop_zero]
    rw [List.take_take, Nat.min_self], .inl (byt_out (by omega))⟩
  exact alone N (numN_good _) c3 c4 c5 (c6 []) E hsz (numN_emb E)

end Go.Proofs.YtnmifeiokhpcfaaDoor
