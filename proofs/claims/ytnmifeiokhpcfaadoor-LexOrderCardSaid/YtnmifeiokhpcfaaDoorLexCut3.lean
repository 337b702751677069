/-
  PACKAGE lex: the text ahead of its first error has no error.
-/
import Derived.Test.YtnmifeiokhpcfaaDoorLexCut2

namespace Go.Proofs.YtnmifeiokhpcfaaDoor
open Go.RowKit
set_option linter.unusedVariables false

theorem lgs_in (r : List UInt8) : ∀ (l : List ByteArray) (b : ByteArray), lgs r l b = b ∨ (lgs r l b ∈ l ∧ Lib.hasPrefix r (lgs r l b).data.toList = true) := by
  intro l
  induction l with
  | nil => intro b; exact .inl rfl
  | cons x l ih =>
    intro b
    unfold lgs
    split
    · rename_i h
      rcases ih x with q | q
      · right
        rw [q]
        exact ⟨List.mem_cons_self, h.2⟩
      · exact .inr ⟨List.mem_cons_of_mem _ q.1, q.2⟩
    · rcases ih b with q | q
      · exact .inl q
      · exact .inr ⟨List.mem_cons_of_mem _ q.1, q.2⟩

theorem signs_norun : ∀ x ∈ signL, ∀ b ∈ x.data.toList, isRun b.toNat = false := by decide +kernel

theorem sign_last {s : ByteArray} {a : Nat} (h : 0 < (signAt s a).size) (ha : a ≤ s.size) : isRun (byt s (a + (signAt s a).size - 1)) = false := by
  have hle := signAt_le ha
  have key : signAt s a = ⟨#[]⟩ ∨ (signAt s a ∈ signL ∧ Lib.hasPrefix (s.data.toList.drop a) (signAt s a).data.toList = true) := by
    unfold signAt
    exact lgs_in _ _ _
  rcases key with q | ⟨q1', q2'⟩
  · rw [q] at h
    exact absurd h (by decide)
  · generalize signAt s a = g at *
    unfold Lib.hasPrefix at q2'
    rw [List.isPrefixOf_iff_prefix] at q2'
    obtain ⟨y, hy⟩ := q2'
    have hlt : a + g.size - 1 < s.size := by omega
    rw [byt_in hlt]
    have hg : g.size - 1 < g.data.toList.length := by rw [← Lib.size_eq]; omega
    have e : s[a + g.size - 1] = g.data.toList[g.size - 1] := by
      have e1 : s[a + g.size - 1] = s.data.toList[a + g.size - 1]'(by rw [← Lib.size_eq]; exact hlt) := rfl
      have e2 : (s.data.toList.drop a)[g.size - 1]? = s.data.toList[a + (g.size - 1)]? := List.getElem?_drop
      rw [← hy, List.getElem?_append_left hg, List.getElem?_eq_getElem hg] at e2
      rw [e1]
      have e3 : a + (g.size - 1) = a + g.size - 1 := by omega
      rw [e3, List.getElem?_eq_getElem (by rw [← Lib.size_eq]; exact hlt)] at e2
      exact (Option.some.inj e2).symm
    rw [e]
    exact signs_norun g q1' _ (List.getElem_mem _)

theorem run34 : isRun 34 = false := by decide

theorem tokOut_bd {nf : Num} {s : ByteArray} {a b : Nat} {l l' : List Tk} (hnr : ∀ a e t, nf a = .ok (e, t) → isRun (byt s e) = false) (ha : a < s.size) (h : tokOut nf s a l = .ok (b, l')) : Bd s b := by
  have hu := upTo_le (f := isRun) (Nat.le_of_lt ha)
  have hw : Bd s (upTo isRun s a) := Bd.stop (upTo_false (by decide) s a)
  unfold tokOut at h
  split at h
  · unfold numOut at h
    cases hn : nf a with
    | error e => rw [hn] at h; cases h
    | ok p =>
      obtain ⟨e, t⟩ := p
      rw [hn] at h
      simp only [Except.ok.injEq, Prod.mk.injEq] at h
      obtain ⟨rfl, rfl⟩ := h
      exact Bd.stop (hnr a _ t hn)
  · split at h
    · unfold wordOut at h
      split at h
      · split at h
        · simp only [Except.ok.injEq, Prod.mk.injEq] at h
          obtain ⟨rfl, rfl⟩ := h
          exact cloN_bd s _ _ hw
        · simp only [Except.ok.injEq, Prod.mk.injEq] at h
          obtain ⟨rfl, rfl⟩ := h
          exact hw
      · split at h
        · cases h
        · simp only [Except.ok.injEq, Prod.mk.injEq] at h
          obtain ⟨rfl, rfl⟩ := h
          exact hw
    · split at h
      · unfold strOut at h
        split at h
        · rename_i hq
          split at h
          · cases h
          · simp only [Except.ok.injEq, Prod.mk.injEq] at h
            obtain ⟨rfl, rfl⟩ := h
            exact Bd.prev (by rw [hq]; exact run34)
        · cases h
      · unfold signOut at h
        split at h
        · cases h
        · rename_i he
          simp only [Except.ok.injEq, Prod.mk.injEq] at h
          obtain ⟨rfl, rfl⟩ := h
          have h1 := size_pos (by simpa using he)
          exact fun _ => .inr (sign_last h1 (Nat.le_of_lt ha))

theorem semi_is {s : ByteArray} {a : Nat} (h : toSemi s a < s.size) : byt s (toSemi s a) = 59 := by
  have h1 := upTo_false (f := noSemi) (by decide) s a
  have h2 : byt s (toSemi s a) < 256 := by rw [byt_in h]; exact s[toSemi s a].toNat_lt
  have h3 : noSemi (byt s (toSemi s a)) = false := h1
  unfold noSemi at h3
  simp at h3
  by_cases e : byt s (toSemi s a) = 59
  · exact e
  · have := h3 e
    omega

theorem stepOut_bd {nf : Num} {s : ByteArray} {a b : Nat} {l l' : List Tk} (hnr : ∀ a e t, nf a = .ok (e, t) → isRun (byt s e) = false) (ha : a < s.size) (h : stepOut nf s a l = .ok (b, l')) : Bd s b := by
  unfold stepOut at h
  split at h
  · split at h
    · rename_i hc
      simp only [Except.ok.injEq, Prod.mk.injEq] at h
      obtain ⟨rfl, rfl⟩ := h
      exact Bd.prev (by rw [semi_is hc.2]; decide)
    · cases h
  · split at h
    · cases h
    · exact tokOut_bd hnr ha h

theorem stepOut_gt {nf : Num} {s : ByteArray} {a b : Nat} {l l' : List Tk} (hnf : ∀ a e t, nf a = .ok (e, t) → a < e ∧ e ≤ s.size) (ha : a < s.size) (h : stepOut nf s a l = .ok (b, l')) : a < b ∧ b ≤ s.size := by
  unfold stepOut at h
  split at h
  · split at h
    · rename_i hc
      simp only [Except.ok.injEq, Prod.mk.injEq] at h
      obtain ⟨rfl, rfl⟩ := h
      have := toSemi_ge s a
      have := hc.2
      omega
    · cases h
  · split at h
    · cases h
    · have := tokOut_ok hnf ha h
      exact ⟨this.1, this.2.1⟩

theorem scan_at {nf : Num} {s : ByteArray} (hnf : ∀ a e t, nf a = .ok (e, t) → a < e ∧ e ≤ s.size) (hnr : ∀ a e t, nf a = .ok (e, t) → isRun (byt s e) = false) (n : Nat) : ∀ (a : Nat) (l : List Tk) (e : Int) (i : Nat), a ≤ s.size → Bd s a → scan nf s n a l = .error (e, i) → a ≤ i ∧ i < s.size ∧ Bd s i := by
  induction n with
  | zero => intro a l e i _ _ h; simp [scan] at h
  | succ n ih =>
    intro a l e i ha hb h
    have hu1 := upTo_ge isBlank s a
    have hu2 := upTo_le (f := isBlank) ha
    unfold scan at h
    split at h
    · cases h
    · cases hs : stepOut nf s (upTo isBlank s a) l with
      | error e' =>
        rw [hs] at h
        simp only [Except.error.injEq, Prod.mk.injEq] at h
        obtain ⟨rfl, rfl⟩ := h
        exact ⟨hu1, by omega, hb.blank⟩
      | ok p =>
        obtain ⟨b, l1⟩ := p
        rw [hs] at h
        have hg := stepOut_gt hnf (by omega) hs
        have := ih b l1 e i hg.2 (stepOut_bd hnr (by omega) hs) h
        exact ⟨by omega, this.2⟩

theorem cut_tok {nf nf' : Num} {s t : ByteArray} {m a b : Nat} {l l' : List Tk} (hc : Cut s t m) (hm : Bd s m) (hnn : ∀ a e u, nf a = .ok (e, u) → e ≤ m → nf' a = .ok (e, u)) (ha : a < m) (hb : b ≤ m) (h : tokOut nf s a l = .ok (b, l')) : tokOut nf' t a l = .ok (b, l') := by
  have hle := hc.le
  have hsz := hc.size
  have hr := hm.run ha
  have hu := hc.upTo' (f := isRun) (by decide) (Nat.le_of_lt ha) hr
  have hby := hc.byt ha
  unfold tokOut at h ⊢
  rw [hby]
  split
  · rename_i hd
    rw [if_pos hd] at h
    unfold numOut at h ⊢
    cases hn : nf a with
    | error e => rw [hn] at h; cases h
    | ok p =>
      obtain ⟨e, u⟩ := p
      rw [hn] at h
      simp only [Except.ok.injEq, Prod.mk.injEq] at h
      obtain ⟨rfl, rfl⟩ := h
      rw [hnn a _ u hn hb]
  · rename_i hd
    rw [if_neg hd] at h
    split
    · rename_i hr1
      rw [if_pos hr1] at h
      unfold wordOut at h ⊢
      rw [hu, hc.ext a hr]
      split
      · rename_i hw
        rw [if_pos hw] at h
        split
        · rename_i he
          rw [if_pos he] at h
          simp only [Except.ok.injEq, Prod.mk.injEq] at h
          obtain ⟨rfl, rfl⟩ := h
          have e : closer t (upTo isRun s a) = closer s (upTo isRun s a) := cut_clo hc hm _ _ _ (by omega) (by omega) hr hb
          rw [e]
        · rename_i he
          rw [if_neg he] at h
          exact h
      · rename_i hw
        rw [if_neg hw] at h
        exact h
    · rename_i hr1
      rw [if_neg hr1] at h
      split
      · rename_i hq
        rw [if_pos hq] at h
        unfold strOut at h
        by_cases h3 : byt s (strEnd s a) = 34
        · rw [if_pos h3] at h
          by_cases h8 : 80 < strEnd s a - (a + 1)
          · rw [if_pos h8] at h; cases h
          · rw [if_neg h8] at h
            simp only [Except.ok.injEq, Prod.mk.injEq] at h
            obtain ⟨rfl, rfl⟩ := h
            have e : strEnd t a = strEnd s a := hc.upTo' (f := isStr) (by decide) (by omega) (show strEnd s a ≤ m by omega)
            unfold strOut
            rw [e, hc.byt (show strEnd s a < m by omega), if_pos h3, if_neg h8, hc.ext _ (show strEnd s a ≤ m by omega)]
        · rw [if_neg h3] at h; cases h
      · rename_i hq
        rw [if_neg hq] at h
        unfold signOut at h ⊢
        by_cases h5 : (signAt s a).toList.isEmpty = true
        · rw [if_pos h5] at h; cases h
        · rw [if_neg h5] at h
          simp only [Except.ok.injEq, Prod.mk.injEq] at h
          obtain ⟨rfl, rfl⟩ := h
          rw [cut_sign hc (Nat.le_of_lt ha) hb, if_neg h5]

theorem cut_step {nf nf' : Num} {s t : ByteArray} {m a b : Nat} {l l' : List Tk} (hc : Cut s t m) (hm : Bd s m) (hnn : ∀ a e u, nf a = .ok (e, u) → e ≤ m → nf' a = .ok (e, u)) (ha : a < m) (hb : b ≤ m) (h : stepOut nf s a l = .ok (b, l')) : stepOut nf' t a l = .ok (b, l') := by
  have hle := hc.le
  have hsz := hc.size
  have hr := hm.run ha
  have hu := hc.upTo' (f := isRun) (by decide) (Nat.le_of_lt ha) hr
  unfold stepOut at h ⊢
  rw [hu, hc.ext a hr]
  split
  · rename_i h1
    rw [if_pos h1] at h
    by_cases h2 : mayCom l = true ∧ toSemi s a < s.size
    · rw [if_pos h2] at h
      simp only [Except.ok.injEq, Prod.mk.injEq] at h
      obtain ⟨rfl, rfl⟩ := h
      have e : toSemi t a = toSemi s a := hc.upTo' (f := noSemi) (by decide) (Nat.le_of_lt ha) (show toSemi s a ≤ m by omega)
      rw [e, if_pos ⟨h2.1, by omega⟩]
    · rw [if_neg h2] at h; cases h
  · rename_i h1
    rw [if_neg h1] at h
    split
    · rename_i h2
      rw [if_pos h2] at h
      cases h
    · rename_i h2
      rw [if_neg h2] at h
      exact cut_tok hc hm hnn ha hb h

/-- the head of a text up to its first error scans -/
theorem scan_cut {nf nf' : Num} {s t : ByteArray} {m : Nat} (hc : Cut s t m) (hm : Bd s m) (hnf : ∀ a e t, nf a = .ok (e, t) → a < e ∧ e ≤ s.size) (hnr : ∀ a e t, nf a = .ok (e, t) → isRun (byt s e) = false) (hnn : ∀ a e u, nf a = .ok (e, u) → e ≤ m → nf' a = .ok (e, u)) (e : Int) : ∀ (n' n a : Nat) (l : List Tk), a ≤ m → Bd s a → scan nf s n a l = .error (e, m) → ∃ l', scan nf' t n' a l = .ok l' := by
  intro n'
  have hle := hc.le
  have hsz := hc.size
  induction n' with
  | zero => intro n a l _ _ _; exact ⟨l, rfl⟩
  | succ n' ih =>
    intro n a l ha hba h
    cases n with
    | zero => simp [scan] at h
    | succ n =>
      have hu1 := upTo_ge isBlank s a
      have hu2 := upTo_le (f := isBlank) (show a ≤ s.size by omega)
      unfold scan at h
      split at h
      · cases h
      · rename_i hne
        cases hs : stepOut nf s (upTo isBlank s a) l with
        | error e' =>
          rw [hs] at h
          simp only [Except.error.injEq, Prod.mk.injEq] at h
          have he : upTo isBlank t a = m := by rw [hc.upTo' (f := isBlank) (by decide) ha (by omega)]; exact h.2
          refine ⟨l, ?_⟩
          unfold scan
          rw [if_pos (by rw [he, hsz])]
        | ok p =>
          obtain ⟨b, l1⟩ := p
          rw [hs] at h
          have hg := stepOut_gt hnf (by omega) hs
          have hbb := stepOut_bd hnr (by omega) hs
          have hi := scan_at hnf hnr n b l1 e m hg.2 hbb h
          have he : upTo isBlank t a = upTo isBlank s a := hc.upTo' (f := isBlank) (by decide) ha (by omega)
          have hst := cut_step hc hm hnn (show upTo isBlank s a < m by omega) hi.1 hs
          obtain ⟨l', hl'⟩ := ih n b l1 hi.1 hbb h
          refine ⟨l', ?_⟩
          unfold scan
          rw [he, if_neg (by omega), hst]
          exact hl'

end Go.Proofs.YtnmifeiokhpcfaaDoor
