/-
  PACKAGE lex: the tokens of a text lie one behind the other; lines and columns grow; Lex at a text that is too long.
-/
import Derived.Test.YtnmifeiokhpcfaaDoorLexNumC
import Derived.Test.YtnmifeiokhpcfaaDoorTok7
import Derived.Test.YtnmifeiokhpcfaaDoorLine

namespace Go.Proofs.YtnmifeiokhpcfaaDoor
open Go.RowKit
set_option linter.unusedVariables false

theorem tokOut_tok {nf : Num} {s : ByteArray} {a b : Nat} {l l' : List Tk} (hnf : ∀ a e t, nf a = .ok (e, t) → a < e ∧ e ≤ s.size ∧ t.ofs = a ∧ t.en = e) (ha : a < s.size) (h : tokOut nf s a l = .ok (b, l')) :
    b ≤ s.size ∧ ∃ t : Tk, l' = l ++ [t] ∧ t.ofs = a ∧ a < t.en ∧ t.en ≤ b := by
  have hu := upTo_le (f := isRun) (Nat.le_of_lt ha)
  unfold tokOut at h
  split at h
  · unfold numOut at h
    cases hn : nf a with
    | error e => rw [hn] at h; cases h
    | ok p =>
      obtain ⟨e, t⟩ := p
      rw [hn] at h
      have := hnf a e t hn
      simp only [Except.ok.injEq, Prod.mk.injEq] at h
      obtain ⟨rfl, rfl⟩ := h
      exact ⟨this.2.1, _, rfl, this.2.2.1, by omega, by omega⟩
  · split at h
    · rename_i hr
      have hg := run_gt hr
      unfold wordOut at h
      split at h
      · split at h
        · simp only [Except.ok.injEq, Prod.mk.injEq] at h
          obtain ⟨rfl, rfl⟩ := h
          have := closer_ge hu
          exact ⟨by omega, _, rfl, rfl, hg, this.1⟩
        · simp only [Except.ok.injEq, Prod.mk.injEq] at h
          obtain ⟨rfl, rfl⟩ := h
          exact ⟨hu, _, rfl, rfl, hg, Nat.le_refl _⟩
      · split at h
        · cases h
        · simp only [Except.ok.injEq, Prod.mk.injEq] at h
          obtain ⟨rfl, rfl⟩ := h
          exact ⟨hu, _, rfl, rfl, hg, Nat.le_refl _⟩
    · split at h
      · unfold strOut at h
        split at h
        · rename_i hq
          split at h
          · cases h
          · simp only [Except.ok.injEq, Prod.mk.injEq] at h
            obtain ⟨rfl, rfl⟩ := h
            have g : a + 1 ≤ strEnd s a := upTo_ge _ _ _
            have g2 : strEnd s a < s.size := by
              by_cases h1 : strEnd s a < s.size
              · exact h1
              · rw [byt_out (by omega)] at hq; omega
            exact ⟨by omega, _, rfl, rfl, by simp only; omega, Nat.le_refl _⟩
        · cases h
      · unfold signOut at h
        split at h
        · cases h
        · rename_i he
          simp only [Except.ok.injEq, Prod.mk.injEq] at h
          obtain ⟨rfl, rfl⟩ := h
          have h1 := size_pos (by simpa using he)
          have h2 := signAt_le (Nat.le_of_lt ha)
          exact ⟨by omega, _, rfl, rfl, by simp only; omega, Nat.le_refl _⟩

/-- one behind the other, and none beyond e -/
def Ord (l : List Tk) (e : Nat) : Prop := (∀ t ∈ l, t.ofs < t.en ∧ t.en ≤ e) ∧ l.Pairwise (fun t u => t.en ≤ u.ofs)

theorem Ord.mono {l : List Tk} {e e' : Nat} (h : Ord l e) (he : e ≤ e') : Ord l e' := ⟨fun t ht => ⟨(h.1 t ht).1, Nat.le_trans (h.1 t ht).2 he⟩, h.2⟩

theorem Ord.snoc {l : List Tk} {a b : Nat} {t : Tk} (h : Ord l a) (h1 : a ≤ t.ofs) (h2 : t.ofs < t.en) (h3 : t.en ≤ b) : Ord (l ++ [t]) b := by
  refine ⟨fun u hu => ?_, ?_⟩
  · rcases List.mem_append.1 hu with hu | hu
    · have := h.1 u hu
      exact ⟨this.1, by omega⟩
    · rw [List.mem_singleton] at hu
      subst hu
      exact ⟨h2, h3⟩
  · rw [List.pairwise_append]
    refine ⟨h.2, List.pairwise_singleton _ _, fun u hu v hv => ?_⟩
    rw [List.mem_singleton] at hv
    subst hv
    have := (h.1 u hu).2
    omega

theorem scan_ord {nf : Num} {s : ByteArray} (hnf : ∀ a e t, nf a = .ok (e, t) → a < e ∧ e ≤ s.size ∧ t.ofs = a ∧ t.en = e) (n : Nat) : ∀ (a : Nat) (l l' : List Tk), a ≤ s.size → l.length ≤ 131072 → Ord l a → scan nf s n a l = .ok l' → Ord l' s.size ∧ l'.length ≤ 131072 := by
  induction n with
  | zero =>
    intro a l l' ha hl ho h
    simp only [scan, Except.ok.injEq] at h
    subst h
    exact ⟨ho.mono ha, hl⟩
  | succ n ih =>
    intro a l l' ha hl ho h
    have hu1 := upTo_ge isBlank s a
    have hu2 := upTo_le (f := isBlank) ha
    unfold scan at h
    split at h
    · simp only [Except.ok.injEq] at h
      subst h
      exact ⟨ho.mono ha, hl⟩
    · rename_i hne
      cases hs : stepOut nf s (upTo isBlank s a) l with
      | error e => rw [hs] at h; cases h
      | ok p =>
        obtain ⟨b, l1⟩ := p
        rw [hs] at h
        dsimp only at h
        unfold stepOut at hs
        split at hs
        · split at hs
          · rename_i hc
            simp only [Except.ok.injEq, Prod.mk.injEq] at hs
            obtain ⟨rfl, rfl⟩ := hs
            have := toSemi_ge s (upTo isBlank s a)
            exact ih _ _ _ (by omega) hl (ho.mono (by omega)) h
          · cases hs
        · split at hs
          · cases hs
          · rename_i hlen
            obtain ⟨hb, t, rfl, h1, h2, h3⟩ := tokOut_tok hnf (by omega) hs
            exact ih _ _ _ hb (by rw [List.length_append]; simp; omega) (ho.snoc (by omega) (by omega) h3) h

theorem numN_err {s : ByteArray} {a : Nat} {e : Int} (h : numN s a = .error e) : e ≠ 0 := by
  unfold numN at h
  split at h
  · split at h
    · cases h; decide
    · split at h
      · split at h
        · cases h
        · rename_i h0; cases h; exact h0
      · split at h
        · cases h
        · rename_i h0; cases h; exact h0
  · cases h; decide

theorem tokOut_err {nf : Num} {s : ByteArray} {a : Nat} {l : List Tk} {e : Int} (hne : ∀ a e, nf a = .error e → e ≠ 0) (h : tokOut nf s a l = .error e) : e ≠ 0 := by
  unfold tokOut at h
  split at h
  · unfold numOut at h
    cases hn : nf a with
    | error e' => rw [hn] at h; cases h; exact hne _ _ hn
    | ok p => obtain ⟨e', t⟩ := p; rw [hn] at h; cases h
  · split at h
    · unfold wordOut at h
      split at h
      · split at h <;> cases h
      · split at h
        · cases h; decide
        · cases h
    · split at h
      · unfold strOut at h
        split at h
        · split at h
          · cases h; decide
          · cases h
        · cases h; decide
      · unfold signOut at h
        split at h
        · cases h; decide
        · cases h

theorem scan_err {nf : Num} {s : ByteArray} (hne : ∀ a e, nf a = .error e → e ≠ 0) (n : Nat) : ∀ (a : Nat) (l : List Tk) (e : Int) (i : Nat), scan nf s n a l = .error (e, i) → e ≠ 0 := by
  induction n with
  | zero => intro a l e i h; simp [scan] at h
  | succ n ih =>
    intro a l e i h
    unfold scan at h
    split at h
    · cases h
    · cases hs : stepOut nf s (upTo isBlank s a) l with
      | error e' =>
        rw [hs] at h
        simp only [Except.error.injEq, Prod.mk.injEq] at h
        obtain ⟨rfl, rfl⟩ := h
        unfold stepOut at hs
        split at hs
        · split at hs
          · cases hs
          · cases hs; decide
        · split at hs
          · cases hs; decide
          · exact tokOut_err hne hs
      | ok p =>
        obtain ⟨b, l1⟩ := p
        rw [hs] at h
        exact ih _ _ _ _ h

def Tk.to (t : Tk) : To := ⟨t.kind, t.text, t.n, t.man, t.ex, t.ofs, t.en⟩

theorem cells_to (l : List Tk) : cellsT (l.map Tk.to) = cellsOf l := by
  induction l with
  | nil => rfl
  | cons t l ih =>
    have e : cellsT ((t :: l).map Tk.to) = t.cells ++ cellsT (l.map Tk.to) := rfl
    rw [e, ih]
    rfl

theorem fnd_first {l : List Tk} {e : Nat} (h : Ord l e) {i : Nat} (hi : i < l.length) {j : Int} (h1 : (l[i].ofs : Int) ≤ j) (h2 : j < (l[i].en : Int)) : ∀ d k, k + d = i → fnd (l.map Tk.to) j k = some i := by
  intro d
  induction d with
  | zero =>
    intro k hk
    obtain rfl : k = i := by omega
    exact fnd_hit _ _ _ (by simpa using hi) (by simpa [Tk.to] using h1) (by simpa [Tk.to] using h2)
  | succ d ih =>
    intro k hk
    have hlt : k < l.length := by omega
    have hp := List.pairwise_iff_getElem.1 h.2 k i hlt hi (by omega)
    rw [fnd_miss _ _ _ (by simpa using hlt) (by
      rw [List.getElem_map]
      show ¬ ((l[k].ofs : Int) ≤ j ∧ j < (l[k].en : Int))
      omega)]
    exact ih (k + 1) (by omega)

theorem lc_lt (s : ByteArray) (i : Nat) : ∀ d, (lc s i).1 < (lc s (i + d + 1)).1 ∨ (lc s i).1 = (lc s (i + d + 1)).1 ∧ (lc s i).2 < (lc s (i + d + 1)).2 := by
  have step : ∀ k, (lc s k).1 < (lc s (k + 1)).1 ∨ (lc s k).1 = (lc s (k + 1)).1 ∧ (lc s k).2 < (lc s (k + 1)).2 := fun k => by
    have e : lc s (k + 1) = if byt s k = 10 then ((lc s k).1 + 1, 1) else ((lc s k).1, (lc s k).2 + 1) := rfl
    rw [e]
    split
    · exact .inl (show (lc s k).1 < (lc s k).1 + 1 by omega)
    · exact .inr ⟨rfl, show (lc s k).2 < (lc s k).2 + 1 by omega⟩
  intro d
  induction d with
  | zero => exact step i
  | succ d ih =>
    have h := step (i + d + 1)
    rw [show i + (d + 1) + 1 = i + d + 1 + 1 from by omega]
    omega

set_option maxRecDepth 100000 in
set_option maxHeartbeats 2000000 in
theorem lex_long {w : World} {s : ByteArray} (hs : 1048576 < s.size) :
    Calls Tryd.prog 6 #[.string s] w fun r w' => r = .returned (.tuple #[.slice none 0 0, .int .i64 2, .int .i64 0]) ∧ Below w.heap.size w w' := by
  have hmf : ∀ (fn : Fn) (first cap : Array Value) (w : World), (Instr.makeFunc fn first cap).run Tryd.prog w = .ok (.func fn first cap) w := fun _ _ _ _ => rfl
  have hsi : (1048576 : Int) < s.size := by omega
  go_enter_defers Tryd.func6, Tryd.ntmps6
  go_wp2_with fail
  refine leaves_cons (f := 12) (args := #[.pointer (some ⟨w.heap.size, 0, none⟩), .pointer (some ⟨w.heap.size + 1, 0, none⟩), .pointer (some ⟨w.heap.size + 1 + 1, 0, none⟩)]) (by simp) (by simp [go_sem]) ?_
  refine (catch_idle w.heap.size (w.heap.size + 1) (w.heap.size + 1 + 1) _).mono ?_
  rintro r u' w6 ⟨rfl, rfl, hb6⟩
  have r2 : w6.cell? ⟨w.heap.size, 0, none⟩ = some (.slice none 0 0) := carry hb6 (by go_simp)
  have r3 : w6.cell? ⟨w.heap.size + 1, 0, none⟩ = some (.int .i64 2) := carry hb6 (by go_simp)
  have r4 : w6.cell? ⟨w.heap.size + 1 + 1, 0, none⟩ = some (.int .i64 0) := carry hb6 (by go_simp)
  have HB6 := Lib.hid ((by repeat (first | exact Below.refl _ _ | refine Below.drew ?_ | refine Below.setCell ?_ (by first | omega | (simp; done) | (simp; omega)) _ | refine Below.alloc ?_ (by first | omega | (simp; done) | (simp; omega)) _) : Below w.heap.size w _).trans (hb6.mono (by simp <;> omega)))
  simp [Leaves, settle, results, Tryd.results6, go_sem, r2, r3, r4]
  exact HB6.out

end Go.Proofs.YtnmifeiokhpcfaaDoor
