/-
  PACKAGE lex: lists of comments; Lex with its tokens as they lie.
-/
import Derived.Test.YtnmifeiokhpcfaaDoorLexStp

namespace Go.Proofs.YtnmifeiokhpcfaaDoor
open Go.RowKit
set_option linter.unusedVariables false

/-- the cells of a comment at a place -/
structure At2 (w : World) (a : Addr) (p : Nat × Nat) : Prop where
  lt : a.block < w.heap.size
  c0 : w.cell? a = some (.int .i64 p.1)
  c1 : w.cell? ⟨a.block, a.off + 1, none⟩ = some (.int .i64 p.2)
/-- a slice that holds comments -/
def RowP (w : World) (o : Option Addr) (l : List (Nat × Nat)) : Prop := ∀ i (h : i < l.length), ∃ a, o = some a ∧ At2 w (a.add (i * 2)) l[i]
theorem At2.kept {w w' : World} {a : Addr} {p : Nat × Nat} (h : At2 w a p) {B : Nat} (hb : Below w.heap.size w w') : At2 w' a p := by
  obtain ⟨lt, c0, c1⟩ := h
  exact ⟨Nat.lt_of_lt_of_le lt hb.size, (hb.cell (p := a) lt).trans c0, (hb.cell (p := ⟨a.block, a.off + 1, none⟩) lt).trans c1⟩
theorem RowP.kept {w w' : World} {o : Option Addr} {l : List (Nat × Nat)} (h : RowP w o l) (hb : Below w.heap.size w w') : RowP w' o l := fun i hi => by
  obtain ⟨a, ha, h2⟩ := h i hi
  exact ⟨a, ha, h2.kept (B := 0) hb⟩
theorem cellsP_get (l : List (Nat × Nat)) (k j : Nat) (hj : j < 2) (h : k < l.length) : (cellsP l)[k * 2 + j]? = (pcC l[k])[j]? := by
  induction l generalizing k with
  | nil => simp at h
  | cons x l ih =>
    have hx : (pcC x).length = 2 := rfl
    have e : cellsP (x :: l) = pcC x ++ cellsP l := rfl
    rw [e]
    cases k with
    | zero =>
      rw [List.getElem?_append_left (by omega)]
      simp
    | succ k =>
      rw [List.getElem?_append_right (by omega), show (k + 1) * 2 + j - (pcC x).length = k * 2 + j from by omega, ih k (by simpa using h)]
      rfl
theorem RowP.own {w : World} {base : Nat} {e : TypeId} {A : Option Addr} {c n : Nat} {l : List (Nat × Nat)} (h : w.ownsRow base e 2 (.slice A n c) n (cellsP l)) : RowP w A l ∧ l.length = n := by
  have hl : l.length = n := by have := h.1; rw [cellsP_length] at this; omega
  refine ⟨fun i hi => ?_, hl⟩
  have hp : 0 < n := by omega
  obtain ⟨g, cap, hv, _, _⟩ := h.form hp
  injection hv with hA
  subst hA
  have key : ∀ j u, j < 2 → (pcC l[i])[j]? = some u → w.cell? ((⟨g, 0, none⟩ : Addr).add (i * 2 + j)) = some u := fun j u hj hu => by
    have := h.cells (g := g) rfl (i * 2 + j) u (by rw [cellsP_get l i j hj hi]; exact hu)
    rcases Nat.eq_zero_or_pos (i * 2 + j) with h0 | h0
    · rw [h0] at this ⊢
      exact this
    · rw [plus_pos _ h0] at this ⊢
      exact this
  have h0 := key 0 _ (by decide) rfl
  have h1 := key 1 _ (by decide) rfl
  rw [← plus_plus, plus_pos _ (show 0 < 1 by decide)] at h1
  exact ⟨_, rfl, ⟨World.block_lt_of_cell? w _ h0, h0, h1⟩⟩

theorem tokat_row {w : World} {o : Option Addr} {c : Nat} {l : List Tk} (h : TokAt w (.slice o l.length c) l) : Row w o (l.map Tk.to) := by
  intro i hi
  have hi' : i < l.length := by simpa using hi
  rcases h with ⟨_, h2⟩ | ⟨g, c', cur, h1, h2, h3⟩
  · rw [h2] at hi'; simp at hi'
  · injection h1 with hA
    subst hA
    refine ⟨_, rfl, At7.of fun j u hu => ?_⟩
    have hj : j < 7 := (List.getElem?_eq_some_iff.1 hu).1
    have e := h3 i l[i] (List.getElem?_eq_getElem hi') j hj
    have hu' : l[i].cells[j]? = some u := by
      rw [List.getElem_map] at hu
      exact hu
    rw [plus_plus]
    rcases Nat.eq_zero_or_pos (i * 7 + j) with h0 | h0
    · rw [h0] at e ⊢
      show w.cell? ⟨g, 0, none⟩ = _
      simp only [World.cell?, h2]
      rw [← hu', ← e]
      simp
    · rw [plus_pos _ h0]
      simp only [World.cell?, h2, Nat.zero_add]
      rw [← hu', ← e]
      simp

theorem lex_tok {s : ByteArray} {w : World} {l : List Tk} (hs : s.size ≤ 1048576) (ht1 : TabAt w w.heap.size 0 wordL) (ht2 : TabAt w w.heap.size 1 signL) (hP : re.P10 w) (hr : scan (numN s) s (s.size + 1) 0 [] = .ok l) :
    ∀ w1, Below w.heap.size w w1 → Calls Tryd.prog 6 #[.string s] w1 fun r w' => ∃ o q, r = .returned (.tuple #[.slice o l.length q, .int .i64 0, .int .i64 0]) ∧ TokAt w' (.slice o l.length q) l ∧ l.length ≤ q ∧ Below w1.heap.size w1 w' := fun w1 h => by
  have := lex_all (w := w1) hs ((ht1.kept h (Nat.le_refl _)).mono h.size) ((ht2.kept h (Nat.le_refl _)).mono h.size) (hP.kept h (Nat.le_refl _))
  rw [hr] at this
  refine this.mono fun r w' ⟨hb, v, hv, hw⟩ => ?_
  have hT := TokAt.of hw
  have hlen := hw.2
  rcases hlen with ⟨h1, h2⟩ | ⟨g, cap, cur, h1, _, _, h4, _⟩
  · subst h1
    exact ⟨none, 0, by rw [hv, h2], by rw [h2]; exact hT, by omega, hb⟩
  · subst h1
    exact ⟨_, cap, hv, hT, h4, hb⟩

theorem coms_tok {s : ByteArray} {w : World} {xs : List (Nat × Nat)}
    (h : ∀ w1, Below w.heap.size w w1 → Calls Tryd.prog 7 #[.string s] w1 fun e w' => ∃ v, e = .returned (.tuple #[v, .int .i64 0, .int .i64 0]) ∧ w'.ownsRow w1.heap.size 33 2 v xs.length (cellsP xs) ∧ Below w1.heap.size w1 w') :
    ∀ w1, Below w.heap.size w w1 → Calls Tryd.prog 7 #[.string s] w1 fun r w' => ∃ o q, r = .returned (.tuple #[.slice o xs.length q, .int .i64 0, .int .i64 0]) ∧ RowP w' o xs ∧ xs.length ≤ q ∧ Below w1.heap.size w1 w' := fun w1 hb => by
  refine (h w1 hb).mono ?_
  rintro r w' ⟨v, rfl, ho, hb'⟩
  have ho' := ho
  rcases ho.2 with ⟨rfl, h0⟩ | ⟨g, cap, cur, rfl, _, _, h4, _⟩
  · rw [h0] at ho' ⊢
    exact ⟨none, 0, rfl, (RowP.own ho').1, Nat.le_refl _, hb'⟩
  · exact ⟨_, cap, rfl, (RowP.own ho').1, h4, hb'⟩

end Go.Proofs.YtnmifeiokhpcfaaDoor
