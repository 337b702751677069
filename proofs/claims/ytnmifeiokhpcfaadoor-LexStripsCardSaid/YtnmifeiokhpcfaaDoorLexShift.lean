/-
  PACKAGE lex: tokens with other offsets; the laws' shifted and Exact.
-/
import Derived.Test.YtnmifeiokhpcfaaDoorLexEmb

namespace Go.Proofs.YtnmifeiokhpcfaaDoor
open Go.RowKit
set_option linter.unusedVariables false

/-- the token further on -/
def To.sh (d : Int) (t : To) : To := { t with ofs := t.ofs + d, en := t.en + d }

theorem info_tok : Tryd.prog.info? 37 = Tryd.prog.info? 37 := rfl

theorem take_map_succ (l : List To) (d : Int) (k : Nat) (h : k < l.length) : (l.take k).map (To.sh d) ++ [l[k].sh d] = (l.take (k + 1)).map (To.sh d) := by
  rw [List.take_succ_eq_append_getElem h, List.map_append]
  rfl

theorem row_one {w : World} {g : Nat} {t : To} {T : TypeId} (h : w.heap[g]? = some (.cells (To.cells t).toArray T (0, 0))) : Row w (some ⟨g, 0, none⟩) [t] := by
  have hlt : g < w.heap.size := cells_lt h
  intro i hi
  obtain rfl : i = 0 := by simpa using hi
  refine ⟨⟨g, 0, none⟩, rfl, ?_⟩
  change At7 w ⟨g, 0, none⟩ t
  exact ⟨hlt, by rw [cells_get h]; rfl, by rw [cells_get h]; rfl, by rw [cells_get h]; rfl, by rw [cells_get h]; rfl, by rw [cells_get h]; rfl, by rw [cells_get h]; rfl, by rw [cells_get h]; rfl⟩

theorem sameT_self (l : List To) : sameT l l = true := by
  have h : sameT (l.drop 0) (l.drop 0) = true := by
    have key : ∀ n k, l.length - k ≤ n → sameT (l.drop k) (l.drop k) = true := by
      intro n
      induction n with
      | zero => intro k hk; exact sameT_end l l k (by omega) (by omega)
      | succ n ih =>
        intro k hk
        by_cases hlt : k < l.length
        · rw [sameT_step l l k hlt hlt, ih (k + 1) (by omega)]
          simp [alikeT]
        · exact sameT_end l l k (by omega) (by omega)
    exact key l.length 0 (by omega)
  exact h

theorem tk_len {nf : Num} {s : ByteArray} (N : NumOk nf s) {l : List Tk} (h : scan nf s (s.size + 1) 0 [] = .ok l) : l.length ≤ 131072 :=
  ((scan_run N _ _ _ _ (by omega) (by omega) h).le N).2.2.2.1 (by simp)

theorem tk_bd {s : ByteArray} {l : List Tk} (h : scan (numN s) s (s.size + 1) 0 [] = .ok l) : ∀ u ∈ l, u.ofs < u.en ∧ u.en ≤ s.size := by
  intro u hu
  obtain ⟨k, hk, e⟩ := List.mem_iff_getElem.1 hu
  have := alone_lex h (List.getElem?_eq_getElem hk)
  rw [e] at this
  exact ⟨this.1, this.2.1⟩

theorem ord_all {s : ByteArray} {l : List Tk} (h : scan (numN s) s (s.size + 1) 0 [] = .ok l) : Ord l s.size :=
  (scan_ord (fun a e t h => numN_ok s a e t h) _ 0 [] l (by omega) (by simp) ⟨fun t ht => by simp at ht, List.Pairwise.nil⟩ h).1

theorem to_bd {s : ByteArray} {l : List Tk} (hs : s.size ≤ 1048576) (h : scan (numN s) s (s.size + 1) 0 [] = .ok l) : ∀ t ∈ l.map Tk.to, 0 ≤ t.ofs ∧ t.ofs ≤ 4194304 ∧ 0 ≤ t.en ∧ t.en ≤ 4194304 := by
  intro t ht
  obtain ⟨u, hu, rfl⟩ := List.mem_map.1 ht
  have := tk_bd h u hu
  simp only [Tk.to]
  omega

theorem to_mv (u : Tk) (q : Nat) : (u.mv 0 q).to = u.to.sh q := by
  simp only [Tk.to, Tk.mv, To.sh, Nat.sub_zero]
  congr 1

theorem to_sh0 (u : Tk) : u.to.sh 0 = u.to := by
  simp only [Tk.to, To.sh, Int.add_zero]

/-- Lex at any text -/
theorem lex_some {s : ByteArray} {w : World} (ht1 : TabAt w w.heap.size 0 wordL) (ht2 : TabAt w w.heap.size 1 signL) (hP : re.P10 w) :
    ∀ w1, Below w.heap.size w w1 → Calls Tryd.prog 6 #[.string s] w1 fun r w' => ∃ (o : Option Addr) (n q : Nat) (e i : Int), r = .returned (.tuple #[.slice o n q, .int .i64 e, .int .i64 i]) ∧ Below w1.heap.size w1 w' := fun w1 h => by
  by_cases hs : s.size ≤ 1048576
  · have := lex_all (w := w1) hs ((ht1.kept h (Nat.le_refl _)).mono h.size) ((ht2.kept h (Nat.le_refl _)).mono h.size) (hP.kept h (Nat.le_refl _))
    cases hr : scan (numN s) s (s.size + 1) 0 [] with
    | error x =>
      obtain ⟨e, i⟩ := x
      rw [hr] at this
      exact this.mono fun r w' ⟨hb, hv⟩ => ⟨_, _, _, _, _, hv, hb⟩
    | ok l =>
      rw [hr] at this
      refine this.mono fun r w' ⟨hb, v, hv, hw⟩ => ?_
      obtain ⟨A, c, rfl⟩ := own7_slice hw
      exact ⟨_, _, _, _, _, hv, hb⟩
  · exact (lex_long (w := w1) (by omega)).mono fun r w' ⟨hv, hb⟩ => ⟨_, _, _, _, _, hv, hb⟩

theorem cat_run (a b : List UInt8) (h : a.length + b.length ≤ 4194304) (w : World) : (Op.stringOp .add (re.bs a) (re.bs b)).run Tryd.prog w = .ok (.string (re.bs (a ++ b))) w := re.add_run a b (by omega) w

/-- Lex at a text without errors: a row of its tokens -/
theorem lex_row {s : ByteArray} {w : World} {l : List Tk} (hs : s.size ≤ 1048576) (ht1 : TabAt w w.heap.size 0 wordL) (ht2 : TabAt w w.heap.size 1 signL) (hP : re.P10 w) (hr : scan (numN s) s (s.size + 1) 0 [] = .ok l) :
    ∀ w1, Below w.heap.size w w1 → Calls Tryd.prog 6 #[.string s] w1 fun r w' => ∃ o q, r = .returned (.tuple #[.slice o (l.map Tk.to).length q, .int .i64 0, .int .i64 0]) ∧ Row w' o (l.map Tk.to) ∧ (o = none → q = 0) ∧ (l.map Tk.to).length ≤ q ∧ Below w1.heap.size w1 w' := fun w1 h => by
  have := lex_all (w := w1) hs ((ht1.kept h (Nat.le_refl _)).mono h.size) ((ht2.kept h (Nat.le_refl _)).mono h.size) (hP.kept h (Nat.le_refl _))
  rw [hr] at this
  refine this.mono fun r w' ⟨hb, v, hv, hw⟩ => ?_
  rw [← cells_to] at hw
  have hl : (l.map Tk.to).length = l.length := List.length_map _
  rcases hw.2 with ⟨h1, h0⟩ | ⟨g, cap, cur, h1, _, _, hcap, _⟩
  · subst h1
    obtain rfl : l = [] := List.eq_nil_of_length_eq_zero h0
    exact ⟨none, 0, by rw [hv]; rfl, fun i hi => absurd hi (by simp), fun _ => rfl, Nat.le_refl _, hb⟩
  · subst h1
    exact ⟨some ⟨g, 0, none⟩, cap, by rw [hv, hl], (Row.own hw).1, fun e => (by cases e), (by rw [hl]; exact hcap), hb⟩

theorem lex_bad {s : ByteArray} {w : World} {e : Int} {i : Nat} (hs : s.size ≤ 1048576) (ht1 : TabAt w w.heap.size 0 wordL) (ht2 : TabAt w w.heap.size 1 signL) (hP : re.P10 w) (hr : scan (numN s) s (s.size + 1) 0 [] = .error (e, i)) :
    ∀ w1, Below w.heap.size w w1 → Calls Tryd.prog 6 #[.string s] w1 fun r w' => r = .returned (.tuple #[.slice none 0 0, .int .i64 e, .int .i64 i]) ∧ Below w1.heap.size w1 w' := fun w1 h => by
  have := lex_all (w := w1) hs ((ht1.kept h (Nat.le_refl _)).mono h.size) ((ht2.kept h (Nat.le_refl _)).mono h.size) (hP.kept h (Nat.le_refl _))
  rw [hr] at this
  exact this.mono fun r w' ⟨hb, hv⟩ => ⟨hv, hb⟩

end Go.Proofs.YtnmifeiokhpcfaaDoor
