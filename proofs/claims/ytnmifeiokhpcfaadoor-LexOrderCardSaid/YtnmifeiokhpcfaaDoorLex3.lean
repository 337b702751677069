/-
  PACKAGE lex: places in a text: passFraction, passExponent, passComment, passAllButBlanks.
-/
import Derived.Test.YtnmifeiokhpcfaaDoorLex2
import Derived.BigQuiet
import Derived.Deep.QuietTactic

namespace Go.Proofs.YtnmifeiokhpcfaaDoor
open Go.RowKit
set_option linter.unusedVariables false

def fracEnd (s : ByteArray) (a : Nat) : Nat := if byt s a = 46 ∧ isDig (byt s (a + 1)) = true then upTo isDig s (a + 1) else a

theorem full_list {s : ByteArray} (h : 0 < s.size) : s.toList.isEmpty = false := by
  rw [ByteArray.toList_eq]
  rcases s with ⟨⟨l⟩⟩
  rcases l with _ | ⟨a, l⟩
  · simp [ByteArray.size] at h
  · rfl
theorem none_list {s : ByteArray} (h : s.size = 0) : s.toList.isEmpty = true := by
  rw [ByteArray.toList_eq]
  rcases s with ⟨⟨l⟩⟩
  rcases l with _ | ⟨a, l⟩
  · rfl
  · simp [ByteArray.size] at h
theorem run_empty {f : Nat → Bool} (h256 : f 256 = false) {s : ByteArray} {a : Nat} (ha : a ≤ s.size) : (s.extract a (upTo f s a)).toList.isEmpty = !f (byt s a) := by
  cases h : f (byt s a)
  · rw [upTo_stop h]
    exact none_list (by simp)
  · have hlt : a < s.size := by
      by_cases h1 : a < s.size
      · exact h1
      · rw [byt_out (by omega), h256] at h; cases h
    rw [upTo_step hlt h]
    have h1 := upTo_ge f s (a + 1)
    have h2 := upTo_le (f := f) (show a + 1 ≤ s.size by omega)
    exact full_list (by simp; omega)
theorem pos_two {w : World} {B : Nat} {T : TypeId} {s : ByteArray} {a b : Int} {rest : List Value} (h : Pos w B T s a rest) :
    Pos ((w.setCell ⟨B, 0, none⟩ (.string s)).setCell ⟨B, 1, none⟩ (.int .i64 b)) B T s b rest := cells_set (cells_set h (.string s)) _
theorem grown_two {w w2 : World} {B : Nat} {u v : Value} (h : w.grownBy w2 (some B)) : w.grownBy ((w2.setCell ⟨B, 0, none⟩ u).setCell ⟨B, 1, none⟩ v) (some B) :=
  grown_and (grown_and h (grown_setCell _ ⟨B, 0, none⟩ _) (fun j e => .inr e)) (grown_setCell _ ⟨B, 1, none⟩ _) (fun j e => .inr e)

theorem passFraction_any {w : World} {B : Nat} {T : TypeId} {s : ByteArray} {a : Nat} {rest : List Value} (h : Pos w B T s a rest) (ha : a ≤ s.size) (hs : s.size < 4611686018427387904) :
    Calls Tryd.prog 49 #[.pointer (some ⟨B, 0, none⟩)] w fun e w' =>
      e = .returned (.tuple #[]) ∧ w.grownBy w' (some B) ∧ Pos w' B T s (fracEnd s a) rest := by
  have c0 := h.c0
  have c1 := h.c1
  have f0 : w.frozen? ⟨B, 0, none⟩ = false := cells_free h
  have f1 := h.f1
  have hlt := h.lt
  have HP := Lib.hid h
  clear h
  go_enter Tryd.func49, Tryd.ntmps49
  have hN : Pos (w.alloc (.cells #[.string s, .int .i64 a] 47)) w.heap.size 47 s a [] := heap_alloc_new w _
  have HN := Lib.hid hN
  clear hN
  have G0 := Lib.hid (World.grownBy_alloc w (.cells #[.string s, .int .i64 a] 47) (some B))
  go_wp2_with fail
  refine (pass_any 46 (by decide) HN.out ha hs).mono ?_
  rintro e w1 ⟨rfl, hg1, hp1⟩
  have G1 := Lib.hid (grown_and G0.out hg1 (fun j e => .inl (by cases e; exact Nat.le_refl _)))
  have H1 := Lib.hid hp1
  have P1 := Lib.hid (HP.out.kept (grown_and (World.grownBy_alloc w (.cells #[.string s, .int .i64 a] 47) none) hg1 (fun j e => .inl (by cases e; exact Nat.le_refl _))) (by simp))
  clear hg1 hp1
  cases hx : (byt s a == 46)
  · have HX := Lib.hid (show fracEnd s a = a from if_neg (by simp at hx; simp [hx]))
    clear hx
    go_wp2_with fail
    go_end0
    exact ⟨rfl, G1.out, by rw [HX.out]; exact P1.out⟩
  · have hx' : byt s a = 46 := by simpa using hx
    have hlt1 : a < s.size := by
      by_cases h : a < s.size
      · exact h
      · rw [byt_out (by omega)] at hx'; omega
    have hpa : passAt 46 s a = a + 1 := if_pos hx'
    have H1' := H1.out
    rw [hpa] at H1'
    have H2 := Lib.hid H1'
    have HX := Lib.hid hx'
    clear hx hx' hpa H1' H1
    go_wp2_with fail
    refine (take_any 2 (by unfold okCls; simp) H2.out (by omega) hs).mono ?_
    rintro e w2 ⟨rfl, hg2, hp2⟩
    have p20 := hp2.c0
    have p21 := hp2.c1
    have hz : w.heap.size < w2.heap.size := hp2.lt
    have P2 := Lib.hid (P1.out.kept hg2 (by simp; omega))
    have G2 := Lib.hid (grown_and G1.out hg2 (fun j e => .inl (by cases e; exact Nat.le_refl _)))
    have q0 : w2.frozen? ⟨B, 0, none⟩ = false := cells_free P2.out
    have q1 : w2.frozen? ⟨B, 1, none⟩ = false := cells_free P2.out
    have q2 : w2.cell? ⟨B, 0, none⟩ = some (.string s) := P2.out.c0
    have q3 : w2.cell? ⟨B, 1, none⟩ = some (.int .i64 a) := P2.out.c1
    clear hg2 hp2
    have hE := run_empty (f := inCls 2) (inCls_out 2) (show a + 1 ≤ s.size by omega)
    cases hd : inCls 2 (byt s (a + 1))
    · have HY := Lib.hid (show fracEnd s a = a from if_neg (by intro h; rw [show isDig = inCls 2 from rfl] at h; rw [hd] at h; cases h.2))
      rw [hd] at hE
      clear hd
      go_wp2_with fail
      go_end0
      exact ⟨rfl, G2.out, by rw [HY.out]; exact P2.out⟩
    · have HY := Lib.hid (show fracEnd s a = upTo (inCls 2) s (a + 1) from if_pos ⟨HX.out, hd⟩)
      rw [hd] at hE
      clear hd
      go_wp2_with fail
      go_end0
      exact ⟨rfl, grown_two G2.out, by rw [HY.out]; exact pos_two P2.out⟩

def expFrom (s : ByteArray) (a : Nat) : Nat := if byt s (a + 1) = 43 ∨ byt s (a + 1) = 45 then a + 2 else a + 1
def expEnd (s : ByteArray) (a : Nat) : Nat := if byt s a = 101 ∧ isDig (byt s (expFrom s a)) = true then upTo isDig s (expFrom s a) else a

theorem fresh_pos (w : World) (T : TypeId) (s : ByteArray) (a : Int) : Pos (w.alloc (.cells #[.string s, .int .i64 a] T)) w.heap.size T s a [] := heap_alloc_new w _

set_option maxHeartbeats 800000 in
theorem passExponent_any {w : World} {B : Nat} {T : TypeId} {s : ByteArray} {a : Nat} {rest : List Value} (h : Pos w B T s a rest) (ha : a ≤ s.size) (hs : s.size < 4611686018427387904) :
    Calls Tryd.prog 50 #[.pointer (some ⟨B, 0, none⟩)] w fun e w' =>
      e = .returned (.tuple #[]) ∧ w.grownBy w' (some B) ∧ Pos w' B T s (expEnd s a) rest := by
  have c0 := h.c0
  have c1 := h.c1
  have hlt := h.lt
  have HP := Lib.hid h
  clear h
  go_enter Tryd.func50, Tryd.ntmps50
  have HN := Lib.hid (fresh_pos w 47 s a)
  have G0 := Lib.hid (World.grownBy_alloc w (.cells #[.string s, .int .i64 a] 47) (some B))
  have P0 := Lib.hid (HP.out.kept (World.grownBy_alloc w (.cells #[.string s, .int .i64 a] 47) none) (by simp))
  go_wp2_with fail
  refine (pass_any 101 (by decide) HN.out ha hs).mono ?_
  rintro e w1 ⟨rfl, hg1, hp1⟩
  have G1 := Lib.hid (grown_and G0.out hg1 (fun j e => .inl (by cases e; exact Nat.le_refl _)))
  have P1 := Lib.hid (P0.out.kept hg1 (by simp; omega))
  have H1 := Lib.hid hp1
  clear hg1 hp1
  cases hx : (byt s a == 101)
  · have HX := Lib.hid (show expEnd s a = a from if_neg (by simp at hx; simp [hx]))
    clear hx
    go_wp2_with fail
    refine bodyPost_ret (results_none rfl _ _ _) rfl ?_
    exact ⟨rfl, G1.out, by rw [HX.out]; exact P1.out⟩
  · have hx' : byt s a = 101 := by simpa using hx
    have hlt1 : a < s.size := by
      by_cases h : a < s.size
      · exact h
      · rw [byt_out (by omega)] at hx'; omega
    have hpa : passAt 101 s a = a + 1 := if_pos hx'
    have H1' := H1.out
    rw [hpa] at H1'
    have H2 := Lib.hid H1'
    have HX := Lib.hid hx'
    clear hx hx' hpa H1' H1
    have go : ∀ (w2 : World) (k : Nat), k = expFrom s a → k ≤ s.size → w.grownBy w2 (some B) → Pos w2 B T s a rest → Pos w2 w.heap.size 47 s k [] → Calls Tryd.prog 23 #[.pointer (some ⟨w.heap.size, 0, none⟩), .int .u8 2] w2 fun e w3 =>
        ∃ b : Bool, e = .returned (.string (s.extract k (upTo (inCls 2) s k))) ∧ (s.extract k (upTo (inCls 2) s k)).toList.isEmpty = !b ∧ w.grownBy w3 (some B) ∧ Pos w3 B T s a rest ∧ Pos w3 w.heap.size 47 s (upTo (inCls 2) s k) [] ∧ expEnd s a = (if b then upTo (inCls 2) s k else a) := by
      intro w2 k hk hk1 g p q
      refine (take_any 2 (by unfold okCls; simp) q hk1 hs).mono ?_
      rintro e w3 ⟨rfl, hg, hq⟩
      refine ⟨inCls 2 (byt s k), rfl, run_empty (inCls_out 2) hk1, grown_and g hg (fun j e => .inl (by cases e; exact Nat.le_refl _)), p.kept hg (by simp; omega), hq, ?_⟩
      subst hk
      unfold expEnd
      rw [show isDig = inCls 2 from rfl]
      cases inCls 2 (byt s (expFrom s a))
      · exact if_neg (by simp)
      · exact if_pos ⟨HX.out, rfl⟩
    have GO := Lib.hid go
    clear go
    go_wp2_with fail
    refine (pass_any 43 (by decide) H2.out (by omega) hs).mono ?_
    rintro e w2 ⟨rfl, hg2, hp2⟩
    have G2 := Lib.hid (grown_and G1.out hg2 (fun j e => .inl (by cases e; exact Nat.le_refl _)))
    have P2 := Lib.hid (P1.out.kept hg2 (by simp; omega))
    have H3 := Lib.hid hp2
    clear hg2 hp2
    have fin : ∀ (w3 : World) (b : Bool) (k : Nat), Pos w3 B T s a rest → Pos w3 w.heap.size 47 s k [] → w3.frozen? ⟨B, 0, none⟩ = false ∧ w3.frozen? ⟨B, 1, none⟩ = false ∧ w3.cell? ⟨w.heap.size, 0, none⟩ = some (.string s) ∧ w3.cell? ⟨w.heap.size, 1, none⟩ = some (.int .i64 k) ∧ w3.cell? ⟨B, 0, none⟩ = some (.string s) ∧ w3.cell? ⟨B, 1, none⟩ = some (.int .i64 a) := fun w3 b k p q => ⟨cells_free p, p.f1, q.c0, q.c1, p.c0, p.c1⟩
    have FIN := Lib.hid fin
    clear fin
    cases hy : (byt s (a + 1) == 43)
    · have h1 : ¬ byt s (a + 1) = 43 := by simpa using hy
      have H4 := H3.out
      rw [show passAt 43 s (a + 1) = a + 1 from if_neg h1] at H4
      have H5 := Lib.hid H4
      have H6 := Lib.hid h1
      clear h1 H4 H3 hy
      go_wp2_with fail
      refine (pass_any 45 (by decide) H5.out (by omega) hs).mono ?_
      rintro e w3 ⟨rfl, hg3, hp3⟩
      have G3 := Lib.hid (grown_and G2.out hg3 (fun j e => .inl (by cases e; exact Nat.le_refl _)))
      have P3 := Lib.hid (P2.out.kept hg3 (by simp; omega))
      have hk : passAt 45 s (a + 1) = expFrom s a := by
        have := H6.out
        unfold passAt expFrom
        by_cases h : byt s (a + 1) = 45
        · rw [if_pos h, if_pos (.inr h)]
        · rw [if_neg h, if_neg (by simp [this, h])]
      have C := Lib.hid (GO.out w3 _ hk (passAt_le (by decide) (by omega)) G3.out P3.out hp3)
      clear hg3 hp3 hk
      go_wp2_with fail
      refine C.out.mono ?_
      rintro e w4 ⟨b, rfl, hE, hg, hp, hq, hr⟩
      obtain ⟨q0, q1, q2, q3, q4, q5⟩ := FIN.out w4 b _ hp hq
      have G4 := Lib.hid hg
      have P4 := Lib.hid hp
      have R := Lib.hid hr
      clear hg hp hq hr
      cases b
      · go_wp2_with fail
        go_end0
        exact ⟨rfl, G4.out, by rw [R.out]; exact P4.out⟩
      · go_wp2_with fail
        go_end0
        exact ⟨rfl, grown_two G4.out, by rw [R.out]; exact pos_two P4.out⟩
    · have h1 : byt s (a + 1) = 43 := by simpa using hy
      have hl2 : a + 1 < s.size := by
        by_cases h : a + 1 < s.size
        · exact h
        · rw [byt_out (by omega)] at h1; omega
      have H4 := H3.out
      rw [show passAt 43 s (a + 1) = a + 2 from if_pos h1] at H4
      have C := Lib.hid (GO.out w2 (a + 2) (if_pos (.inl h1)).symm (by omega) G2.out P2.out H4)
      clear h1 H4 H3 hy
      go_wp2_with fail
      refine C.out.mono ?_
      rintro e w4 ⟨b, rfl, hE, hg, hp, hq, hr⟩
      obtain ⟨q0, q1, q2, q3, q4, q5⟩ := FIN.out w4 b _ hp hq
      have G4 := Lib.hid hg
      have P4 := Lib.hid hp
      have R := Lib.hid hr
      clear hg hp hq hr
      cases b
      · go_wp2_with fail
        go_end0
        exact ⟨rfl, G4.out, by rw [R.out]; exact P4.out⟩
      · go_wp2_with fail
        go_end0
        exact ⟨rfl, grown_two G4.out, by rw [R.out]; exact pos_two P4.out⟩

end Go.Proofs.YtnmifeiokhpcfaaDoor
